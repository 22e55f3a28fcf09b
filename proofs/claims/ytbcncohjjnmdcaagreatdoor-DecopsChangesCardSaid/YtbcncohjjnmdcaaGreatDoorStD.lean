/- Storages: the methods of the given answers. -/
import Derived.Test.YtbcncohjjnmdcaaGreatDoorRows
import Derived.Test.YtbcncohjjnmdcaaGreatDoorStC
namespace Go.Proofs.YtbcncohjjnmdcaaGreatDoor
open Go.RowKit Go.Shelf
set_option linter.unusedVariables false
namespace E

/-- May an access be made, a fetch or a store? -/
def pF (f : Bool) (key : Int) (l : UInt8) : Bool := stP key l || (f && !(l.toNat % 2 == 1))
theorem pF_no (key : Int) : pF false key = stP key := by funext l; simp [pF]
theorem code_four {f : Bool} {key : Int} {ks : List UInt8} {x k q T : Nat} {C : Int} (hC : C = if allB (pF f key) ks x k = true then 0 else 4) (hT : T = x + k) (hxq : x ≤ q) (hq : q < T) (h : pF f key (gt ks (q / 2048)) = false) : C = 4 := by
  have e : x + (q - x) = q := by omega
  have h9 : allB (pF f key) ks x k = false := by
    refine allB_no (i := q - x) (by omega) ?_
    rw [e]
    exact h
  rw [hC, h9]
  rfl
set_option maxRecDepth 100000 in
set_option maxHeartbeats 2000000 in
theorem rcode_yes (f : Bool) (a g h n m c d : Nat) (x k : Nat) (key : Int) (bs ks : List UInt8) (w : World) (hxk : x + k ≤ n) (hst : Rfs w a g h n m c d bs ks) :
    Calls Tryz.prog 58 #[.pointer (some ⟨a, 0, none⟩), .int .i64 (x : Int), .int .i64 (k : Int), .int .i64 key, .bool f] w fun e w' => e = .returned (.int .i64 (if allB (pF f key) ks x k = true then 0 else 4)) ∧ w = w' := by
  have hnum := hst.nums
  have hin : inB n (x : Int) (k : Int) = true := inB_iff.2 ⟨by omega, by omega, by omega⟩
  have H1 := Lib.hid (rin_any a g n c (x : Int) (k : Int) w (by omega) hst.c0)
  rw [hin] at H1
  obtain ⟨C, hC⟩ : ∃ C : Int, C = if allB (pF f key) ks x k = true then 0 else 4 := ⟨_, rfl⟩
  rw [← hC]
  have HC := Lib.hid hC
  have HST := Lib.hid hst
  have c1 := hst.c1
  have HXK := Lib.hid hxk
  have HNUM := Lib.hid hnum
  have hex : wrap64 ((x : Int) + (k : Int)) = ((x + k : Nat) : Int) := by unfold wrap64; omega
  obtain ⟨T, hT⟩ : ∃ T, T = x + k := ⟨_, rfl⟩
  rw [← hT] at hex
  have HT := Lib.hid hT
  clear hnum hin hC hst hxk hT
  go_enter Tryz.func58, Tryz.ntmps58
  go_wp2_with fail
  refine H1.out.mono ?_
  rintro e w1 ⟨rfl, rfl⟩
  go_wp2
  go_loopw [11, 12] (fun i _ wr => wr = w ∧ ∃ q : Nat, x ≤ q ∧ q ≤ T ∧ i = .int .i64 (q : Int) ∧ ∀ j, j < q - x → pF f key (gt ks ((x + j) / 2048)) = true) (fun i _ _ => T - (intOf i).toNat)
  case atStart => exact ⟨rfl, x, Nat.le_refl _, by have := HT.out; omega, rfl, fun j hj => by omega⟩
  case round =>
    obtain ⟨rfl, q, hxq, hq, rfl, hall⟩ := hrel
    have HALL := Lib.hid hall
    by_cases hlt : q < T
    · obtain ⟨b, hb⟩ : ∃ b, b = q / 2048 := ⟨_, rfl⟩
      have hbm : b < m := by have := HNUM.out; have := HXK.out; have := HT.out; omega
      obtain ⟨v, hv⟩ : ∃ v, v = (gt ks b).toNat := ⟨_, rfl⟩
      have hv256 : v < 256 := by rw [hv]; exact (gt ks b).toNat_lt
      have hcell := HST.out.lock b hbm
      rw [← hv] at hcell
      have hqb : (q : Int) / 2048 = (b : Int) := by omega
      have hqT : (q : Int) < (T : Int) := by omega
      have hqw : wrap64 (b : Int) = (b : Int) := by have := HNUM.out; unfold wrap64; omega
      have hP : pF f key (gt ks (q / 2048)) = (key == 0 || key == (v : Int) / 2 || (f && !(v % 2 == 1))) := by
        unfold pF stP
        rw [← hb, ← hv, show ((v / 2 : Nat) : Int) = (v : Int) / 2 by omega]
      have hqs : (q : Int) ≤ 65536 := by have := HNUM.out; have := HXK.out; have := HT.out; omega
      have hbm' : (b : Int) < (m : Int) := by omega
      have HNO : Hid (pF f key (gt ks (q / 2048)) = false → C = 4) := Lib.hid (code_four HC.out HT.out hxq hlt)
      clear hall hb hv
      by_cases h0 : key = 0
      · have HP : Hid (pF f key (gt ks (q / 2048)) = true) := Lib.hid (by rw [hP, h0]; rfl)
        have e0 : (key != 0) = false := by rw [h0]; rfl
        clear h0
        clear hP
        go_wp2
        go_roundw
        case rel => exact ⟨trivial, q + 1, by omega, by omega, by go_num, fun j hj => by
          rcases Nat.lt_or_ge j (q - x) with h | h
          · exact HALL.out j h
          · rw [show x + j = q by omega]; exact HP.out⟩
        case measure => simp [intOf]; omega
      · by_cases h2 : key = (v : Int) / 2
        · have HP : Hid (pF f key (gt ks (q / 2048)) = true) := Lib.hid (by rw [hP]; simp [h2])
          have e0 : (key != 0) = true := by simpa using h0
          have e2 : (key != (v : Int) / 2) = false := by simpa using h2
          clear h0 h2
          clear hP
          go_wp2
          go_roundw
          case rel => exact ⟨trivial, q + 1, by omega, by omega, by go_num, fun j hj => by
            rcases Nat.lt_or_ge j (q - x) with h | h
            · exact HALL.out j h
            · rw [show x + j = q by omega]; exact HP.out⟩
          case measure => simp [intOf]; omega
        · cases f with
          | false =>
            obtain rfl : C = 4 := HNO.out (by rw [hP]; simp [h0, h2])
            have e0 : (key != 0) = true := by simpa using h0
            have e2 : (key != (v : Int) / 2) = true := by simpa using h2
            clear hP h0 h2
            go_wp2
            go_ret
            exact ⟨rfl, rfl⟩
          | true =>
            by_cases h3 : (v : Int) % 2 = 1
            · obtain rfl : C = 4 := HNO.out (by rw [hP]; simp [h0, h2]; omega)
              have e0 : (key != 0) = true := by simpa using h0
              have e2 : (key != (v : Int) / 2) = true := by simpa using h2
              clear hP h0 h2
              go_wp2
              go_ret
              exact ⟨rfl, rfl⟩
            · have HP : Hid (pF true key (gt ks (q / 2048)) = true) := Lib.hid (by rw [hP]; simp; right; omega)
              have e0 : (key != 0) = true := by simpa using h0
              have e2 : (key != (v : Int) / 2) = true := by simpa using h2
              clear h0 h2
              clear hP
              go_wp2
              go_roundw
              case rel => exact ⟨trivial, q + 1, by omega, by omega, by go_num, fun j hj => by
                rcases Nat.lt_or_ge j (q - x) with h | h
                · exact HALL.out j h
                · rw [show x + j = q by omega]; exact HP.out⟩
              case measure => simp [intOf]; omega
    · obtain rfl : q = T := by omega
      have hc0 : C = 0 := by
        rw [HC.out, if_pos]
        rw [allB_iff]
        intro j hj
        exact HALL.out j (by have := HT.out; omega)
      subst hc0
      clear hall
      go_wp2
      go_ret
      exact ⟨rfl, rfl⟩

end E
end Go.Proofs.YtbcncohjjnmdcaaGreatDoor
namespace Go.Proofs.YtbcncohjjnmdcaaGreatDoor
open Go.RowKit Go.Shelf
set_option linter.unusedVariables false
namespace E

theorem rcode_any (f : Bool) (a g h n m c d : Nat) (x k key : Int) (bs ks : List UInt8) (w : World) (hst : Rfs w a g h n m c d bs ks) :
    Calls Tryz.prog 58 #[.pointer (some ⟨a, 0, none⟩), .int .i64 x, .int .i64 k, .int .i64 key, .bool f] w fun e w' => e = .returned (.int .i64 (codeV (pF f key) n ks x k)) ∧ w = w' := by
  have hnum := hst.nums
  unfold codeV
  by_cases hi : inB n x k = true
  · obtain ⟨h1, h2, h3⟩ := inB_iff.1 hi
    rw [if_pos hi]
    obtain ⟨X, rfl⟩ := Int.eq_ofNat_of_zero_le h1
    obtain ⟨Z, rfl⟩ := Int.eq_ofNat_of_zero_le h2
    exact rcode_yes f a g h n m c d X Z key bs ks w (by omega) hst
  · rw [if_neg hi]
    have H1 := Lib.hid (rin_any a g n c x k w (by omega) hst.c0)
    rw [show inB n x k = false by simpa using hi] at H1
    clear hnum hi hst
    go_enter Tryz.func58, Tryz.ntmps58
    go_wp2_with fail
    refine H1.out.mono ?_
    rintro e w1 ⟨rfl, rfl⟩
    go_wp2
    go_ret
    exact ⟨rfl, rfl⟩
/-- What the given SetKey leaves. -/
def RSetPost (w : World) (a g h n m c d : Nat) (bs ks : List UInt8) (v : Value) (e : Ending) (w' : World) : Prop := e = .returned v ∧ w.grownBy w' (some h) ∧ Rfs w' a g h n m c d bs ks
def RPutPost (w : World) (a g h n m c d : Nat) (bs ks : List UInt8) (v : Value) (e : Ending) (w' : World) : Prop := e = .returned v ∧ w.grownBy w' (some g) ∧ Rfs w' a g h n m c d bs ks
set_option maxRecDepth 100000 in
set_option maxHeartbeats 1000000 in
theorem rsetKey_any (a g h n m c d : Nat) (x key : Int) (bs ks : List UInt8) (w : World) (hst : Rfs w a g h n m c d bs ks) :
    Calls Tryz.prog 33 #[.pointer (some ⟨a, 0, none⟩), .int .i64 x, .int .i64 key] w (RSetPost w a g h n m c d bs (setK n ks x key) (.bool (setOk n x key))) := by
  have hnum := hst.nums
  have HST := Lib.hid hst
  have c0 := hst.c0
  have hcM : c ≤ 9223372036854775807 := hnum.2.2.2.2.2.1
  by_cases hok : setOk n x key = true
  · have h0 := hok
    unfold setOk at h0
    rw [Bool.and_eq_true] at h0
    obtain ⟨hi, hk⟩ := h0
    obtain ⟨k0, k1⟩ := of_decide_eq_true hk
    obtain ⟨h1, h2, h3⟩ := inB_iff.1 hi
    obtain ⟨X, rfl⟩ := Int.eq_ofNat_of_zero_le h1
    obtain ⟨kk, rfl⟩ := Int.eq_ofNat_of_zero_le k0
    obtain ⟨B, hB⟩ : ∃ B, B = X / 2048 := ⟨_, rfl⟩
    have hset : setK n ks (X : Int) (kk : Int) = ks.set B (UInt8.ofNat kk) := by unfold setK; rw [if_pos hok, hB]; rfl
    rw [hset, hok]
    have hkb : (UInt8.ofNat kk).toNat = kk := by rw [UInt8.toNat_ofNat']; exact Nat.mod_eq_of_lt (by show kk < 256; omega)
    have hBm : B < m := by omega
    have hBm' : (B : Int) < (m : Int) := by omega
    obtain ⟨hr1, hr2⟩ := hst.2.2.1.set B (.int .i64 (kk : Int))
    have hr3 : (bsI ks).set B (.int .i64 (kk : Int)) = bsI (ks.set B (UInt8.ofNat kk)) := by rw [← bsI_set, hkb]
    rw [hr3] at hr1
    have HR := Lib.hid (And.intro (hst.relocked hr1 (by rw [List.length_set]; exact hnum.2.1) hr2) hr2)
    have c1 := hst.c1
    have c2 := hst.lock B hBm
    have f2 := hst.2.2.1.frozen B
    have hXB : (X : Int) / 2048 = (B : Int) := by omega
    have hBw : wrap64 (B : Int) = (B : Int) := by unfold wrap64; omega
    have hXn : (X : Int) < (n : Int) := by omega
    have hk31 : ¬ (31 : Int) < (kk : Int) := by omega
    clear hnum hok hi hk k1 h1 h2 h3 hB hset hkb hr1 hr2 hr3 hst
    go_enter Tryz.func33, Tryz.ntmps33
    go_wp2
    go_ret
    exact ⟨rfl, HR.out.2, HR.out.1⟩
  · have hset : setK n ks x key = ks := by unfold setK; rw [if_neg hok]
    rw [hset, show setOk n x key = false by simpa using hok]
    have hno : x < 0 ∨ (n : Int) ≤ x ∨ key < 0 ∨ 31 < key := by
      rcases Classical.em (x < 0) with h | h
      · exact .inl h
      · rcases Classical.em ((n : Int) ≤ x) with h' | h'
        · exact .inr (.inl h')
        · rcases Classical.em (key < 0) with h2 | h2
          · exact .inr (.inr (.inl h2))
          · refine .inr (.inr (.inr ?_))
            rcases Classical.em (31 < key) with h3 | h3
            · exact h3
            · exact absurd (by unfold setOk; rw [inB_iff.2 ⟨by omega, by omega, by omega⟩, decide_eq_true ⟨by omega, by omega⟩]; rfl) hok
    clear hok hset hnum hst
    by_cases e1 : x < 0
    · clear hno
      go_enter Tryz.func33, Tryz.ntmps33
      go_wp2
      go_ret
      exact ⟨rfl, World.grownBy.refl _ _, HST.out⟩
    · by_cases e2 : (n : Int) ≤ x
      · clear hno
        go_enter Tryz.func33, Tryz.ntmps33
        go_wp2
        go_ret
        exact ⟨rfl, World.grownBy.refl _ _, HST.out⟩
      · by_cases e3 : key < 0
        · clear hno
          go_enter Tryz.func33, Tryz.ntmps33
          go_wp2
          go_ret
          exact ⟨rfl, World.grownBy.refl _ _, HST.out⟩
        · have e4 : 31 < key := by omega
          clear hno
          go_enter Tryz.func33, Tryz.ntmps33
          go_wp2
          go_ret
          exact ⟨rfl, World.grownBy.refl _ _, HST.out⟩
end E
end Go.Proofs.YtbcncohjjnmdcaaGreatDoor
namespace Go.Proofs.YtbcncohjjnmdcaaGreatDoor
open Go.RowKit Go.Shelf
set_option linter.unusedVariables false
namespace E

theorem putL_step {bs b : List UInt8} {X j : Nat} (hj : j < b.length) (hl : X + b.length ≤ bs.length) : (putL bs X (b.take j)).set (X + j) (gt b j) = putL bs X (b.take (j + 1)) := by
  have h1 : (b.take j).length = j := by rw [List.length_take]; omega
  have h2 : (b.take (j + 1)).length = j + 1 := by rw [List.length_take]; omega
  have l1 : (putL bs X (b.take j)).length = bs.length := putL_len (by omega)
  have l2 : (putL bs X (b.take (j + 1))).length = bs.length := putL_len (by omega)
  refine ext_gt (by rw [List.length_set, l1, l2]) fun i hi => ?_
  rw [gt_setX (by omega), gt_putL (by omega), gt_putL (by omega), h1, h2]
  have gtake : ∀ k i, i < k → gt (b.take k) i = gt b i := fun k i h => by
    unfold gt
    simp only [List.getD_eq_getElem?_getD]
    rw [List.getElem?_take, if_pos h]
  by_cases e : i = X + j
  · rw [if_pos e, if_pos (by omega), gtake _ _ (by omega)]
    congr 1
    omega
  · rw [if_neg e]
    by_cases e2 : X ≤ i ∧ i < X + j
    · rw [if_pos e2, if_pos (by omega), gtake _ _ (by omega), gtake _ _ (by omega)]
    · rw [if_neg e2, if_neg (by omega)]
theorem Rfs.step {w wr : World} {a g h n m c d X j : Nat} {bs ks b : List UInt8} (s : Rfs wr a g h n m c d (putL bs X (b.take j)) ks) (hg : w.grownBy wr (some g)) (hbs : bs.length = n) (hj : j < b.length) (hl : X + b.length ≤ n) :
    w.grownBy (wr.setCell ⟨g, X + j, none⟩ (.int .u8 ((gt b j).toNat : Int))) (some g) ∧ Rfs (wr.setCell ⟨g, X + j, none⟩ (.int .u8 ((gt b j).toNat : Int))) a g h n m c d (putL bs X (b.take (j + 1))) ks := by
  obtain ⟨h1, h2⟩ := s.2.1.set (X + j) (.int .u8 ((gt b j).toNat : Int))
  rw [bsU_set, putL_step hj (by omega)] at h1
  exact ⟨hg.trans h2, s.spliced h1 (by rw [putL_len (by rw [List.length_take]; omega), hbs]) h2⟩
theorem Rfs.stepped {w wr : World} {a g h n m c d X j : Nat} {bs ks b : List UInt8} (s : Rfs wr a g h n m c d (putL bs X (b.take j)) ks) (hg : w.grownBy wr (some g)) (hbs : bs.length = n) (hj : j < b.length) (hl : X + b.length ≤ n) {q v : Nat} (hq : q = X + j) (hv : v = (gt b j).toNat) :
    w.grownBy (wr.setCell ⟨g, q, none⟩ (.int .u8 (v : Int))) (some g) ∧ Rfs (wr.setCell ⟨g, q, none⟩ (.int .u8 (v : Int))) a g h n m c d (putL bs X (b.take (j + 1))) ks := by
  subst hq hv
  exact s.step hg hbs hj hl
theorem i64add {X j q : Nat} (h : q = X + j) (h2 : q ≤ 131072) : IntKind.i64.wrap ((X : Int) + (j : Int)) = (q : Int) := by
  simp [IntKind.wrap, IntKind.bits, IntKind.signed]; omega
set_option maxRecDepth 100000 in
set_option maxHeartbeats 1000000 in
theorem rput_yes (a g h n m c d X : Nat) (key : Int) (p : Option Addr) (cb : Nat) (b bs ks : List UInt8) (w : World) (hst : Rfs w a g h n m c d bs ks) (hr : ∀ w', w.grownBy w' (some g) → Rd w' p b) (h0 : codeV (stP key) n ks (X : Int) (b.length : Int) = 0) :
    Calls Tryz.prog 31 #[.pointer (some ⟨a, 0, none⟩), .int .i64 (X : Int), .slice p b.length cb, .int .i64 key] w (RPutPost w a g h n m c d (putL bs X b) ks (.int .i64 0)) := by
  have hnum := hst.nums
  have H2 := Lib.hid (rcode_any false a g h n m c d (X : Int) (b.length : Int) key bs ks w hst)
  rw [pF_no, h0] at H2
  obtain ⟨i1, i2, i3⟩ := inB_iff.1 (codeV_in h0)
  obtain ⟨lb, hlb⟩ : ∃ lb, lb = b.length := ⟨_, rfl⟩
  rw [← hlb] at H2 ⊢
  have HXL : Hid (X + b.length ≤ n ∧ n ≤ 65536 ∧ lb = b.length) := Lib.hid ⟨by omega, by omega, hlb⟩
  have HBS := Lib.hid hnum.1
  have HR := Lib.hid hr
  have HST := Lib.hid hst
  clear hnum i1 i2 i3 hlb hr hst h0
  go_enter Tryz.func31, Tryz.ntmps31
  go_wp2_with fail
  refine H2.out.mono ?_
  rintro e w1 ⟨rfl, rfl⟩
  go_wp2
  go_loopw [10] (fun i wr => w.grownBy wr (some g) ∧ Rfs wr a g h n m c d (putL bs X (b.take (intOf i).toNat)) ks ∧ ∃ j : Nat, j ≤ lb ∧ i = .int .i64 (j : Int)) (fun i _ => lb - (intOf i).toNat)
  case atStart => exact ⟨World.grownBy.refl _ _, by simpa [intOf, putL] using HST.out, 0, Nat.zero_le _, rfl⟩
  case round =>
    obtain ⟨hg, hs, j, hj, rfl⟩ := hrel
    have hs' : Rfs wr a g h n m c d (putL bs X (b.take j)) ks := hs
    have HS := Lib.hid hs'
    have HG := Lib.hid hg
    clear hs hs' hg
    by_cases hlt : j < lb
    · have hjb : j < b.length := by have := HXL.out.2.2; omega
      obtain ⟨B, off, rfl, hcb⟩ : ∃ B off, p = some ⟨B, off, none⟩ ∧ wr.cell? ⟨B, off + j, none⟩ = some (.int .u8 ((gt b j).toNat : Int)) := by
        rcases HR.out wr HG.out with h1 | ⟨B, off, h1, h2⟩
        · rw [h1] at hjb; simp at hjb
        · exact ⟨B, off, h1, h2 j hjb⟩
      have hfar : B ≠ g ∨ True := .inr trivial
      have hcb2 : ∀ v : Value, (wr.drew.setCell ⟨g, X + j, none⟩ v).cell? ⟨B, off + j, none⟩ = some (.int .u8 ((gt b j).toNat : Int)) ∨ True := fun _ => .inr trivial
      obtain ⟨q, hq⟩ : ∃ q, q = X + j := ⟨_, rfl⟩
      obtain ⟨v, hv⟩ : ∃ v, v = (gt b j).toNat := ⟨_, rfl⟩
      have hqn : q < n := by have := HXL.out; omega
      have hsd := HS.out.below (Below.refl wr.heap.size wr).drew
      have hgd := gtrans HG.out (Below.refl wr.heap.size wr).drew
      have HN := Lib.hid (hsd.stepped hgd HBS.out hjb HXL.out.1 hq hv)
      have hfin : ∀ W, (W = wr.drew ∨ W = wr.drew.setCell ⟨g, q, none⟩ (.int .u8 (v : Int))) → w.grownBy W (some g) := fun W hW => by
        rcases hW with rfl | rfl
        · exact hgd
        · exact HN.out.1
      have HCB : Hid (∀ W, (W = wr.drew ∨ W = wr.drew.setCell ⟨g, q, none⟩ (.int .u8 (v : Int))) → W.cell? ⟨B, off + j, none⟩ = some (.int .u8 (v : Int))) := Lib.hid (fun W hW => by
        rcases HR.out W (hfin W hW) with h1 | ⟨B', off', h1, h2⟩
        · rw [h1] at hjb; simp at hjb
        · obtain ⟨rfl, rfl⟩ : B = B' ∧ off = off' := by simpa using h1
          rw [hv]
          exact h2 j hjb)
      have HC0 : Hid (∀ W, (W = wr.drew ∨ W = wr.drew.setCell ⟨g, q, none⟩ (.int .u8 (v : Int))) → W.cell? ⟨a, 0, none⟩ = some (.slice (some ⟨g, 0, none⟩) n c)) := Lib.hid (fun W hW => by
        rcases hW with rfl | rfl
        · exact hsd.c0
        · exact HN.out.2.c0)
      have c2 : ∃ u, wr.drew.cell? ⟨g, q, none⟩ = some u := ⟨_, hsd.byte q hqn⟩
      obtain ⟨u, hu⟩ := c2
      have f2 := hsd.2.1.frozen q
      have hjl : (j : Int) < (lb : Int) := by omega
      have hqn' : (q : Int) < (n : Int) := by omega
      have hq6 : q ≤ 65536 := by have := HXL.out; omega
      have hlb6 : (lb : Int) ≤ 65536 := by have := HXL.out; omega
      have HQ6 := Lib.hid (i64add hq (by omega))
      clear hsd hgd hfin hfar hcb2 hcb hjb hq hv hq6 HS HG
      go_upto_region 5 with fail
      have hw6 := HQ6.out
      refine wp_region_noPanic ?_
      refine wp_region_held_drew (S := fun W => W = wr.drew ∨ W = wr.drew.setCell ⟨g, q, none⟩ (.int .u8 (v : Int))) (by kernel_rfl) (.inl rfl) (fun k0 => ?_)
      show wpAnyH _ _ _ _ _ 13 #[false, false, false, false, false, false, false, false, false, false, false, false, false] _ _
      refine wpAnyH_take (i := 0) (oi := ⟨some 27, _, _, _, _, _⟩) (v := .pointer (some ⟨a, 0, none⟩)) rfl (by kernel_rfl) (by kernel_rfl) (by kernel_rfl) (fun _ _ _ h => h) (Or.inl ⟨by rfl, fun W hSw => by (try dsimp only at hSw); go_simp⟩) k0 ?_
      try simp only [Act.put, List.setIfInBounds_toArray, List.set_cons_zero, List.set_cons_succ]
      refine wpAnyH_take (i := 1) (oi := ⟨some 28, _, _, _, _, _⟩) (v := .pointer (some ⟨a, 0, none⟩)) rfl (by kernel_rfl) (by kernel_rfl) (by kernel_rfl) (fun _ _ _ h => h) (Or.inl ⟨by rfl, fun W hSw => by (try dsimp only at hSw); go_simp⟩) k0 ?_
      try simp only [Act.put, List.setIfInBounds_toArray, List.set_cons_zero, List.set_cons_succ]
      refine wpAnyH_take (i := 2) (oi := ⟨some 29, _, _, _, _, _⟩) (v := .pointer (some ⟨a, 0, none⟩)) rfl (by kernel_rfl) (by kernel_rfl) (by kernel_rfl) (fun _ _ _ h => h) (Or.inl ⟨by rfl, fun W hSw => by (try dsimp only at hSw); go_simp⟩) k0 ?_
      try simp only [Act.put, List.setIfInBounds_toArray, List.set_cons_zero, List.set_cons_succ]
      refine wpAnyH_take (i := 3) (oi := ⟨some 30, _, _, _, _, _⟩) (v := .slice (some ⟨g, 0, none⟩) n c) rfl (by kernel_rfl) (by kernel_rfl) (by kernel_rfl) (fun _ _ _ h => h) (Or.inl ⟨by rfl, fun W hSw => by have cc := HC0.out W hSw; clear hSw; go_simp⟩) k0 ?_
      try simp only [Act.put, List.setIfInBounds_toArray, List.set_cons_zero, List.set_cons_succ]
      refine wpAnyH_take (i := 4) (oi := ⟨some 31, _, _, _, _, _⟩) (v := .int .i64 (X : Int)) rfl (by kernel_rfl) (by kernel_rfl) (by kernel_rfl) (fun _ _ _ h => h) (Or.inl ⟨by rfl, fun W hSw => by (try dsimp only at hSw); go_simp⟩) k0 ?_
      try simp only [Act.put, List.setIfInBounds_toArray, List.set_cons_zero, List.set_cons_succ]
      refine wpAnyH_take (i := 5) (oi := ⟨some 32, _, _, _, _, _⟩) (v := .int .i64 (j : Int)) rfl (by kernel_rfl) (by kernel_rfl) (by kernel_rfl) (fun _ _ _ h => h) (Or.inl ⟨by rfl, fun W hSw => by (try dsimp only at hSw); go_simp⟩) k0 ?_
      try simp only [Act.put, List.setIfInBounds_toArray, List.set_cons_zero, List.set_cons_succ]
      refine wpAnyH_take (i := 6) (oi := ⟨some 33, _, _, _, _, _⟩) (v := .int .i64 (q : Int)) rfl (by kernel_rfl) (by kernel_rfl) (by kernel_rfl) (fun _ _ _ h => h) (Or.inl ⟨by rfl, fun W hSw => by (try dsimp only at hSw); go_simp⟩) k0 ?_
      try simp only [Act.put, List.setIfInBounds_toArray, List.set_cons_zero, List.set_cons_succ]
      refine wpAnyH_take (i := 7) (oi := ⟨some 34, _, _, _, _, _⟩) (v := .slice (some ⟨B, off, none⟩) lb cb) rfl (by kernel_rfl) (by kernel_rfl) (by kernel_rfl) (fun _ _ _ h => h) (Or.inl ⟨by rfl, fun W hSw => by (try dsimp only at hSw); go_simp⟩) k0 ?_
      try simp only [Act.put, List.setIfInBounds_toArray, List.set_cons_zero, List.set_cons_succ]
      refine wpAnyH_take (i := 8) (oi := ⟨some 35, _, _, _, _, _⟩) (v := .int .i64 (j : Int)) rfl (by kernel_rfl) (by kernel_rfl) (by kernel_rfl) (fun _ _ _ h => h) (Or.inl ⟨by rfl, fun W hSw => by (try dsimp only at hSw); go_simp⟩) k0 ?_
      try simp only [Act.put, List.setIfInBounds_toArray, List.set_cons_zero, List.set_cons_succ]
      refine wpAnyH_take (i := 9) (oi := ⟨some 36, _, _, _, _, _⟩) (v := .pointer (some ⟨B, off + j, none⟩)) rfl (by kernel_rfl) (by kernel_rfl) (by kernel_rfl) (fun _ _ _ h => h) (Or.inl ⟨by rfl, fun W hSw => by (try dsimp only at hSw); go_simp⟩) k0 ?_
      try simp only [Act.put, List.setIfInBounds_toArray, List.set_cons_zero, List.set_cons_succ]
      refine wpAnyH_take (i := 10) (oi := ⟨some 37, _, _, _, _, _⟩) (v := .int .u8 (v : Int)) rfl (by kernel_rfl) (by kernel_rfl) (by kernel_rfl) (fun _ _ _ h => h) (Or.inl ⟨by rfl, fun W hSw => by have cc := HCB.out W hSw; clear hSw; go_simp⟩) k0 ?_
      try simp only [Act.put, List.setIfInBounds_toArray, List.set_cons_zero, List.set_cons_succ]
      refine wpAnyH_take (i := 11) (oi := ⟨some 38, _, _, _, _, _⟩) (v := .pointer (some ⟨g, q, none⟩)) rfl (by kernel_rfl) (by kernel_rfl) (by kernel_rfl) (fun _ _ _ h => h) (Or.inl ⟨by rfl, fun W hSw => by (try dsimp only at hSw); go_simp⟩) k0 ?_
      try simp only [Act.put, List.setIfInBounds_toArray, List.set_cons_zero, List.set_cons_succ]
      refine wpAnyH_ready (rs := [12]) (by kernel_rfl) (by simp) ?_
      refine AllReadyH.cons (o := ⟨none, _, _, _, _, _⟩) rfl (fun K hK => ?_) AllReadyH.nil
      go_simp
      refine hK.out _ _ (.inr rfl) (fun k1 => ?_)
      clear hK K
      try simp only [List.setIfInBounds_toArray, List.set_cons_zero, List.set_cons_succ]
      refine wpAnyH_done (by kernel_rfl) ?_ _
      refine NoPanic.normal ?_
      clear k0 k1
      go_wp2
      go_roundw
      case rel => exact ⟨HN.out.1, HN.out.2, j + 1, hlt, by go_num⟩
      case measure => simp [intOf]; omega
    · obtain rfl : j = lb := by omega
      have hfin : Rfs wr a g h n m c d (putL bs X b) ks := by
        have h1 := HS.out
        rw [HXL.out.2.2, List.take_length] at h1
        exact h1
      have HF := Lib.hid hfin
      clear hfin
      go_wp2
      go_ret
      exact ⟨rfl, HG.out, HF.out⟩
theorem rput_no (a g h n m c d : Nat) (x key : Int) (p : Option Addr) (lb cb : Nat) (bs ks : List UInt8) (w : World) (hst : Rfs w a g h n m c d bs ks) (h0 : codeV (stP key) n ks x (lb : Int) ≠ 0) :
    Calls Tryz.prog 31 #[.pointer (some ⟨a, 0, none⟩), .int .i64 x, .slice p lb cb, .int .i64 key] w (RPutPost w a g h n m c d bs ks (.int .i64 (codeV (stP key) n ks x (lb : Int)))) := by
  have H2 := Lib.hid (rcode_any false a g h n m c d x (lb : Int) key bs ks w hst)
  rw [pF_no] at H2
  have HST := Lib.hid hst
  generalize codeV (stP key) n ks x (lb : Int) = C at *
  clear hst
  have e0 : (C == 0) = false := by simpa using h0
  go_enter Tryz.func31, Tryz.ntmps31
  go_wp2_with fail
  refine H2.out.mono ?_
  rintro e w1 ⟨rfl, rfl⟩
  go_wp2
  go_loopw [10] (fun i wr => wr = w ∧ i = .int .i64 0) (fun i _ => 0)
  case atStart => exact ⟨rfl, rfl⟩
  case round =>
    obtain ⟨rfl, rfl⟩ := hrel
    by_cases hl : 0 < lb
    · have hl' : (0 : Int) < (lb : Int) := by omega
      go_wp2
      go_ret
      exact ⟨rfl, World.grownBy.refl _ _, HST.out⟩
    · have hl' : ¬ (0 : Int) < (lb : Int) := by omega
      go_wp2
      go_ret
      exact ⟨rfl, World.grownBy.refl _ _, HST.out⟩
theorem rput_any (a g h n m c d : Nat) (x key : Int) (v : Value) (b bs ks : List UInt8) (w : World) (hst : Rfs w a g h n m c d bs ks) (hv : ∀ w', w.grownBy w' (some g) → SvB w' v b) :
    Calls Tryz.prog 31 #[.pointer (some ⟨a, 0, none⟩), .int .i64 x, v, .int .i64 key] w (RPutPost w a g h n m c d (putB (stP key) n bs ks x b) ks (.int .i64 (codeV (stP key) n ks x (b.length : Int)))) := by
  obtain ⟨p, cb, rfl, -⟩ := hv w (World.grownBy.refl _ _)
  have hr : ∀ w', w.grownBy w' (some g) → Rd w' p b := fun w' hg => by
    obtain ⟨p', cb', h1, h2, -⟩ := hv w' hg
    injection h1 with e1 _ _
    rw [e1]
    exact h2
  unfold putB
  by_cases h0 : codeV (stP key) n ks x (b.length : Int) = 0
  · rw [if_pos h0]
    obtain ⟨i1, i2, i3⟩ := inB_iff.1 (codeV_in h0)
    obtain ⟨X, rfl⟩ := Int.eq_ofNat_of_zero_le i1
    rw [h0]
    exact rput_yes a g h n m c d X key p cb b bs ks w hst hr h0
  · rw [if_neg h0]
    exact rput_no a g h n m c d x key p b.length cb bs ks w hst h0
end E
end Go.Proofs.YtbcncohjjnmdcaaGreatDoor
namespace Go.Proofs.YtbcncohjjnmdcaaGreatDoor
open Go.RowKit Go.Shelf
set_option linter.unusedVariables false
namespace E

theorem own_some {w : World} {base n : Nat} {t : TypeId} {v : Value} {xs : List Value} (h : w.ownsRow base t 1 v n xs) (hn : 0 < n) (hx : xs.length = n) : ∃ g c, v = .slice (some ⟨g, 0, none⟩) n c ∧ base ≤ g ∧ c ≤ 9223372036854775807 ∧ Row w g t xs c := by
  have h' := h
  obtain ⟨_, ⟨_, h2⟩ | ⟨g, cap, cur, hv, hg, hh, hle, hm, hsz, ht⟩⟩ := h
  · omega
  · subst hv
    exact ⟨g, cap, rfl, hg, by unfold maxLen at hm; omega, own_row h' hx⟩
end E
end Go.Proofs.YtbcncohjjnmdcaaGreatDoor
