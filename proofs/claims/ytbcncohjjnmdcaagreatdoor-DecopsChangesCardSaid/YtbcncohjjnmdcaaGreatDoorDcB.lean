/- The contracts of drop and of the reading of a number. -/
import Derived.Test.YtbcncohjjnmdcaaGreatDoorRows
import Derived.WalkSpells
import Derived.Test.YtbcncohjjnmdcaaGreatDoorDcA
import Derived.Test.YtbcncohjjnmdcaaGreatDoorPsLaid
namespace Go.Proofs.YtbcncohjjnmdcaaGreatDoor
open Go.RowKit Go.Shelf
set_option linter.unusedVariables false
namespace E

/-- A pair's two words, and what they say. -/
def Pw (x c d : Nat) : Prop := x = c * 18446744073709551616 + d ∧ d < 18446744073709551616
theorem Pw.pv {x c d : Nat} (h : Pw x c d) : pv x = .agg #[.int .u64 (c : Int), .int .u64 (d : Int)] := pv_mk h.1 h.2
theorem Pw.ex (x : Nat) : ∃ c d, Pw x c d := ⟨x / 18446744073709551616, x % 18446744073709551616, by omega, Nat.mod_lt _ (by decide)⟩
/-- A quotient's words, and a remainder. -/
def QcPost (w : World) (q r : Nat) (e : Ending) (w' : World) : Prop := ∃ c d, Pw q c d ∧ e = .returned (.tuple #[.agg #[.int .u64 (c : Int), .int .u64 (d : Int)], .int .u64 (r : Int)]) ∧ Below w.heap.size w w'
theorem pdiv_cells (x y c d : Nat) (w : World) (hp : Pw x c d) (hx : x < 340282366920938463463374607431768211456) (h0 : 0 < y) (hy : y < 18446744073709551616) :
    Calls Tryz.prog 170 #[.agg #[.int .u64 (c : Int), .int .u64 (d : Int)], .int .u64 (y : Int)] w (QcPost w (x / y) (x % y)) := by
  rw [← hp.pv]
  refine (pdiv_any x y w hx h0 hy).mono fun e w' h => ?_
  obtain ⟨he, hb⟩ := h
  obtain ⟨c', d', hq⟩ := Pw.ex (x / y)
  exact ⟨c', d', hq, by rw [he, hq.pv], hb⟩
/-- A number's words are returned. -/
def PwPost (w : World) (x : Nat) (e : Ending) (w' : World) : Prop := ∃ c d, Pw x c d ∧ e = .returned (.agg #[.int .u64 (c : Int), .int .u64 (d : Int)]) ∧ Below w.heap.size w w'
theorem New.pw {f : Nat} {args : Array Value} {w : World} {x : Nat} (h : Calls Tryz.prog f args w (New w (pv x))) : Calls Tryz.prog f args w (PwPost w x) :=
  h.mono fun e w' ⟨he, hb⟩ => by
    obtain ⟨c, d, hq⟩ := Pw.ex x
    exact ⟨c, d, hq, by rw [he, hq.pv], hb⟩
theorem pplus_cells (x y a b c d : Nat) (w : World) (hp : Pw x a b) (hq : Pw y c d) (h : x + y < 340282366920938463463374607431768211456) :
    Calls Tryz.prog 194 #[.agg #[.int .u64 (a : Int), .int .u64 (b : Int)], .agg #[.int .u64 (c : Int), .int .u64 (d : Int)]] w (PwPost w (x + y)) := by
  rw [← hp.pv, ← hq.pv]
  exact New.pw (pplus_any x y w h)
theorem pminus_cells (x y a b c d : Nat) (w : World) (hp : Pw x a b) (hq : Pw y c d) (hx : x < 340282366920938463463374607431768211456) (h : y ≤ x) :
    Calls Tryz.prog 196 #[.agg #[.int .u64 (a : Int), .int .u64 (b : Int)], .agg #[.int .u64 (c : Int), .int .u64 (d : Int)]] w (PwPost w (x - y)) := by
  rw [← hp.pv, ← hq.pv]
  exact New.pw (pminus_any x y w hx h)
theorem ptimes_cells (x y a b : Nat) (w : World) (hp : Pw x a b) (hx : x < 340282366920938463463374607431768211456) (hy : y < 18446744073709551616) (h : x * y < 340282366920938463463374607431768211456) :
    Calls Tryz.prog 169 #[.agg #[.int .u64 (a : Int), .int .u64 (b : Int)], .int .u64 (y : Int)] w (PwPost w (x * y)) := by
  rw [← hp.pv]
  exact New.pw (ptimes_any x y w hx hy h)
theorem pcompare_cells (x y a b c d : Nat) (w : World) (hp : Pw x a b) (hq : Pw y c d) (hx : x < 340282366920938463463374607431768211456) (hy : y < 340282366920938463463374607431768211456) :
    Calls Tryz.prog 195 #[.agg #[.int .u64 (a : Int), .int .u64 (b : Int)], .agg #[.int .u64 (c : Int), .int .u64 (d : Int)]] w (CpPost w x y) := by
  rw [← hp.pv, ← hq.pv]
  exact pcompare_any x y w hx hy
/-- What is left of a number without its last digits, rounded. -/
def dropN (x n r : Nat) : Nat := x / 10 ^ n + if 10 ≤ x / 10 ^ (n - 1) % 10 + r then 1 else 0
theorem div_step (x k : Nat) : x / 10 ^ (k + 1) = x / 10 ^ k / 10 := by rw [Nat.pow_succ, Nat.div_div_eq_div_mul]
set_option maxRecDepth 100000 in
set_option maxHeartbeats 2000000 in
theorem pdrop_any (x n r a b : Nat) (w : World) (hp : Pw x a b) (hx : x < 100000000000000000000000000000000) (h1 : 1 ≤ n) (h2 : n ≤ 100) (hr : r ≤ 9) :
    Calls Tryz.prog 171 #[.agg #[.int .u64 (a : Int), .int .u64 (b : Int)], .int .i64 (n : Int), .int .u64 (r : Int)] w (PwPost w (dropN x n r)) := by
  have hbx : Bx ((w.alloc (.cells #[.int .u64 (a : Int), .int .u64 (b : Int)] 165)).alloc (.cells #[.int .u64 0, .int .u64 0] 165)) w.heap.size 165 #[.int .u64 (a : Int), .int .u64 (b : Int)] := (Bx.new w _ _).below (below_new _ _)
  have hby : Bx ((w.alloc (.cells #[.int .u64 (a : Int), .int .u64 (b : Int)] 165)).alloc (.cells #[.int .u64 0, .int .u64 0] 165)) (w.heap.size + 1) 165 #[.int .u64 0, .int .u64 0] := by
    have h := Bx.new (w.alloc (.cells #[.int .u64 (a : Int), .int .u64 (b : Int)] 165)) 165 #[.int .u64 0, .int .u64 0]
    rw [World.size_alloc] at h
    exact h
  have hb2 := below2 w (.cells #[.int .u64 (a : Int), .int .u64 (b : Int)] 165) (.cells #[.int .u64 0, .int .u64 0] 165)
  have HX := Lib.hid hbx
  have HY := Lib.hid hby
  have HB := Lib.hid hb2
  have HP := Lib.hid hp
  clear hbx hby hb2 hp
  have hxk : ∀ k, x / 10 ^ k ≤ x := fun k => Nat.div_le_self _ _
  have HXK := Lib.hid hxk
  clear hxk
  go_enter Tryz.func171, Tryz.ntmps171
  go_wp2
  go_loopw [7, 9] (fun dv i wr => Below w.heap.size w wr ∧ Bx wr (w.heap.size + 1) 165 #[.int .u64 0, .int .u64 0] ∧ ∃ k c d g : Nat, k ≤ n ∧ i = .int .i64 k ∧ dv = .int .u64 g ∧ g ≤ 9 ∧ (1 ≤ k → g = x / 10 ^ (k - 1) % 10) ∧ Pw (x / 10 ^ k) c d ∧ Bx wr w.heap.size 165 #[.int .u64 c, .int .u64 d]) (fun _ i _ => n - (intOf i).toNat)
  case atStart => exact ⟨HB.out, HY.out, 0, a, b, 0, Nat.zero_le _, rfl, rfl, by omega, fun h => absurd h (by omega), by rw [Nat.pow_zero, Nat.div_one]; exact HP.out, HX.out⟩
  case round =>
    clear HX HY HB HP
    obtain ⟨hbw, hby, k, c, d, g, hk, rfl, rfl, hg9, hg, hpw, hbx⟩ := hrel
    obtain ⟨⟨c1, c2⟩, f1, f2⟩ := hbx.two
    have HBW := Lib.hid hbw
    have HY := Lib.hid hby
    have HX := Lib.hid hbx
    have HPW := Lib.hid hpw
    have HG := Lib.hid hg
    clear hbw hby hbx hpw hg
    by_cases hlt : k < n
    · have HD := Lib.hid (pdiv_cells (x / 10 ^ k) 10 c d wr HPW.out (by have := HXK.out k; omega) (by omega) (by omega))
      clear c1 c2 f1 f2
      obtain ⟨⟨c1, c2⟩, f1, f2⟩ := HX.out.two
      go_wp2_with fail
      refine (HD.out).mono ?_
      rintro e w1 ⟨c', d', hq, rfl, hb⟩
      have HB1 := Lib.hid (bel0 HBW.out hb)
      have HX1 := Lib.hid (HX.out.below hb)
      have HY1 := Lib.hid (HY.out.below hb)
      have HQ := Lib.hid hq
      clear c1 c2 f1 f2 hb hq HD
      obtain ⟨⟨c1, c2⟩, f1, f2⟩ := HX1.out.two
      have hm9 : x / 10 ^ k % 10 ≤ 9 := by omega
      have hkn : k + 1 ≤ n := by omega
      go_wp2
      go_roundw
      case rel => exact ⟨(HB1.out.setCell (p := ⟨w.heap.size, 0, none⟩) (Nat.le_refl _) _).setCell (p := ⟨w.heap.size, 1, none⟩) (Nat.le_refl _) _, (HY1.out.far (by simp) _).far (by simp) _, k + 1, c', d', x / 10 ^ k % 10, hkn, by go_num, rfl, hm9, fun _ => rfl, by rw [div_step]; exact HQ.out, HX1.out.set2 _ _⟩
      case measure => simp [intOf]; omega
    · obtain rfl : k = n := by omega
      have hgv := HG.out h1
      have HGV := Lib.hid hgv
      clear hgv
      by_cases hge : 10 ≤ g + r
      · have hv : dropN x k r = x / 10 ^ k + 1 := by
          unfold dropN
          rw [← HGV.out, if_pos hge]
        have HV := Lib.hid hv
        have HPL := Lib.hid (pplus_cells (x / 10 ^ k) 1 c d 0 1 wr HPW.out ⟨by omega, by omega⟩ (by have := HXK.out k; omega))
        have h00 : (((0 : Nat)) : Int) = 0 := rfl
        have h01 : (((1 : Nat)) : Int) = 1 := rfl
        rw [h00, h01] at HPL
        clear hv h00 h01
        go_wp2_with fail
        refine (HPL.out).mono ?_
        rintro e w1 ⟨c', d', hq, rfl, hb⟩
        have HB1 := Lib.hid (bel0 HBW.out hb)
        have HY1 := Lib.hid (HY.out.below hb)
        have HQ := Lib.hid hq
        clear c1 c2 f1 f2 hb hq HPL
        obtain ⟨⟨c1, c2⟩, f1, f2⟩ := HY1.out.two
        go_wp2
        refine bodyPost_ret (v := .agg #[.int .u64 (c' : Int), .int .u64 (d' : Int)]) ?_ rfl ⟨c', d', by rw [HV.out]; exact HQ.out, rfl, ?_⟩
        · rw [results_cell14 rfl]
          go_simp
        · exact (HB1.out.setCell (p := ⟨w.heap.size + 1, 0, none⟩) (Nat.le_succ _) _).setCell (p := ⟨w.heap.size + 1, 1, none⟩) (Nat.le_succ _) _
      · have hv : dropN x k r = x / 10 ^ k := by
          unfold dropN
          rw [← HGV.out, if_neg hge]
          rfl
        have HV := Lib.hid hv
        clear hv
        obtain ⟨⟨d1, d2⟩, e1, e2⟩ := HY.out.two
        go_wp2
        refine bodyPost_ret (v := .agg #[.int .u64 (c : Int), .int .u64 (d : Int)]) ?_ rfl ⟨c, d, by rw [HV.out]; exact HPW.out, rfl, ?_⟩
        · rw [results_cell14 rfl]
          go_simp
        · exact (HBW.out.setCell (p := ⟨w.heap.size + 1, 0, none⟩) (Nat.le_succ _) _).setCell (p := ⟨w.heap.size + 1, 1, none⟩) (Nat.le_succ _) _

end E
end Go.Proofs.YtbcncohjjnmdcaaGreatDoor
namespace Go.Proofs.YtbcncohjjnmdcaaGreatDoor
open Go.RowKit Go.Shelf
set_option linter.unusedVariables false
namespace E

/-- A number is returned: its sign, and its magnitude as two words. -/
def NvPost (w : World) (neg : Bool) (x : Nat) (e : Ending) (w' : World) : Prop := ∃ c d, Pw x c d ∧ e = .returned (.agg #[.bool neg, .int .u64 (c : Int), .int .u64 (d : Int)]) ∧ Below w.heap.size w w'
/-- The value of the first characters of a number. -/
def chV (l : List UInt8) : Nat := val (fg l)
theorem chV_snoc (l : List UInt8) (c : UInt8) : chV (l ++ [c]) = chV l * 10 + (dgt c).val := by
  unfold chV fg
  rw [List.map_append, List.reverse_append]
  have e : [c].map dgt = [dgt c] := rfl
  rw [e, List.reverse_singleton, List.singleton_append, val_cons]
  omega
theorem chV_lt (l : List UInt8) (h : ∀ j, j < l.length → isD (gt l j) = true) : chV l < 10 ^ l.length := by
  have h2 : ok9 (fg l) := fun d hd => by
    obtain ⟨i, hi, rfl⟩ := List.getElem_of_mem hd
    have := fg_getD9 h i
    rw [List.getD_eq_getElem?_getD, List.getElem?_eq_getElem hi] at this
    exact this
  have h3 := val_lt h2
  rw [fg_len] at h3
  exact h3
theorem third_new (w : World) (a b c : Obj) (t : TypeId) (cs : Array Value) (h : c = .cells cs t) : Bx (((w.alloc a).alloc b).alloc c) (w.heap.size + 1 + 1) t cs := by
  subst h
  have h := Bx.new ((w.alloc a).alloc b) t cs
  rw [World.size_alloc, World.size_alloc] at h
  exact h
theorem second_new (w : World) (a b : Obj) (t : TypeId) (cs : Array Value) (h : b = .cells cs t) : Bx ((w.alloc a).alloc b) (w.heap.size + 1) t cs := by
  subst h
  have h := Bx.new (w.alloc a) t cs
  rw [World.size_alloc] at h
  exact h
theorem Bx.set3 {w : World} {g : Nat} {t : TypeId} {a b c : Value} (h : Bx w g t #[a, b, c]) (x y : Value) : Bx ((w.setCell ⟨g, 1, none⟩ x).setCell ⟨g, 2, none⟩ y) g t #[a, x, y] := (h.set 1 x).set 2 y
theorem pow10_31 : (10 : Nat) ^ 31 = 10000000000000000000000000000000 := by decide
set_option maxRecDepth 100000 in
set_option maxHeartbeats 2000000 in
theorem numberOf_any (neg : Bool) (s : ByteArray) (l : List UInt8) (w : World) (hs : s.data.toList = l) (hn : l.length ≤ 31) (hd : ∀ j, j < l.length → isD (gt l j) = true) :
    Calls Tryz.prog 182 #[.agg #[.bool neg, .string s]] w (NvPost w neg (chV l)) := by
  have hln : l.length = s.size := by rw [← hs]; rfl
  have hstr : ∀ k (h : k < s.size), s[k] = gt l k := fun k h => by rw [← hs]; exact str_at s k h
  have hlt31 : ∀ k, k ≤ l.length → chV (l.take k) < 10000000000000000000000000000000 := fun k hk => by
    have h1 := chV_lt (l.take k) (fun j hj => by
      have hj2 : j < k ∧ j < l.length := by simp at hj; omega
      have e : gt (l.take k) j = gt l j := by
        rw [gt_lt hj, gt_lt hj2.2, List.getElem_take]
      rw [e]
      exact hd j hj2.2)
    have h2 : (10 : Nat) ^ (l.take k).length ≤ 10 ^ 31 := Nat.pow_le_pow_right (by omega) (by rw [List.length_take]; omega)
    rw [pow10_31] at h2
    omega
  have HS := Lib.hid hstr
  have HL := Lib.hid hln
  have HD := Lib.hid hd
  have HLT := Lib.hid hlt31
  rw [hln] at hn
  have HB := Lib.hid (below3 w (.cells #[.bool neg, .string s] 199) (.cells #[.bool false, .int .u64 0, .int .u64 0] 167) (.cells #[.bool neg, .int .u64 0, .int .u64 0] 167))
  have HP := Lib.hid (((Bx.new w 199 #[.bool neg, .string s]).below (below_new _ (.cells #[.bool false, .int .u64 0, .int .u64 0] 167))).below (below_new _ (.cells #[.bool neg, .int .u64 0, .int .u64 0] 167)))
  have HR := Lib.hid ((second_new w (.cells #[.bool neg, .string s] 199) (.cells #[.bool false, .int .u64 0, .int .u64 0] 167) _ _ rfl).below (below_new _ (.cells #[.bool neg, .int .u64 0, .int .u64 0] 167)))
  have HX := Lib.hid (third_new w (.cells #[.bool neg, .string s] 199) (.cells #[.bool false, .int .u64 0, .int .u64 0] 167) (.cells #[.bool neg, .int .u64 0, .int .u64 0] 167) _ _ rfl)
  clear hs hstr hln hd hlt31
  go_enter Tryz.func182, Tryz.ntmps182
  go_wp2
  go_loopw [4, 5, 12] (fun v4 v5 i wr => Below w.heap.size w wr ∧ Bx wr w.heap.size 199 #[.bool neg, .string s] ∧ Bx wr (w.heap.size + 1) 167 #[.bool false, .int .u64 0, .int .u64 0] ∧ ∃ k c d : Nat, k ≤ s.size ∧ i = .int .i64 k ∧ Pw (chV (l.take k)) c d ∧ Bx wr (w.heap.size + 1 + 1) 167 #[.bool neg, .int .u64 c, .int .u64 d]) (fun _ _ i _ => s.size - (intOf i).toNat)
  case atStart => exact ⟨HB.out, HP.out, HR.out, 0, 0, 0, Nat.zero_le _, rfl, ⟨rfl, by omega⟩, HX.out⟩
  case round =>
    clear HB HP HR HX
    obtain ⟨hbw, hbp, hbr, k, c, d, hk, rfl, hpw, hbx⟩ := hrel
    have HBW := Lib.hid hbw
    have HP := Lib.hid hbp
    have HR := Lib.hid hbr
    have HX := Lib.hid hbx
    have HPW := Lib.hid hpw
    have hxl := HLT.out k (by rw [HL.out]; exact hk)
    clear hbw hbp hbr hbx hpw
    obtain ⟨⟨p1, p2⟩, _⟩ := HP.out.two
    obtain ⟨⟨x1, x2, x3⟩, y1, y2, y3⟩ := HX.out.three
    by_cases hlt : k < s.size
    · have hst := HS.out k hlt
      have hd2 := (isD_iff _).1 (HD.out k (by rw [HL.out]; exact hlt))
      have htk := take_one (l := l) (k := k) (by rw [HL.out]; exact hlt)
      have hsn := chV_snoc (l.take k) (gt l k)
      rw [← htk] at hsn
      have hdv := dgt_nat hd2
      have hd9 : (dgt (gt l k)).val ≤ 9 := by omega
      have hv : ((gt l k).toNat : Int) - 48 = ((dgt (gt l k)).val : Int) := by omega
      have HSN := Lib.hid hsn
      clear htk hsn hdv
      generalize gt l k = x at *
      obtain ⟨dg, hdg⟩ : ∃ dg, dg = (dgt x).val := ⟨_, rfl⟩
      rw [← hdg] at hv hd9 HSN
      generalize hX : chV (l.take k) = X at *
      have HT := Lib.hid (fun W => ptimes_cells X 10 c d W HPW.out (by omega) (by omega) (by omega))
      have HPL := Lib.hid (fun W a b (h : Pw (X * 10) a b) => pplus_cells (X * 10) dg a b 0 dg W h ⟨by omega, by omega⟩ (by omega))
      have h00 : (((0 : Nat)) : Int) = 0 := rfl
      have h10 : (((10 : Nat)) : Int) = 10 := rfl
      rw [h10] at HT
      rw [h00] at HPL
      clear hdg hX h00 h10
      go_wp2_with fail
      refine (HT.out _).mono ?_
      rintro e w1 ⟨a1, b1, hq1, rfl, hb⟩
      have HB1 := Lib.hid (bel0 HBW.out hb)
      have HP1 := Lib.hid (HP.out.below hb)
      have HR1 := Lib.hid (HR.out.below hb)
      have HX1 := Lib.hid (HX.out.below hb)
      have HPP := Lib.hid (fun W => HPL.out W a1 b1 hq1)
      clear hb hq1 HPL HT p1 p2 x1 x2 x3 y1 y2 y3
      go_wp2_with fail
      refine (HPP.out _).mono ?_
      rintro e w2 ⟨a2, b2, hq2, rfl, hb⟩
      have HB2 := Lib.hid (bel0 HB1.out hb)
      have HP2 := Lib.hid (HP1.out.below hb)
      have HR2 := Lib.hid (HR1.out.below hb)
      have HX2 := Lib.hid (HX1.out.below hb)
      have HQ2 := Lib.hid hq2
      clear hb hq2 HPP
      obtain ⟨⟨x1, x2, x3⟩, y1, y2, y3⟩ := HX2.out.three
      go_wp2
      go_roundw
      case rel => exact ⟨(HB2.out.setCell (p := ⟨w.heap.size + 1 + 1, 1, none⟩) (by simp; omega) _).setCell (p := ⟨w.heap.size + 1 + 1, 2, none⟩) (by simp; omega) _, (HP2.out.far (by simp; omega) _).far (by simp; omega) _, (HR2.out.far (by simp) _).far (by simp) _, k + 1, a2, b2, by omega, by go_num, by rw [HSN.out]; exact HQ2.out, HX2.out.set3 _ _⟩
      case measure => simp [intOf]; omega
    · obtain rfl : k = s.size := by omega
      have hpw := HPW.out
      rw [← HL.out, List.take_length] at hpw
      have HPF := Lib.hid hpw
      clear hpw
      obtain ⟨⟨r1, r2, r3⟩, q1, q2, q3⟩ := HR.out.three
      go_wp2
      refine bodyPost_ret (v := .agg #[.bool neg, .int .u64 (c : Int), .int .u64 (d : Int)]) ?_ rfl ⟨c, d, HPF.out, rfl, ?_⟩
      · rw [results_cell14 rfl]
        go_simp
      · exact ((HBW.out.setCell (p := ⟨w.heap.size + 1, 0, none⟩) (Nat.le_succ _) _).setCell (p := ⟨w.heap.size + 1, 1, none⟩) (Nat.le_succ _) _).setCell (p := ⟨w.heap.size + 1, 2, none⟩) (Nat.le_succ _) _

end E
end Go.Proofs.YtbcncohjjnmdcaaGreatDoor
namespace Go.Proofs.YtbcncohjjnmdcaaGreatDoor
open Go.RowKit Go.Shelf
set_option linter.unusedVariables false
namespace E

/-- The sum of two numbers, by sign and magnitude. -/
def sumS (na : Bool) (x : Nat) (nb : Bool) (y : Nat) : Bool × Nat := if na = nb then (na, x + y) else if x < y then (nb, y - x) else (na, x - y)
/-- Two blocks of three cells are kept. -/
def Ap6 (D E : Nat) (p a b q c d : Value) (W : World) : Prop := W.cell? ⟨D, 0, none⟩ = some p ∧ W.cell? ⟨D, 1, none⟩ = some a ∧ W.cell? ⟨D, 2, none⟩ = some b ∧ W.cell? ⟨E, 0, none⟩ = some q ∧ W.cell? ⟨E, 1, none⟩ = some c ∧ W.cell? ⟨E, 2, none⟩ = some d
theorem Ap6.of {W : World} {D E : Nat} {t u : TypeId} {p a b q c d : Value} (h : Bx W D t #[p, a, b]) (k : Bx W E u #[q, c, d]) : Ap6 D E p a b q c d W := ⟨h.three.1.1, h.three.1.2.1, h.three.1.2.2, k.three.1.1, k.three.1.2.1, k.three.1.2.2⟩
theorem Ap6.st {W : World} {D E F : Nat} {p a b q c d x y z : Value} (h : Ap6 D E p a b q c d W) (h1 : D ≠ F) (h2 : E ≠ F) : Ap6 D E p a b q c d (((W.setCell ⟨F, 0, none⟩ x).setCell ⟨F, 1, none⟩ y).setCell ⟨F, 2, none⟩ z) := by
  have hD : ∀ (V : World) (i j : Nat) (v : Value), (V.setCell ⟨F, i, none⟩ v).cell? ⟨D, j, none⟩ = V.cell? ⟨D, j, none⟩ := fun V i j v => World.cell?_setCell_other V _ _ v (fun e => h1 (by injection e with h _; exact h.symm))
  have hE : ∀ (V : World) (i j : Nat) (v : Value), (V.setCell ⟨F, i, none⟩ v).cell? ⟨E, j, none⟩ = V.cell? ⟨E, j, none⟩ := fun V i j v => World.cell?_setCell_other V _ _ v (fun e => h2 (by injection e with h _; exact h.symm))
  unfold Ap6 at *
  simp only [hD, hE]
  exact h
theorem Bx.all3 {w : World} {g : Nat} {t : TypeId} {a b c : Value} (h : Bx w g t #[a, b, c]) (x y z : Value) : Bx (((w.setCell ⟨g, 0, none⟩ x).setCell ⟨g, 1, none⟩ y).setCell ⟨g, 2, none⟩ z) g t #[x, y, z] := ((h.set 0 x).set 1 y).set 2 z
theorem Bx.far3 {w : World} {g F : Nat} {t : TypeId} {cs : Array Value} (h : Bx w g t cs) (hne : F ≠ g) (x y z : Value) : Bx (((w.setCell ⟨F, 0, none⟩ x).setCell ⟨F, 1, none⟩ y).setCell ⟨F, 2, none⟩ z) g t cs := ((h.far hne x).far hne y).far hne z
theorem below_set3 {w W : World} (h : Below w.heap.size w W) {F : Nat} (hF : w.heap.size ≤ F) (x y z : Value) : Below w.heap.size w (((W.setCell ⟨F, 0, none⟩ x).setCell ⟨F, 1, none⟩ y).setCell ⟨F, 2, none⟩ z) :=
  ((h.setCell (p := ⟨F, 0, none⟩) hF x).setCell (p := ⟨F, 1, none⟩) hF y).setCell (p := ⟨F, 2, none⟩) hF z
theorem Ap6.next {W W' : World} {D E : Nat} {p a b q c d : Value} (h : Ap6 D E p a b q c d W) (hb : Below W.heap.size W W') : Ap6 D E p a b q c d W' := ⟨keepC h.1 hb, keepC h.2.1 hb, keepC h.2.2.1 hb, keepC h.2.2.2.1 hb, keepC h.2.2.2.2.1 hb, keepC h.2.2.2.2.2 hb⟩
set_option maxRecDepth 100000 in
set_option maxHeartbeats 2000000 in
theorem add_same (na : Bool) (x y a b c d : Nat) (w : World) (hp : Pw x a b) (hq : Pw y c d) (h : x + y < 340282366920938463463374607431768211456) :
    Calls Tryz.prog 164 #[.agg #[.bool na, .int .u64 (a : Int), .int .u64 (b : Int)], .agg #[.bool na, .int .u64 (c : Int), .int .u64 (d : Int)]] w (NvPost w (sumS na x na y).1 (sumS na x na y).2) := by
  have hv : sumS na x na y = (na, x + y) := by unfold sumS; rw [if_pos rfl]
  have HV := Lib.hid hv
  have HC := Lib.hid (fun W => pplus_cells x y a b c d W hp hq h)
  clear hv hp hq h
  obtain ⟨W0, hW0⟩ : ∃ W0, W0 = ((w.alloc (.cells #[.bool na, .int .u64 (a : Int), .int .u64 (b : Int)] 167)).alloc (.cells #[.bool na, .int .u64 (c : Int), .int .u64 (d : Int)] 167)).alloc (.cells #[.bool false, .int .u64 0, .int .u64 0] 167) := ⟨_, rfl⟩
  have hb0 : Below w.heap.size w W0 := by rw [hW0]; exact below3 _ _ _ _
  have hD : Bx W0 w.heap.size 167 #[.bool na, .int .u64 (a : Int), .int .u64 (b : Int)] := by
    rw [hW0]
    exact ((Bx.new w _ _).below (below_new _ _)).below (below_new _ _)
  have hE : Bx W0 (w.heap.size + 1) 167 #[.bool na, .int .u64 (c : Int), .int .u64 (d : Int)] := by
    rw [hW0]
    exact (second_new w _ _ _ _ rfl).below (below_new _ _)
  have hF : Bx W0 (w.heap.size + 1 + 1) 167 #[.bool false, .int .u64 0, .int .u64 0] := by
    rw [hW0]
    exact third_new w _ _ _ _ _ rfl
  have HB0 := Lib.hid hb0
  have HD := Lib.hid hD
  have HE := Lib.hid hE
  have HF := Lib.hid hF
  obtain ⟨⟨d1, d2, d3⟩, _⟩ := hD.three
  obtain ⟨⟨e1, e2, e3⟩, _⟩ := hE.three
  clear hb0 hD hE hF
  have H0 : Hid (Ap6 w.heap.size (w.heap.size + 1) (.bool na) (.int .u64 (a : Int)) (.int .u64 (b : Int)) (.bool na) (.int .u64 (c : Int)) (.int .u64 (d : Int)) W0.drew) := Lib.hid ((Ap6.of HD.out HE.out).next (Below.refl _ _).drew)
  have HBd : Hid (Below w.heap.size w W0.drew) := Lib.hid HB0.out.drew
  have HFd := Lib.hid (HF.out.below ((Below.refl W0.heap.size W0).drew))
  have hsz : W0.drew.heap.size = W0.heap.size := rfl
  go_enter Tryz.func164, Tryz.ntmps164
  go_wp2_with fail
  rw [← hW0]
  clear hW0
  go_wp2_with fail
  go_region_held3 (fun W => W.cell? ⟨w.heap.size, 0, none⟩ = some (.bool na) ∧ W.cell? ⟨w.heap.size, 1, none⟩ = some (.int .u64 (a : Int)) ∧ W.cell? ⟨w.heap.size, 2, none⟩ = some (.int .u64 (b : Int)) ∧ W.cell? ⟨w.heap.size + 1, 0, none⟩ = some (.bool na) ∧ W.cell? ⟨w.heap.size + 1, 1, none⟩ = some (.int .u64 (c : Int)) ∧ W.cell? ⟨w.heap.size + 1, 2, none⟩ = some (.int .u64 (d : Int)))
    (first | assumption | exact H0.out | exact Ap6.st (by assumption) (by omega) (by omega))
    (first
      | (go_at_call 194; refine (HC.out _).mono ?_; rintro e w5 ⟨a1, b1, hq, rfl, hb5⟩; have hs5 := Ap6.next H0.out hb5; have HB5 := Lib.hid (bel0 HBd.out hb5); have HF5 := Lib.hid (HFd.out.below hb5); have HQ5 := Lib.hid hq; obtain ⟨⟨r1, r2, r3⟩, q1, q2, q3⟩ := HF5.out.three; clear hb5 hq))
  all_goals go_wp2
  all_goals refine bodyPost_ret (v := .agg #[.bool na, .int .u64 (a1 : Int), .int .u64 (b1 : Int)]) ?_ rfl ⟨a1, b1, by rw [HV.out]; exact HQ5.out, by rw [HV.out], below_set3 HB5.out (by omega) _ _ _⟩
  all_goals rw [results_cell14 rfl]
  all_goals go_simp
set_option maxRecDepth 100000 in
set_option maxHeartbeats 4000000 in
theorem add_less (na nb : Bool) (hne : na ≠ nb) (x y a b c d : Nat) (w : World) (hp : Pw x a b) (hq : Pw y c d) (h : x + y < 340282366920938463463374607431768211456) (hlt : x < y) :
    Calls Tryz.prog 164 #[.agg #[.bool na, .int .u64 (a : Int), .int .u64 (b : Int)], .agg #[.bool nb, .int .u64 (c : Int), .int .u64 (d : Int)]] w (NvPost w (sumS na x nb y).1 (sumS na x nb y).2) := by
  have hv : sumS na x nb y = (nb, y - x) := by unfold sumS; rw [if_neg hne, if_pos hlt]
  have HV := Lib.hid hv
  have HC := Lib.hid (fun W => pminus_cells y x c d a b W hq hp (by omega) (by omega))
  have HCM := Lib.hid (fun W => pcompare_cells x y a b c d W hp hq (by omega) (by omega))
  have hdl : decide (x < y) = true := by simp; omega
  have HDL := Lib.hid hdl
  have hnb : (na == nb) = false := by simpa using hne
  clear hv hp hq h hdl hne hlt
  obtain ⟨W0, hW0⟩ : ∃ W0, W0 = ((w.alloc (.cells #[.bool na, .int .u64 (a : Int), .int .u64 (b : Int)] 167)).alloc (.cells #[.bool nb, .int .u64 (c : Int), .int .u64 (d : Int)] 167)).alloc (.cells #[.bool false, .int .u64 0, .int .u64 0] 167) := ⟨_, rfl⟩
  have hb0 : Below w.heap.size w W0 := by rw [hW0]; exact below3 _ _ _ _
  have hD : Bx W0 w.heap.size 167 #[.bool na, .int .u64 (a : Int), .int .u64 (b : Int)] := by
    rw [hW0]
    exact ((Bx.new w _ _).below (below_new _ _)).below (below_new _ _)
  have hE : Bx W0 (w.heap.size + 1) 167 #[.bool nb, .int .u64 (c : Int), .int .u64 (d : Int)] := by
    rw [hW0]
    exact (second_new w _ _ _ _ rfl).below (below_new _ _)
  have hF : Bx W0 (w.heap.size + 1 + 1) 167 #[.bool false, .int .u64 0, .int .u64 0] := by
    rw [hW0]
    exact third_new w _ _ _ _ _ rfl
  have HB0 := Lib.hid hb0
  have HD := Lib.hid hD
  have HE := Lib.hid hE
  have HF := Lib.hid hF
  obtain ⟨⟨d1, d2, d3⟩, _⟩ := hD.three
  obtain ⟨⟨e1, e2, e3⟩, _⟩ := hE.three
  clear hb0 hD hE hF
  go_enter Tryz.func164, Tryz.ntmps164
  go_wp2_with fail
  rw [← hW0]
  clear hW0
  go_wp2_with fail
  refine (HCM.out _).mono ?_
  rintro e w1 ⟨c0, rfl, hc0, hb⟩
  rw [HDL.out] at hc0
  have HB1 := Lib.hid (bel0 HB0.out hb)
  have HD1 := Lib.hid (HD.out.below hb)
  have HE1 := Lib.hid (HE.out.below hb)
  have HF1 := Lib.hid (HF.out.below hb)
  clear hb d1 d2 d3 e1 e2 e3 HB0 HD HE HF HCM
  obtain ⟨⟨d1, d2, d3⟩, p1, p2, p3⟩ := HD1.out.three
  obtain ⟨⟨e1, e2, e3⟩, t1, t2, t3⟩ := HE1.out.three
  go_wp2_with fail
  obtain ⟨W2, hW2⟩ : ∃ W2, W2 = (((((w1.setCell ⟨w.heap.size, 0, none⟩ (.bool nb)).setCell ⟨w.heap.size, 1, none⟩ (.int .u64 (c : Int))).setCell ⟨w.heap.size, 2, none⟩ (.int .u64 (d : Int))).setCell ⟨w.heap.size + 1, 0, none⟩ (.bool na)).setCell ⟨w.heap.size + 1, 1, none⟩ (.int .u64 (a : Int))).setCell ⟨w.heap.size + 1, 2, none⟩ (.int .u64 (b : Int)) := ⟨_, rfl⟩
  rw [← hW2]
  have HB2 : Hid (Below w.heap.size w W2.drew) := Lib.hid (by rw [hW2]; exact (below_set3 (below_set3 HB1.out (Nat.le_refl _) _ _ _) (Nat.le_succ _) _ _ _).drew)
  have hD2 : Bx W2 w.heap.size 167 #[.bool nb, .int .u64 (c : Int), .int .u64 (d : Int)] := by rw [hW2]; exact (HD1.out.all3 _ _ _).far3 (by omega) _ _ _
  have hE2 : Bx W2 (w.heap.size + 1) 167 #[.bool na, .int .u64 (a : Int), .int .u64 (b : Int)] := by rw [hW2]; exact (HE1.out.far3 (by omega) _ _ _).all3 _ _ _
  have hF2 : Bx W2 (w.heap.size + 1 + 1) 167 #[.bool false, .int .u64 0, .int .u64 0] := by rw [hW2]; exact (HF1.out.far3 (by omega) _ _ _).far3 (by omega) _ _ _
  have H0 : Hid (Ap6 w.heap.size (w.heap.size + 1) (.bool nb) (.int .u64 (c : Int)) (.int .u64 (d : Int)) (.bool na) (.int .u64 (a : Int)) (.int .u64 (b : Int)) W2.drew) := Lib.hid ((Ap6.of hD2 hE2).next (Below.refl _ _).drew)
  have HFd := Lib.hid (hF2.below ((Below.refl W2.heap.size W2).drew))
  clear hD2 hE2 hF2 hW2 d1 d2 d3 e1 e2 e3 p1 p2 p3 t1 t2 t3
  go_region_held3 (fun W => W.cell? ⟨w.heap.size, 0, none⟩ = some (.bool nb) ∧ W.cell? ⟨w.heap.size, 1, none⟩ = some (.int .u64 (c : Int)) ∧ W.cell? ⟨w.heap.size, 2, none⟩ = some (.int .u64 (d : Int)) ∧ W.cell? ⟨w.heap.size + 1, 0, none⟩ = some (.bool na) ∧ W.cell? ⟨w.heap.size + 1, 1, none⟩ = some (.int .u64 (a : Int)) ∧ W.cell? ⟨w.heap.size + 1, 2, none⟩ = some (.int .u64 (b : Int)))
    (first | assumption | exact H0.out | exact Ap6.st (by assumption) (by omega) (by omega))
    (first
      | (go_at_call 196; refine (HC.out _).mono ?_; rintro e w5 ⟨a1, b1, hq, rfl, hb5⟩; have hs5 := Ap6.next H0.out hb5; have HB5 := Lib.hid (bel0 HB2.out hb5); have HF5 := Lib.hid (HFd.out.below hb5); have HQ5 := Lib.hid hq; obtain ⟨⟨r1, r2, r3⟩, q1, q2, q3⟩ := HF5.out.three; clear hb5 hq))
  all_goals go_wp2
  all_goals refine bodyPost_ret (v := .agg #[.bool nb, .int .u64 (a1 : Int), .int .u64 (b1 : Int)]) ?_ rfl ⟨a1, b1, by rw [HV.out]; exact HQ5.out, by rw [HV.out], below_set3 HB5.out (by omega) _ _ _⟩
  all_goals rw [results_cell14 rfl]
  all_goals go_simp
set_option maxRecDepth 100000 in
set_option maxHeartbeats 4000000 in
theorem add_more (na nb : Bool) (hne : na ≠ nb) (x y a b c d : Nat) (w : World) (hp : Pw x a b) (hq : Pw y c d) (h : x + y < 340282366920938463463374607431768211456) (hlt : ¬ x < y) :
    Calls Tryz.prog 164 #[.agg #[.bool na, .int .u64 (a : Int), .int .u64 (b : Int)], .agg #[.bool nb, .int .u64 (c : Int), .int .u64 (d : Int)]] w (NvPost w (sumS na x nb y).1 (sumS na x nb y).2) := by
  have hv : sumS na x nb y = (na, x - y) := by unfold sumS; rw [if_neg hne, if_neg hlt]
  have HV := Lib.hid hv
  have HC := Lib.hid (fun W => pminus_cells x y a b c d W hp hq (by omega) (by omega))
  have HCM := Lib.hid (fun W => pcompare_cells x y a b c d W hp hq (by omega) (by omega))
  have hdl : decide (x < y) = false := by simp; omega
  have HDL := Lib.hid hdl
  have hnb : (na == nb) = false := by simpa using hne
  clear hv hp hq h hdl hne hlt
  obtain ⟨W0, hW0⟩ : ∃ W0, W0 = ((w.alloc (.cells #[.bool na, .int .u64 (a : Int), .int .u64 (b : Int)] 167)).alloc (.cells #[.bool nb, .int .u64 (c : Int), .int .u64 (d : Int)] 167)).alloc (.cells #[.bool false, .int .u64 0, .int .u64 0] 167) := ⟨_, rfl⟩
  have hb0 : Below w.heap.size w W0 := by rw [hW0]; exact below3 _ _ _ _
  have hD : Bx W0 w.heap.size 167 #[.bool na, .int .u64 (a : Int), .int .u64 (b : Int)] := by
    rw [hW0]
    exact ((Bx.new w _ _).below (below_new _ _)).below (below_new _ _)
  have hE : Bx W0 (w.heap.size + 1) 167 #[.bool nb, .int .u64 (c : Int), .int .u64 (d : Int)] := by
    rw [hW0]
    exact (second_new w _ _ _ _ rfl).below (below_new _ _)
  have hF : Bx W0 (w.heap.size + 1 + 1) 167 #[.bool false, .int .u64 0, .int .u64 0] := by
    rw [hW0]
    exact third_new w _ _ _ _ _ rfl
  have HB0 := Lib.hid hb0
  have HD := Lib.hid hD
  have HE := Lib.hid hE
  have HF := Lib.hid hF
  obtain ⟨⟨d1, d2, d3⟩, _⟩ := hD.three
  obtain ⟨⟨e1, e2, e3⟩, _⟩ := hE.three
  clear hb0 hD hE hF
  go_enter Tryz.func164, Tryz.ntmps164
  go_wp2_with fail
  rw [← hW0]
  clear hW0
  go_wp2_with fail
  refine (HCM.out _).mono ?_
  rintro e w1 ⟨c0, rfl, hc0, hb⟩
  rw [HDL.out] at hc0
  have HB1 := Lib.hid (bel0 HB0.out hb)
  have HD1 := Lib.hid (HD.out.below hb)
  have HE1 := Lib.hid (HE.out.below hb)
  have HF1 := Lib.hid (HF.out.below hb)
  clear hb d1 d2 d3 e1 e2 e3 HB0 HD HE HF HCM
  obtain ⟨⟨d1, d2, d3⟩, p1, p2, p3⟩ := HD1.out.three
  obtain ⟨⟨e1, e2, e3⟩, t1, t2, t3⟩ := HE1.out.three
  have H0 : Hid (Ap6 w.heap.size (w.heap.size + 1) (.bool na) (.int .u64 (a : Int)) (.int .u64 (b : Int)) (.bool nb) (.int .u64 (c : Int)) (.int .u64 (d : Int)) w1.drew) := Lib.hid ((Ap6.of HD1.out HE1.out).next (Below.refl _ _).drew)
  have HB2 : Hid (Below w.heap.size w w1.drew) := Lib.hid HB1.out.drew
  have HFd := Lib.hid (HF1.out.below ((Below.refl w1.heap.size w1).drew))
  go_wp2_with fail
  go_region_held3 (fun W => W.cell? ⟨w.heap.size, 0, none⟩ = some (.bool na) ∧ W.cell? ⟨w.heap.size, 1, none⟩ = some (.int .u64 (a : Int)) ∧ W.cell? ⟨w.heap.size, 2, none⟩ = some (.int .u64 (b : Int)) ∧ W.cell? ⟨w.heap.size + 1, 0, none⟩ = some (.bool nb) ∧ W.cell? ⟨w.heap.size + 1, 1, none⟩ = some (.int .u64 (c : Int)) ∧ W.cell? ⟨w.heap.size + 1, 2, none⟩ = some (.int .u64 (d : Int)))
    (first | assumption | exact H0.out | exact Ap6.st (by assumption) (by omega) (by omega))
    (first
      | (go_at_call 196; refine (HC.out _).mono ?_; rintro e w5 ⟨a1, b1, hq, rfl, hb5⟩; have hs5 := Ap6.next H0.out hb5; have HB5 := Lib.hid (bel0 HB2.out hb5); have HF5 := Lib.hid (HFd.out.below hb5); have HQ5 := Lib.hid hq; obtain ⟨⟨r1, r2, r3⟩, q1, q2, q3⟩ := HF5.out.three; clear hb5 hq))
  all_goals go_wp2
  all_goals refine bodyPost_ret (v := .agg #[.bool na, .int .u64 (a1 : Int), .int .u64 (b1 : Int)]) ?_ rfl ⟨a1, b1, by rw [HV.out]; exact HQ5.out, by rw [HV.out], below_set3 HB5.out (by omega) _ _ _⟩
  all_goals rw [results_cell14 rfl]
  all_goals go_simp
/-- The sum of two numbers. -/
theorem add_any (na nb : Bool) (x y a b c d : Nat) (w : World) (hp : Pw x a b) (hq : Pw y c d) (h : x + y < 340282366920938463463374607431768211456) :
    Calls Tryz.prog 164 #[.agg #[.bool na, .int .u64 (a : Int), .int .u64 (b : Int)], .agg #[.bool nb, .int .u64 (c : Int), .int .u64 (d : Int)]] w (NvPost w (sumS na x nb y).1 (sumS na x nb y).2) := by
  by_cases hne : na = nb
  · subst hne
    exact add_same na x y a b c d w hp hq h
  · by_cases hlt : x < y
    · exact add_less na nb hne x y a b c d w hp hq h hlt
    · exact add_more na nb hne x y a b c d w hp hq h hlt

end E
end Go.Proofs.YtbcncohjjnmdcaaGreatDoor
namespace Go.Proofs.YtbcncohjjnmdcaaGreatDoor
open Go.RowKit Go.Shelf
set_option linter.unusedVariables false
namespace E

/-- Digit j of a number, from the last one on. -/
def dj (v j : Nat) : Fin 16 := ⟨v / 10 ^ j % 10, by omega⟩
theorem dj_le (v j : Nat) : (dj v j).val ≤ 9 := by show v / 10 ^ j % 10 ≤ 9; omega
/-- The last N digits of a number. -/
def dsN (v N : Nat) : List (Fin 16) := (List.range N).map (dj v)
theorem dsN_len (v N : Nat) : (dsN v N).length = N := by simp [dsN]
theorem dsN_getD (v N i : Nat) (h : i < N) : (dsN v N).getD i 0 = dj v i := by simp [dsN, List.getD_eq_getElem?_getD, h]
theorem dsN_ok (v N : Nat) : okD (dsN v N) = true := (okD_getD _).2 fun i hi => by
  rw [dsN_len] at hi
  rw [dsN_getD v N i hi]
  exact dj_le v i
/-- The result field of n bytes. -/
def fldL (neg : Bool) (v n : Nat) : List UInt8 := encL4 neg (numL (dsN v (2 * n - 1))) n
theorem fldL_len (neg : Bool) (v n : Nat) : (fldL neg v n).length = n := encL_len _ _ _
theorem fld_okL (v n : Nat) (h1 : 1 ≤ n) (h2 : n ≤ 16) : okL (numL (dsN v (2 * n - 1))) = true := okL_numL _ (dsN_ok _ _) (by rw [dsN_len]; omega) (by rw [dsN_len]; omega)
theorem fld_enB (v n : Nat) (h1 : 1 ≤ n) (h2 : n ≤ 16) : enB (numL (dsN v (2 * n - 1))) (n : Int) = true := by
  unfold enB
  rw [fld_okL v n h1 h2, decide_eq_true (by omega)]
  rfl
theorem val_numL (ds : List (Fin 16)) (h1 : 1 ≤ ds.length) : val (fg (numL ds)) = val ds := by
  obtain ⟨⟨r, hr⟩, _⟩ := fg_numL ds h1
  have e := val_zeros (fg (numL ds)) (List.replicate r 0) (fun d hd => (List.mem_replicate.1 hd).2)
  rw [← hr] at e
  exact e.symm
/-! ### The characters -/

/-- The characters of the last N digits, the first one ahead. -/
def cL (v N : Nat) : List UInt8 := (dsN v N).reverse.map chr
theorem cL_len (v N : Nat) : (cL v N).length = N := by simp [cL, dsN_len]
theorem gt_cL (v N i : Nat) (h : i < N) : gt (cL v N) i = chr (dj v (N - 1 - i)) := by
  rw [gt_lt (by rw [cL_len]; exact h)]
  simp [cL, dsN, List.getElem_reverse]
/-- The characters after k digits of m have been written, z places from the right. -/
def pL (m z N k : Nat) : List UInt8 := (List.range N).map fun i => if z ≤ N - 1 - i ∧ N - 1 - i - z < k then chr (dj m (N - 1 - i - z)) else 48
theorem pL_len (m z N k : Nat) : (pL m z N k).length = N := by simp [pL]
theorem gt_pL (m z N k i : Nat) (h : i < N) : gt (pL m z N k) i = if z ≤ N - 1 - i ∧ N - 1 - i - z < k then chr (dj m (N - 1 - i - z)) else 48 := by
  rw [gt_lt (by rw [pL_len]; exact h)]
  simp [pL]
theorem gt_ext' {l m : List UInt8} (hl : l.length = m.length) (h : ∀ i, i < l.length → gt l i = gt m i) : l = m :=
  List.ext_getElem hl fun i h1 h2 => by
    have := h i h1
    rw [gt_lt h1, gt_lt h2] at this
    exact this
theorem pL_zero (m z N : Nat) : pL m z N 0 = List.replicate N 48 := gt_ext' (by rw [pL_len, List.length_replicate]) fun i hi => by
  rw [pL_len] at hi
  rw [gt_pL _ _ _ _ _ hi, if_neg (by omega), gt_lt (by rw [List.length_replicate]; exact hi), List.getElem_replicate]
theorem pL_step (m z N k : Nat) (h : z + k < N) : (pL m z N k).set (N - 1 - z - k) (chr (dj m k)) = pL m z N (k + 1) := gt_ext' (by rw [List.length_set, pL_len, pL_len]) fun i hi => by
  rw [List.length_set, pL_len] at hi
  rw [gt_set _ _ _ _ (by rw [pL_len]; omega), gt_pL _ _ _ _ _ hi, gt_pL _ _ _ _ _ hi]
  by_cases he : N - 1 - z - k = i
  · rw [if_pos he, if_pos ⟨by omega, by omega⟩]
    congr 2
    omega
  · rw [if_neg he]
    by_cases h1 : z ≤ N - 1 - i ∧ N - 1 - i - z < k
    · rw [if_pos h1, if_pos ⟨by omega, by omega⟩]
    · rw [if_neg h1, if_neg (by omega)]
theorem dj_shift (m z j : Nat) (h : z ≤ j) : dj (m * 10 ^ z) j = dj m (j - z) := by
  apply Fin.ext
  show m * 10 ^ z / 10 ^ j % 10 = m / 10 ^ (j - z) % 10
  have e : 10 ^ j = 10 ^ (j - z) * 10 ^ z := by rw [← Nat.pow_add, Nat.sub_add_cancel h]
  rw [e, Nat.mul_div_mul_right _ _ (Nat.pow_pos (by omega))]
theorem dj_low (m z j : Nat) (h : j < z) : dj (m * 10 ^ z) j = 0 := by
  apply Fin.ext
  show m * 10 ^ z / 10 ^ j % 10 = 0
  have e : m * 10 ^ z = m * 10 ^ (z - j - 1) * 10 * 10 ^ j := by
    rw [Nat.mul_assoc, Nat.mul_assoc, ← Nat.pow_succ', ← Nat.pow_add]
    congr 2
    omega
  rw [e, Nat.mul_div_cancel _ (Nat.pow_pos (by omega)), Nat.mul_mod_left]
theorem chr_zero' : chr 0 = 48 := by decide
theorem pL_end (m z N k : Nat) (h : m / 10 ^ k = 0 ∨ N ≤ z + k) : pL m z N k = cL (m * 10 ^ z) N := gt_ext' (by rw [pL_len, cL_len]) fun i hi => by
  rw [pL_len] at hi
  rw [gt_pL _ _ _ _ _ hi, gt_cL _ _ _ hi]
  by_cases h1 : z ≤ N - 1 - i ∧ N - 1 - i - z < k
  · rw [if_pos h1, dj_shift _ _ _ h1.1]
  · rw [if_neg h1]
    by_cases h2 : z ≤ N - 1 - i
    · rw [dj_shift _ _ _ h2]
      have hk : k ≤ N - 1 - i - z := by omega
      have hm : m / 10 ^ k = 0 := h.resolve_right (by omega)
      have h3 : m / 10 ^ (N - 1 - i - z) = 0 := by
        have e : 10 ^ (N - 1 - i - z) = 10 ^ k * 10 ^ (N - 1 - i - z - k) := by rw [← Nat.pow_add]; congr 1; omega
        rw [e, ← Nat.div_div_eq_div_mul, hm, Nat.zero_div]
      have h4 : dj m (N - 1 - i - z) = 0 := by
        apply Fin.ext
        show m / 10 ^ (N - 1 - i - z) % 10 = 0
        rw [h3]
      rw [h4, chr_zero']
    · rw [dj_low _ _ _ (by omega), chr_zero']
/-- No zeros ahead, but the last character stays. -/
def trL (l : List UInt8) : List UInt8 := (l.take (l.length - 1)).dropWhile (· == 48) ++ l.drop (l.length - 1)
theorem trL_numL (ds : List (Fin 16)) (h : 1 ≤ ds.length) : trL (ds.reverse.map chr) = numL ds := by
  unfold trL numL
  generalize hL : ds.reverse.map chr = L
  have hlen : 1 ≤ L.length := by rw [← hL]; simpa using h
  obtain ⟨i, x, rfl⟩ : ∃ i x, L = i ++ [x] := ⟨L.dropLast, L.getLast (by intro h0; rw [h0] at hlen; simp at hlen), (List.dropLast_concat_getLast _).symm⟩
  have e1 : (i ++ [x]).length - 1 = i.length := by simp
  rw [e1, List.take_left, List.drop_left]
  have hdw : ∀ l : List UInt8, (l ++ [x]).dropWhile (· == 48) = if l.dropWhile (· == 48) = [] then [x].dropWhile (· == 48) else l.dropWhile (· == 48) ++ [x] := fun l => by
    induction l with
    | nil => simp
    | cons y l ih =>
      by_cases hy : y = 48
      · subst hy
        simpa using ih
      · have hy' : (y == 48) = false := by simpa using hy
        simp [hy']
  rw [hdw]
  by_cases h0 : i.dropWhile (· == 48) = []
  · rw [h0, if_pos rfl]
    by_cases hx : x = 48
    · subst hx; simp
    · have hx' : (x == 48) = false := by simpa using hx
      simp [hx']
  · rw [if_neg h0, if_neg (by simp)]
/-- Has the number more digits than the field? -/
def ovB (v n : Nat) : Bool := decide (10 ^ (2 * n - 1) ≤ v)
theorem ov_yes {m z n k : Nat} (h1 : m / 10 ^ k ≠ 0) (h2 : 2 * n - 1 ≤ z + k) : ovB (m * 10 ^ z) n = true := by
  unfold ovB
  refine decide_eq_true ?_
  have h3 : 10 ^ k ≤ m := by
    rcases Nat.lt_or_ge m (10 ^ k) with h | h
    · exact absurd (Nat.div_eq_of_lt h) h1
    · exact h
  calc 10 ^ (2 * n - 1) ≤ 10 ^ (k + z) := Nat.pow_le_pow_right (by omega) (by omega)
    _ = 10 ^ k * 10 ^ z := Nat.pow_add _ _ _
    _ ≤ m * 10 ^ z := Nat.mul_le_mul_right _ h3
theorem ov_no {m z n k : Nat} (h1 : m / 10 ^ k = 0) (h2 : k = 0 ∨ z + k ≤ 2 * n - 1) : ovB (m * 10 ^ z) n = false := by
  unfold ovB
  refine decide_eq_false (Nat.not_le.2 ?_)
  rcases h2 with rfl | h2
  · rw [Nat.pow_zero, Nat.div_one] at h1
    subst h1
    rw [Nat.zero_mul]
    exact Nat.pow_pos (by omega)
  · have h3 : m < 10 ^ k := by
      rcases Nat.lt_or_ge m (10 ^ k) with h | h
      · exact h
      · have := Nat.div_pos h (Nat.pow_pos (by omega))
        omega
    calc m * 10 ^ z < 10 ^ k * 10 ^ z := Nat.mul_lt_mul_of_pos_right h3 (Nat.pow_pos (by omega))
      _ = 10 ^ (k + z) := (Nat.pow_add _ _ _).symm
      _ ≤ 10 ^ (2 * n - 1) := Nat.pow_le_pow_right (by omega) (by omega)

end E
end Go.Proofs.YtbcncohjjnmdcaaGreatDoor
namespace Go.Proofs.YtbcncohjjnmdcaaGreatDoor
open Go.RowKit Go.Shelf
set_option linter.unusedVariables false
namespace E

set_option maxRecDepth 100000 in
set_option maxHeartbeats 2000000 in
theorem sub_any (na nb : Bool) (x y a b c d : Nat) (w : World) (hp : Pw x a b) (hq : Pw y c d) (h : x + y < 340282366920938463463374607431768211456) :
    Calls Tryz.prog 165 #[.agg #[.bool na, .int .u64 (a : Int), .int .u64 (b : Int)], .agg #[.bool nb, .int .u64 (c : Int), .int .u64 (d : Int)]] w (NvPost w (sumS na x (!nb) y).1 (sumS na x (!nb) y).2) := by
  have HC := Lib.hid (fun W => add_any na (!nb) x y a b c d W hp hq h)
  obtain ⟨W0, hW0⟩ : ∃ W0, W0 = ((w.alloc (.cells #[.bool na, .int .u64 (a : Int), .int .u64 (b : Int)] 167)).alloc (.cells #[.bool (!nb), .int .u64 (c : Int), .int .u64 (d : Int)] 167)).alloc (.cells #[.bool false, .int .u64 0, .int .u64 0] 167) := ⟨_, rfl⟩
  have HB0 : Hid (Below w.heap.size w W0) := Lib.hid (by rw [hW0]; exact below3 _ _ _ _)
  have HF : Hid (Bx W0 (w.heap.size + 1 + 1) 167 #[.bool false, .int .u64 0, .int .u64 0]) := Lib.hid (by
    rw [hW0]
    exact third_new w _ _ _ _ _ rfl)
  clear hp hq h
  go_enter Tryz.func165, Tryz.ntmps165
  go_wp2_with fail
  refine (HC.out _).mono ?_
  rw [← hW0]
  rintro e w1 ⟨a1, b1, hq, rfl, hb⟩
  have HB1 := Lib.hid (bel0 HB0.out hb)
  have HF1 := Lib.hid (HF.out.below hb)
  have HQ := Lib.hid hq
  clear hb hq hW0
  obtain ⟨⟨r1, r2, r3⟩, q1, q2, q3⟩ := HF1.out.three
  go_wp2
  refine bodyPost_ret (v := .agg #[.bool (sumS na x (!nb) y).1, .int .u64 (a1 : Int), .int .u64 (b1 : Int)]) ?_ rfl ⟨a1, b1, HQ.out, rfl, below_set3 HB1.out (by omega) _ _ _⟩
  rw [results_cell14 rfl]
  go_simp
/-- The condition code of a number. -/
def condN (neg : Bool) (x : Nat) : Nat := if x = 0 then 0 else if neg then 1 else 2
set_option maxRecDepth 100000 in
theorem cond_any (neg : Bool) (x a b : Nat) (w : World) (hp : Pw x a b) :
    Calls Tryz.prog 166 #[.agg #[.bool neg, .int .u64 (a : Int), .int .u64 (b : Int)]] w (New w (.int .i64 (condN neg x : Int))) := by
  have HB := Lib.hid (below_new w (.cells #[.bool neg, .int .u64 (a : Int), .int .u64 (b : Int)] 167))
  by_cases h0 : x = 0
  · obtain ⟨h1, h2⟩ := hp
    obtain rfl : a = 0 := by omega
    obtain rfl : b = 0 := by omega
    have hv : condN neg x = 0 := by unfold condN; rw [if_pos h0]
    have HV := Lib.hid hv
    clear hv h0 h1 h2
    go_enter Tryz.func166, Tryz.ntmps166
    go_wp2
    go_ret
    exact ⟨by rw [HV.out]; rfl, HB.out⟩
  · have hne : ¬ (a = 0 ∧ b = 0) := fun ⟨h1, h2⟩ => h0 (by rw [hp.1, h1, h2])
    have hv : condN neg x = if neg then 1 else 2 := by unfold condN; rw [if_neg h0]
    have HV := Lib.hid hv
    clear hv h0 hp
    cases neg
    · go_enter Tryz.func166, Tryz.ntmps166
      go_wp2
      all_goals go_ret
      all_goals exact ⟨by rw [HV.out]; rfl, below_new _ _⟩
    · go_enter Tryz.func166, Tryz.ntmps166
      go_wp2
      all_goals go_ret
      all_goals exact ⟨by rw [HV.out]; rfl, below_new _ _⟩
theorem isSz_any (n : Int) (w : World) : Calls Tryz.prog 161 #[.int .i64 n] w fun e w' => e = .returned (.bool (decide (1 ≤ n ∧ n ≤ 16))) ∧ w = w' := by
  by_cases h1 : 1 ≤ n
  · by_cases h2 : n ≤ 16
    · go_enter Tryz.func161, Tryz.ntmps161
      go_wp2
      go_ret
      exact ⟨by simp [h1, h2], rfl⟩
    · go_enter Tryz.func161, Tryz.ntmps161
      go_wp2
      go_ret
      exact ⟨by simp [h2], rfl⟩
  · go_enter Tryz.func161, Tryz.ntmps161
    go_wp2
    go_ret
    exact ⟨by rw [decide_eq_false (by omega)]; simp, rfl⟩
/-- The magnitude of the number in a field; 0 if it is not valid. -/
def dVal (bs : List UInt8) : Nat := chV (dDig bs)
/-- The code of one operand. -/
def opC (bs : List UInt8) : Nat := if 1 ≤ bs.length ∧ bs.length ≤ 16 then (if dOk bs then 0 else 7) else 6
theorem dDig_ok (bs : List UInt8) (h : dOk bs = true) : okL (dDig bs) = true := by
  have h' := h
  unfold dOk at h'
  simp only [Bool.and_eq_true, decide_eq_true_eq] at h'
  obtain ⟨⟨h1, h2⟩, _, h3⟩ := h'
  unfold dDig
  rw [if_pos h]
  exact okL_numL _ h3 (by rw [dg_len]; omega) (by rw [dg_len]; omega)
theorem dDig_len (bs : List UInt8) : (dDig bs).length ≤ 2 * bs.length - 1 ∨ dDig bs = [] := by
  by_cases h : dOk bs = true
  · have h' := h
    unfold dOk at h'
    simp only [Bool.and_eq_true, decide_eq_true_eq] at h'
    left
    unfold dDig
    rw [if_pos h]
    have := (fg_numL (dg bs 1 1 (2 * bs.length - 1)) (by rw [dg_len]; omega)).2.2
    rw [dg_len] at this
    exact this
  · right
    unfold dDig
    rw [if_neg h]
theorem dVal_lt (bs : List UInt8) (h : 1 ≤ bs.length) : dVal bs < 10 ^ (2 * bs.length - 1) := by
  unfold dVal
  by_cases ho : dOk bs = true
  · have hk := (okL_iff _).1 (dDig_ok bs ho)
    have h1 := chV_lt (dDig bs) hk.2
    rcases dDig_len bs with h2 | h2
    · exact Nat.lt_of_lt_of_le h1 (Nat.pow_le_pow_right (by omega) h2)
    · rw [h2]
      exact Nat.pow_pos (by omega)
  · have : dDig bs = [] := by unfold dDig; rw [if_neg ho]
    rw [this]
    exact Nat.pow_pos (by omega)
theorem dVal_not (bs : List UInt8) (h : dOk bs = false) : dVal bs = 0 ∧ dNeg bs = false := by
  unfold dVal dDig dNeg
  rw [h]
  exact ⟨rfl, rfl⟩
theorem opC_ok {bs : List UInt8} (h : opC bs = 0) : dOk bs = true ∧ 1 ≤ bs.length ∧ bs.length ≤ 16 := by
  unfold opC at h
  split at h
  · split at h
    · exact ⟨by assumption, by omega, by omega⟩
    · cases h
  · cases h
theorem dVal_31 {bs : List UInt8} (h : bs.length ≤ 16) (h1 : 1 ≤ bs.length) : dVal bs < 10000000000000000000000000000000 := by
  have h2 := dVal_lt bs h1
  have h3 : (10 : Nat) ^ (2 * bs.length - 1) ≤ 10 ^ 31 := Nat.pow_le_pow_right (by omega) (by omega)
  rw [pow10_31] at h3
  omega
/-- What operand leaves. -/
def OpPost (w : World) (bs : List UInt8) (e : Ending) (w' : World) : Prop := ∃ c d, Pw (dVal bs) c d ∧ e = .returned (.tuple #[.agg #[.bool (dNeg bs), .int .u64 (c : Int), .int .u64 (d : Int)], .int .i64 (opC bs : Int)]) ∧ Below w.heap.size w w'
theorem pw_zero : Pw 0 0 0 := ⟨rfl, by omega⟩
theorem pw_zero_of {x : Nat} (h : x = 0) : Pw x 0 0 := by rw [h]; exact pw_zero
set_option maxRecDepth 100000 in
set_option maxHeartbeats 2000000 in
theorem operand_any (p : Option Addr) (cp : Nat) (bs : List UInt8) (w : World) (hr : Rd w p bs) (hg : Sg w) :
    Calls Tryz.prog 149 #[.slice p bs.length cp] w (OpPost w bs) := by
  have hs1 := fun W => isSz_any (bs.length : Int) W
  have HF := Lib.hid (Bx.new w 167 #[.bool false, .int .u64 0, .int .u64 0])
  have HB := Lib.hid (below_new w (.cells #[.bool false, .int .u64 0, .int .u64 0] 167))
  by_cases hl : 1 ≤ bs.length ∧ bs.length ≤ 16
  · rw [decide_eq_true (by omega)] at hs1
    have S1 := Lib.hid hs1
    have HR := Lib.hid hr
    have HG := Lib.hid hg
    have HDC := Lib.hid (fun W (h : Rd W p bs) (hg : Sg W) => decode_any p cp bs W h hg)
    have hcode : opC bs = if dOk bs then 0 else 7 := by unfold opC; rw [if_pos hl]
    have HCD := Lib.hid hcode
    clear hs1 hr hg hcode
    go_enter Tryz.func149, Tryz.ntmps149
    go_wp2_with fail
    refine (S1.out _).mono ?_
    rintro e w' ⟨rfl, rfl⟩
    go_wp2_with fail
    refine (HDC.out _ (HR.out.below HB.out) (HG.out.below HB.out)).mono ?_
    rintro e w1 ⟨rfl, hb⟩
    have HB1 := Lib.hid (bel0 HB.out hb)
    have HF1 := Lib.hid (HF.out.below hb)
    clear hb HDC
    by_cases ho : dOk bs = true
    · have HO := Lib.hid ho
      have hk := (okL_iff _).1 (dDig_ok bs ho)
      have HN := Lib.hid (fun W => numberOf_any (dNeg bs) ⟨(dDig bs).toArray⟩ (dDig bs) W rfl (by omega) hk.2)
      rw [ho]
      have HF2 := Lib.hid (HF1.out.below (below_new w1 (.cells #[.bool (dNeg bs), .string ⟨(dDig bs).toArray⟩] 199)))
      have HB2 := Lib.hid (bel0 HB1.out (below_new w1 (.cells #[.bool (dNeg bs), .string ⟨(dDig bs).toArray⟩] 199)))
      clear ho hk
      go_wp2_with fail
      refine (HN.out _).mono ?_
      rintro e w2 ⟨c, d, hq, rfl, hb⟩
      have HB3 := Lib.hid (bel0 HB2.out hb)
      have HF3 := Lib.hid (HF2.out.below hb)
      have HQ := Lib.hid hq
      clear hb hq HN
      obtain ⟨⟨r1, r2, r3⟩, q1, q2, q3⟩ := HF3.out.three
      go_wp2
      refine bodyPost_ret (v := .tuple #[.agg #[.bool (dNeg bs), .int .u64 (c : Int), .int .u64 (d : Int)], .int .i64 0]) ?_ rfl ⟨c, d, HQ.out, by rw [HCD.out, if_pos HO.out]; rfl, below_set3 HB3.out (Nat.le_refl _) _ _ _⟩
      rw [results_cell_tmp rfl]
      go_simp
    · have ho' : dOk bs = false := by simpa using ho
      obtain ⟨z1, z2⟩ := dVal_not bs ho'
      have HZ := Lib.hid z1
      rw [ho', z2]
      have HO := Lib.hid ho
      have Z2 := Lib.hid z2
      obtain ⟨⟨r1, r2, r3⟩, q1, q2, q3⟩ := (HF1.out.below (below_new w1 (.cells #[.bool false, .string ⟨(dDig bs).toArray⟩] 199))).three
      clear ho ho' z1 z2
      go_wp2
      refine bodyPost_ret (v := .tuple #[.agg #[.bool false, .int .u64 0, .int .u64 0], .int .i64 7]) ?_ rfl ⟨0, 0, pw_zero_of HZ.out, by rw [HCD.out, if_neg HO.out, Z2.out]; rfl, below_set3 (bel0 HB1.out (below_new _ _)) (Nat.le_refl _) _ _ _⟩
      rw [results_cell_tmp rfl]
      go_simp
  · rw [decide_eq_false (by omega)] at hs1
    have S1 := Lib.hid hs1
    have hcode : opC bs = 6 := by unfold opC; rw [if_neg hl]
    have ho : dOk bs = false := by unfold dOk; rw [decide_eq_false hl]; rfl
    obtain ⟨z1, z2⟩ := dVal_not bs ho
    have HZ := Lib.hid z1
    have Z2 := Lib.hid z2
    have HCD := Lib.hid hcode
    clear hs1 hr hg hcode hl ho z1 z2
    go_enter Tryz.func149, Tryz.ntmps149
    go_wp2_with fail
    refine (S1.out _).mono ?_
    rintro e w' ⟨rfl, rfl⟩
    go_wp2
    refine bodyPost_ret (v := .tuple #[.agg #[.bool false, .int .u64 0, .int .u64 0], .int .i64 6]) ?_ rfl ⟨0, 0, pw_zero_of HZ.out, by rw [HCD.out, Z2.out]; rfl, HB.out⟩
    rw [results_cell_tmp rfl]
    go_simp

end E
end Go.Proofs.YtbcncohjjnmdcaaGreatDoor
namespace Go.Proofs.YtbcncohjjnmdcaaGreatDoor
open Go.RowKit Go.Shelf
set_option linter.unusedVariables false
namespace E

/-- The code of two operands. -/
def twoC (a b : List UInt8) : Nat := if opC a = 6 ∨ opC b = 6 then 6 else if opC a = 7 ∨ opC b = 7 then 7 else 0
theorem opC_cases (bs : List UInt8) : opC bs = 0 ∨ opC bs = 6 ∨ opC bs = 7 := by
  unfold opC
  split
  · split <;> omega
  · omega
theorem twoC_zero {a b : List UInt8} (h : twoC a b = 0) : opC a = 0 ∧ opC b = 0 := by
  unfold twoC at h
  have h1 := opC_cases a
  have h2 := opC_cases b
  split at h
  · cases h
  · split at h
    · cases h
    · omega
theorem results_cct {fn : Func} {p q u : Tmp} {t1 t2 : TypeId} (h : fn.results = #[.cell p t1, .cell q t2, .tmp u]) (tmps : Array Value) (P : Program) (w : World) :
    (results fn tmps).run P w =
      ((asAddr (tmps.getD p undef)).run P w).andThen fun a w₁ => ((loadVar t1 a).run P w₁).andThen fun v w₂ => ((asAddr (tmps.getD q undef)).run P w₂).andThen fun b w₃ => ((loadVar t2 b).run P w₃).andThen fun x w₄ => .ok (.tuple #[v, x, tmps.getD u undef]) w₄ := by
  simp only [results, h]
  simp [Sem.run_bind, Result.andThen]
theorem ret_cct {fn : Func} {p q u : Tmp} (h : fn.results = #[.cell p 167, .cell q 167, .tmp u]) {tmps : Array Value} {W : World} {D E : Nat} {n1 n2 : Bool} {a b c d : Value} (h1 : tmps.getD p undef = .pointer (some ⟨D, 0, none⟩)) (h2 : tmps.getD q undef = .pointer (some ⟨E, 0, none⟩))
    (hD : Bx W D 167 #[.bool n1, a, b]) (hE : Bx W E 167 #[.bool n2, c, d]) :
    (results fn tmps).run Tryz.prog W = .ok (.tuple #[.agg #[.bool n1, a, b], .agg #[.bool n2, c, d], tmps.getD u undef]) W := by
  obtain ⟨⟨d1, d2, d3⟩, _⟩ := hD.three
  obtain ⟨⟨e1, e2, e3⟩, _⟩ := hE.three
  rw [results_cct h, h1, h2]
  go_simp
/-- What the two operands leave. -/
def TwPost (w : World) (a b : List UInt8) (code : Nat) (e : Ending) (w' : World) : Prop :=
  (code = 0 ∧ ∃ c d c' d', Pw (dVal a) c d ∧ Pw (dVal b) c' d' ∧ e = .returned (.tuple #[.agg #[.bool (dNeg a), .int .u64 (c : Int), .int .u64 (d : Int)], .agg #[.bool (dNeg b), .int .u64 (c' : Int), .int .u64 (d' : Int)], .int .i64 0]) ∧ Below w.heap.size w w') ∨
  (code ≠ 0 ∧ New w (.tuple #[.agg #[.bool false, .int .u64 0, .int .u64 0], .agg #[.bool false, .int .u64 0, .int .u64 0], .int .i64 (code : Int)]) e w')
set_option maxRecDepth 100000 in
set_option maxHeartbeats 4000000 in
theorem operands_any (p q : Option Addr) (cp cq : Nat) (la lb : List UInt8) (w : World) (hr : Rd w p la) (hq : Rd w q lb) (hg : Sg w) :
    Calls Tryz.prog 163 #[.slice p la.length cp, .slice q lb.length cq] w (TwPost w la lb (twoC la lb)) := by
  have HA := Lib.hid (fun W (h : Rd W p la) (hg : Sg W) => operand_any p cp la W h hg)
  have HBo := Lib.hid (fun W (h : Rd W q lb) (hg : Sg W) => operand_any q cq lb W h hg)
  have HR := Lib.hid hr
  have HQ := Lib.hid hq
  have HG := Lib.hid hg
  have HB0 := Lib.hid (below2 w (.cells #[.bool false, .int .u64 0, .int .u64 0] 167) (.cells #[.bool false, .int .u64 0, .int .u64 0] 167))
  have HD0 := Lib.hid ((Bx.new w 167 #[.bool false, .int .u64 0, .int .u64 0]).below (below_new _ (.cells #[.bool false, .int .u64 0, .int .u64 0] 167)))
  have HE0 := Lib.hid (second_new w (.cells #[.bool false, .int .u64 0, .int .u64 0] 167) (.cells #[.bool false, .int .u64 0, .int .u64 0] 167) _ _ rfl)
  have hca := opC_cases la
  have hcb := opC_cases lb
  have HTC : Hid (twoC la lb = if opC la = 6 ∨ opC lb = 6 then 6 else if opC la = 7 ∨ opC lb = 7 then 7 else 0) := Lib.hid rfl
  clear hr hq hg
  unfold OpPost at HA HBo
  generalize opC la = ca at *
  generalize opC lb = cb at *
  go_enter Tryz.func163, Tryz.ntmps163
  go_wp2_with fail
  refine (HA.out _ (HR.out.below HB0.out) (HG.out.below HB0.out)).mono ?_
  rintro e w1 ⟨c, d, hq1, rfl, hb⟩
  have HB1 := Lib.hid (bel0 HB0.out hb)
  have HD1 := Lib.hid (HD0.out.below hb)
  have HE1 := Lib.hid (HE0.out.below hb)
  have HQ1 := Lib.hid hq1
  clear hb hq1 HA HB0 HD0 HE0
  obtain ⟨⟨r1, r2, r3⟩, q1, q2, q3⟩ := HD1.out.three
  have HB2 := Lib.hid (below_set3 HB1.out (Nat.le_refl _) (.bool (dNeg la)) (.int .u64 (c : Int)) (.int .u64 (d : Int)))
  have HD2 := Lib.hid (HD1.out.all3 (.bool (dNeg la)) (.int .u64 (c : Int)) (.int .u64 (d : Int)))
  have HE2 := Lib.hid (HE1.out.far3 (F := w.heap.size) (by omega) (.bool (dNeg la)) (.int .u64 (c : Int)) (.int .u64 (d : Int)))
  go_wp2_with fail
  refine (HBo.out _ (HQ.out.below HB2.out) (HG.out.below HB2.out)).mono ?_
  rintro e w2 ⟨c', d', hq2, rfl, hb⟩
  have HB3 := Lib.hid (bel0 HB2.out hb)
  have HD3 := Lib.hid (HD2.out.below hb)
  have HE3 := Lib.hid (HE2.out.below hb)
  have HQ2 := Lib.hid hq2
  clear hb hq2 HBo HB1 HD1 HE1 HB2 HD2 HE2 r1 r2 r3 q1 q2 q3
  obtain ⟨⟨d1, d2, d3⟩, x1, x2, x3⟩ := HD3.out.three
  obtain ⟨⟨e1, e2, e3⟩, y1, y2, y3⟩ := HE3.out.three
  by_cases h6 : ca = 6 ∨ cb = 6
  · have ht : twoC la lb = 6 := by rw [HTC.out, if_pos h6]
    have HT := Lib.hid ht
    clear HTC ht
    rcases hca with rfl | rfl | rfl <;> rcases hcb with rfl | rfl | rfl <;> first | (exfalso; omega) | skip
    all_goals clear h6
    all_goals go_wp2
    all_goals refine bodyPost_ret (v := .tuple #[.agg #[.bool false, .int .u64 0, .int .u64 0], .agg #[.bool false, .int .u64 0, .int .u64 0], .int .i64 6]) ?_ rfl (.inr ⟨by rw [HT.out]; decide, by rw [HT.out]; rfl, ?_⟩)
    all_goals first
      | exact below_set3 (below_set3 (below_set3 HB3.out (Nat.le_succ _) _ _ _) (Nat.le_refl _) _ _ _) (Nat.le_succ _) _ _ _
      | (refine ret_cct (p := 4) (q := 5) (u := 6) ?_ ?_ ?_ (((HD3.out.far3 (by omega) _ _ _).all3 _ _ _).far3 (by omega) _ _ _) (((HE3.out.all3 _ _ _).far3 (by omega) _ _ _).all3 _ _ _) <;> rfl)
  · have h6' : ca ≠ 6 ∧ cb ≠ 6 := by omega
    by_cases h7 : ca = 7 ∨ cb = 7
    · have ht : twoC la lb = 7 := by rw [HTC.out, if_neg h6, if_pos h7]
      have HT := Lib.hid ht
      clear HTC ht h6
      rcases hca with rfl | rfl | rfl <;> rcases hcb with rfl | rfl | rfl <;> first | (exfalso; omega) | skip
      all_goals clear h7 h6'
      all_goals go_wp2
      all_goals refine bodyPost_ret (v := .tuple #[.agg #[.bool false, .int .u64 0, .int .u64 0], .agg #[.bool false, .int .u64 0, .int .u64 0], .int .i64 7]) ?_ rfl (.inr ⟨by rw [HT.out]; decide, by rw [HT.out]; rfl, ?_⟩)
      all_goals first
        | exact below_set3 (below_set3 (below_set3 HB3.out (Nat.le_succ _) _ _ _) (Nat.le_refl _) _ _ _) (Nat.le_succ _) _ _ _
        | (refine ret_cct (p := 4) (q := 5) (u := 6) ?_ ?_ ?_ (((HD3.out.far3 (by omega) _ _ _).all3 _ _ _).far3 (by omega) _ _ _) (((HE3.out.all3 _ _ _).far3 (by omega) _ _ _).all3 _ _ _) <;> rfl)
    · have ht : twoC la lb = 0 := by rw [HTC.out, if_neg h6, if_neg h7]
      have HT := Lib.hid ht
      clear HTC ht
      obtain rfl : ca = 0 := by omega
      obtain rfl : cb = 0 := by omega
      clear h6 h7 h6' hca hcb
      obtain ⟨na, hna⟩ : ∃ na, na = dNeg la := ⟨_, rfl⟩
      obtain ⟨nb, hnb⟩ : ∃ nb, nb = dNeg lb := ⟨_, rfl⟩
      rw [← hna] at HD3 d1 ⊢
      rw [← hnb]
      have HNA := Lib.hid hna
      have HNB := Lib.hid hnb
      clear hna hnb
      go_wp2
      go_region
      all_goals go_wp2
      all_goals refine bodyPost_ret (v := .tuple #[.agg #[.bool na, .int .u64 (c : Int), .int .u64 (d : Int)], .agg #[.bool nb, .int .u64 (c' : Int), .int .u64 (d' : Int)], .int .i64 0]) ?_ rfl (.inl ⟨HT.out, c, d, c', d', HQ1.out, HQ2.out, by rw [HNA.out, HNB.out], ?_⟩)
      · refine ret_cct (p := 4) (q := 5) (u := 6) ?_ ?_ ?_ ((((HD3.out.far3 (by omega) _ _ _).all3 _ _ _).far3 (by omega) _ _ _).below (Below.refl _ _).drew) ((((HE3.out.all3 _ _ _).far3 (by omega) _ _ _).all3 _ _ _).below (Below.refl _ _).drew) <;> rfl
      · exact (below_set3 (below_set3 (below_set3 HB3.out (Nat.le_succ _) _ _ _) (Nat.le_refl _) _ _ _) (Nat.le_succ _) _ _ _).drew
set_option maxRecDepth 100000 in
set_option maxHeartbeats 4000000 in
theorem unequal_any (p q : Option Addr) (cp cq : Nat) (la lb : List UInt8) (w : World) (hla : la.length ≤ 9223372036854775807) (hlb : lb.length ≤ 9223372036854775807) (hr : Rd w p la) (hq : Rd w q lb) (hg : Sg w) :
    Calls Tryz.prog 167 #[.slice p la.length cp, .slice q lb.length cq] w (TwPost w la lb (if 8 < lb.length ∨ la.length ≤ lb.length then 6 else twoC la lb)) := by
  have HTW := Lib.hid (fun W (h : Rd W p la) (k : Rd W q lb) (hg : Sg W) => operands_any p q cp cq la lb W h k hg)
  have HR := Lib.hid hr
  have HQ := Lib.hid hq
  have HG := Lib.hid hg
  have HB0 := Lib.hid (below2 w (.cells #[.bool false, .int .u64 0, .int .u64 0] 167) (.cells #[.bool false, .int .u64 0, .int .u64 0] 167))
  have HD0 := Lib.hid ((Bx.new w 167 #[.bool false, .int .u64 0, .int .u64 0]).below (below_new _ (.cells #[.bool false, .int .u64 0, .int .u64 0] 167)))
  have HE0 := Lib.hid (second_new w (.cells #[.bool false, .int .u64 0, .int .u64 0] 167) (.cells #[.bool false, .int .u64 0, .int .u64 0] 167) _ _ rfl)
  have HIF : Hid ((if 8 < lb.length ∨ la.length ≤ lb.length then 6 else twoC la lb) = (if 8 < lb.length ∨ la.length ≤ lb.length then 6 else twoC la lb)) := Lib.hid rfl
  clear hr hq hg
  obtain ⟨code, hcode⟩ : ∃ code, code = (if 8 < lb.length ∨ la.length ≤ lb.length then 6 else twoC la lb) := ⟨_, rfl⟩
  rw [← hcode]
  clear HIF
  by_cases h8 : 8 < lb.length ∨ la.length ≤ lb.length
  · rw [if_pos h8] at hcode
    subst hcode
    generalize la.length = na at *
    generalize lb.length = nb at *
    by_cases h88 : 8 < nb
    · clear h8
      go_enter Tryz.func167, Tryz.ntmps167
      go_wp2
      refine bodyPost_ret (v := .tuple #[.agg #[.bool false, .int .u64 0, .int .u64 0], .agg #[.bool false, .int .u64 0, .int .u64 0], .int .i64 6]) ?_ rfl (.inr ⟨by decide, rfl, ?_⟩)
      · rw [results_cct rfl]
        go_simp
      · exact HB0.out
    · have hle : na ≤ nb := by omega
      clear h8
      have hleb : decide (na ≤ nb) = true := by simpa using hle
      go_enter Tryz.func167, Tryz.ntmps167
      go_wp2
      refine bodyPost_ret (v := .tuple #[.agg #[.bool false, .int .u64 0, .int .u64 0], .agg #[.bool false, .int .u64 0, .int .u64 0], .int .i64 6]) ?_ rfl (.inr ⟨by decide, rfl, ?_⟩)
      · rw [results_cct rfl]
        go_simp
      · exact HB0.out
  · rw [if_neg h8] at hcode
    have h1 : lb.length ≤ 8 := by omega
    have h2 : lb.length < la.length := by omega
    have h2b : decide (la.length ≤ lb.length) = false := by simpa using h2
    have HC := Lib.hid hcode
    clear h8 hcode
    go_enter Tryz.func167, Tryz.ntmps167
    go_wp2_with fail
    refine (HTW.out _ (HR.out.below HB0.out) (HQ.out.below HB0.out) (HG.out.below HB0.out)).mono ?_
    rw [← HC.out]
    rintro e w1 h
    rcases h with ⟨hz, c, d, c', d', hq1, hq2, rfl, hb⟩ | ⟨hz, rfl, hb⟩
    · have HB1 := Lib.hid (bel0 HB0.out hb)
      have HD1 := Lib.hid (HD0.out.below hb)
      have HE1 := Lib.hid (HE0.out.below hb)
      have HQ1 := Lib.hid hq1
      have HQ2 := Lib.hid hq2
      have HZ := Lib.hid hz
      clear hb hq1 hq2 HTW HB0 HD0 HE0 hz
      obtain ⟨⟨d1, d2, d3⟩, x1, x2, x3⟩ := HD1.out.three
      obtain ⟨⟨e1, e2, e3⟩, y1, y2, y3⟩ := HE1.out.three
      go_wp2
      refine bodyPost_ret (v := .tuple #[.agg #[.bool (dNeg la), .int .u64 (c : Int), .int .u64 (d : Int)], .agg #[.bool (dNeg lb), .int .u64 (c' : Int), .int .u64 (d' : Int)], .int .i64 0]) ?_ rfl (.inl ⟨HZ.out, c, d, c', d', HQ1.out, HQ2.out, rfl, ?_⟩)
      · (refine ret_cct (p := 4) (q := 5) (u := 6) ?_ ?_ ?_ ((HD1.out.all3 _ _ _).far3 (by omega) _ _ _) ((HE1.out.far3 (by omega) _ _ _).all3 _ _ _) <;> rfl)
      · exact below_set3 (below_set3 HB1.out (Nat.le_refl _) _ _ _) (Nat.le_succ _) _ _ _
    · have HB1 := Lib.hid (bel0 HB0.out hb)
      have HD1 := Lib.hid (HD0.out.below hb)
      have HE1 := Lib.hid (HE0.out.below hb)
      have HZ := Lib.hid hz
      clear hb HTW HB0 HD0 HE0 hz
      obtain ⟨⟨d1, d2, d3⟩, x1, x2, x3⟩ := HD1.out.three
      obtain ⟨⟨e1, e2, e3⟩, y1, y2, y3⟩ := HE1.out.three
      go_wp2
      refine bodyPost_ret (v := .tuple #[.agg #[.bool false, .int .u64 0, .int .u64 0], .agg #[.bool false, .int .u64 0, .int .u64 0], .int .i64 (code : Int)]) ?_ rfl (.inr ⟨HZ.out, rfl, ?_⟩)
      · (refine ret_cct (p := 4) (q := 5) (u := 6) ?_ ?_ ?_ ((HD1.out.all3 _ _ _).far3 (by omega) _ _ _) ((HE1.out.far3 (by omega) _ _ _).all3 _ _ _) <;> rfl)
      · exact below_set3 (below_set3 HB1.out (Nat.le_refl _) _ _ _) (Nat.le_succ _) _ _ _

end E
end Go.Proofs.YtbcncohjjnmdcaaGreatDoor
namespace Go.Proofs.YtbcncohjjnmdcaaGreatDoor
open Go.RowKit Go.Shelf
set_option linter.unusedVariables false
namespace E

set_option maxRecDepth 100000 in
theorem dwriter_any (p : Option Addr) (n c z : Nat) (w : World) (hn : n ≤ 1000) (hz : z ≤ 1000) :
    Calls Tryz.prog 185 #[.slice p n c, .int .i64 (z : Int)] w fun e w' => e = .returned (.func (.func 208) #[] #[.pointer (some ⟨w.heap.size + 1, 0, none⟩), .pointer (some ⟨w.heap.size, 0, none⟩)]) ∧
      w' = (w.alloc (.cells #[.slice p n c] 31)).alloc (.cells #[.int .i64 ((n : Int) - 1 - z)] 3) := by
  go_enter Tryz.func185, Tryz.ntmps185
  go_wp2
  go_ret
  exact ⟨rfl, rfl⟩
set_option maxRecDepth 100000 in
theorem put_no (d : Nat) (B C : Nat) (k : Int) (w : World) (hk : k < 0) (hb : Bx w B 3 #[.int .i64 k]) :
    Calls Tryz.prog 208 #[.int .u64 (d : Int), .pointer (some ⟨B, 0, none⟩), .pointer (some ⟨C, 0, none⟩)] w fun e w' => e = .returned (.bool false) ∧ w = w' := by
  have c1 := hb.cell 0
  simp at c1
  clear hb
  go_enter Tryz.func208, Tryz.ntmps208
  go_wp2
  go_ret
  exact ⟨rfl, rfl⟩
set_option maxRecDepth 100000 in
theorem put_yes (d : Nat) (B C g n c k : Nat) (v : Value) (w : World) (hd : d ≤ 9) (hk : k < n) (hn : n ≤ 1000) (hb : Bx w B 3 #[.int .i64 (k : Int)]) (hc : Bx w C 31 #[.slice (some ⟨g, 0, none⟩) n c])
    (hv : w.cell? ⟨g, k, none⟩ = some v) (hf : w.frozen? ⟨g, k, none⟩ = false) (hg : g ≠ B) :
    Calls Tryz.prog 208 #[.int .u64 (d : Int), .pointer (some ⟨B, 0, none⟩), .pointer (some ⟨C, 0, none⟩)] w fun e w' => e = .returned (.bool true) ∧
      w' = (w.setCell ⟨g, k, none⟩ (.int .u8 (48 + (d : Int)))).setCell ⟨B, 0, none⟩ (.int .i64 ((k : Int) - 1)) := by
  have c1 := hb.cell 0
  have c2 := hc.cell 0
  have f1 := hb.frozen 0
  simp at c1 c2
  have HB := Lib.hid hb
  clear hb hc
  have i0 : (0 : Int) ≤ (k : Int) := by omega
  have i1 : (k : Int) < (n : Int) := by omega
  have c3 : (w.setCell ⟨g, k, none⟩ (.int .u8 (48 + (d : Int)))).cell? ⟨B, 0, none⟩ = some (.int .i64 (k : Int)) := by
    have h := (HB.out.far (p := ⟨g, k, none⟩) hg (.int .u8 (48 + (d : Int)))).cell 0
    simpa using h
  have f3 : (w.setCell ⟨g, k, none⟩ (.int .u8 (48 + (d : Int)))).frozen? ⟨B, 0, none⟩ = false := (HB.out.far (p := ⟨g, k, none⟩) hg (.int .u8 (48 + (d : Int)))).frozen 0
  go_enter Tryz.func208, Tryz.ntmps208
  go_wp2
  go_ret
  exact ⟨rfl, rfl⟩
theorem trimLeft_nil (w : World) : Calls Tryz.prog 210 #[.string ⟨#[]⟩, .string ⟨#[48]⟩] w fun e w' => e = .returned (.string ⟨#[]⟩) ∧ w = w' := by
  go_enter Tryz.func210, Tryz.ntmps210
  go_wp2
  go_ret
  exact ⟨rfl, rfl⟩
theorem trimLeft_all (s : ByteArray) (l : List UInt8) (w : World) (hs : s.data.toList = l) (hn : l.length ≤ 1000) :
    Calls Tryz.prog 210 #[.string s, .string ⟨#[48]⟩] w fun e w' => e = .returned (.string ⟨(l.dropWhile (· == 48)).toArray⟩) ∧ w = w' := by
  by_cases h0 : 1 ≤ l.length
  · exact trimLeft_any s l w hs h0 hn
  · have hl : l = [] := List.length_eq_zero_iff.1 (by omega)
    subst hl
    obtain rfl : s = ⟨#[]⟩ := ByteArray.ext (by
      have : s.data = #[] := by simpa using hs
      exact this)
    exact trimLeft_nil w
set_option maxRecDepth 100000 in
theorem trimD_any (s : ByteArray) (l : List UInt8) (w : World) (hs : s.data.toList = l) (h1 : 1 ≤ l.length) (hn : l.length ≤ 1000) :
    Calls Tryz.prog 187 #[.string s] w fun e w' => e = .returned (.string ⟨(trL l).toArray⟩) ∧ ∃ m, w' = w.drewN m := by
  have hz : s.size = l.length := by rw [← hs]; rfl
  obtain ⟨m, hm⟩ : ∃ m, l.length = m + 1 := ⟨l.length - 1, by omega⟩
  have e1 : (s.extract 0 m).data.toList = l.take m := by
    rw [Lib.extract_data, hs]
    simp
  have e2 : (s.extract m s.size).data.toList = l.drop m := by
    rw [Lib.extract_data, hs, hz, List.take_of_length_le (by rw [List.length_drop]; omega)]
  have hv : (⟨(trL l).toArray⟩ : ByteArray) = (⟨((l.take m).dropWhile (· == 48)).toArray⟩ : ByteArray) ++ s.extract m s.size := by
    refine ByteArray.ext ?_
    rw [ByteArray.data_append]
    apply Array.toList_inj.1
    rw [Array.toList_append, e2]
    show trL l = _
    unfold trL
    rw [hm, Nat.add_sub_cancel]
  have HT0 := fun W => trimLeft_all (s.extract 0 m) (l.take m) W e1 (by rw [List.length_take]; omega)
  have hdl : ((l.take m).dropWhile (· == 48)).length ≤ 1000 := by
    have h3 := (List.dropWhile_sublist (fun x : UInt8 => x == 48) (l := l.take m)).length_le
    rw [List.length_take] at h3
    omega
  obtain ⟨T, hT⟩ : ∃ T : ByteArray, T = ⟨((l.take m).dropWhile (· == 48)).toArray⟩ := ⟨_, rfl⟩
  have hTs : T.size ≤ 1000 := by rw [hT]; exact hdl
  rw [← hT] at hv HT0
  have HT := Lib.hid HT0
  clear HT0 hdl hT
  obtain ⟨U, hU⟩ : ∃ U, s.extract m s.size = U := ⟨_, rfl⟩
  have hUs : U.size ≤ 1000 := by rw [← hU, ByteArray.size_extract]; omega
  rw [hU] at hv
  have hTU : T.size + U.size ≤ 9223372036854775807 := by omega
  have HV := Lib.hid hv
  have hmI : (s.size : Int) - 1 = (m : Int) := by omega
  have hms : m ≤ s.size := by omega
  have hzn : s.size ≤ 1000 := by omega
  clear e1 e2 hs hz hm hv
  go_enter Tryz.func187, Tryz.ntmps187
  go_wp2
  go_quiet ((go_at_call 210; exact Calls.quiet_of_same ((HT.out _).mono fun e w5 ⟨he, hw⟩ => ⟨he, hw.symm⟩)))
  go_wp2

  go_ret
  exact ⟨by rw [HV.out]; rfl, _, rfl⟩

end E
end Go.Proofs.YtbcncohjjnmdcaaGreatDoor
