/- The contract of the reading of a number from its characters. -/
import Derived.Test.YtlpekknhaaddcaaDoorDcDrop
import Derived.Test.YtlpekknhaaddcaaDoorDcMath
namespace Go.Proofs.YtlpekknhaaddcaaDoor
open Go.RowKit Go.Shelf
set_option linter.unusedVariables false
namespace E

/-- A number is returned: its sign, and its magnitude as two words. -/
def NvPost (w : World) (neg : Bool) (x : Nat) (e : Ending) (w' : World) : Prop := ∃ c d, Pw x c d ∧ e = .returned (.agg #[.bool neg, .int .u64 (c : Int), .int .u64 (d : Int)]) ∧ Below w.heap.size w w'
/-- The value of the first characters of a number. -/
def chV (l : List UInt8) : Nat := val (fg l)
theorem chV_snoc (l : List UInt8) (c : UInt8) : chV (l ++ [c]) = chV l * 10 + (dgt c).val := by
  unfold chV fg
  rw [List.map_append, List.reverse_append]
  have e : [c].map dgt = [dgt c] := rfl
  rw [e, List.reverse_singleton, List.singleton_append, val_cons]
  omega
theorem chV_lt (l : List UInt8) (h : ∀ j, j < l.length → isD (gt l j) = true) : chV l < 10 ^ l.length := by
  have h2 : ok9 (fg l) := fun d hd => by
    obtain ⟨i, hi, rfl⟩ := List.getElem_of_mem hd
    have := fg_getD9 h i
    rw [List.getD_eq_getElem?_getD, List.getElem?_eq_getElem hi] at this
    exact this
  have h3 := val_lt h2
  rw [fg_len] at h3
  exact h3
theorem third_new (w : World) (a b c : Obj) (t : TypeId) (cs : Array Value) (h : c = .cells cs t) : Bx (((w.alloc a).alloc b).alloc c) (w.heap.size + 1 + 1) t cs := by
  subst h
  have h := Bx.new ((w.alloc a).alloc b) t cs
  rw [World.size_alloc, World.size_alloc] at h
  exact h
theorem second_new (w : World) (a b : Obj) (t : TypeId) (cs : Array Value) (h : b = .cells cs t) : Bx ((w.alloc a).alloc b) (w.heap.size + 1) t cs := by
  subst h
  have h := Bx.new (w.alloc a) t cs
  rw [World.size_alloc] at h
  exact h
theorem Bx.set3 {w : World} {g : Nat} {t : TypeId} {a b c : Value} (h : Bx w g t #[a, b, c]) (x y : Value) : Bx ((w.setCell ⟨g, 1, none⟩ x).setCell ⟨g, 2, none⟩ y) g t #[a, x, y] := (h.set 1 x).set 2 y
theorem pow10_31 : (10 : Nat) ^ 31 = 10000000000000000000000000000000 := by decide
set_option maxRecDepth 100000 in
set_option maxHeartbeats 2000000 in
theorem numberOf_any (neg : Bool) (s : ByteArray) (l : List UInt8) (w : World) (hs : s.data.toList = l) (hn : l.length ≤ 31) (hd : ∀ j, j < l.length → isD (gt l j) = true) :
    Calls Tryd.prog 68 #[.agg #[.bool neg, .string s]] w (NvPost w neg (chV l)) := by
  have hln : l.length = s.size := by rw [← hs]; rfl
  have hstr : ∀ k (h : k < s.size), s[k] = gt l k := fun k h => by rw [← hs]; exact str_at s k h
  have hlt31 : ∀ k, k ≤ l.length → chV (l.take k) < 10000000000000000000000000000000 := fun k hk => by
    have h1 := chV_lt (l.take k) (fun j hj => by
      have hj2 : j < k ∧ j < l.length := by simp at hj; omega
      have e : gt (l.take k) j = gt l j := by
        rw [gt_lt hj, gt_lt hj2.2, List.getElem_take]
      rw [e]
      exact hd j hj2.2)
    have h2 : (10 : Nat) ^ (l.take k).length ≤ 10 ^ 31 := Nat.pow_le_pow_right (by omega) (by rw [List.length_take]; omega)
    rw [pow10_31] at h2
    omega
  have HS := Lib.hid hstr
  have HL := Lib.hid hln
  have HD := Lib.hid hd
  have HLT := Lib.hid hlt31
  rw [hln] at hn
  have HB := Lib.hid (below3 w (.cells #[.bool neg, .string s] 78) (.cells #[.bool false, .int .u64 0, .int .u64 0] 45) (.cells #[.bool neg, .int .u64 0, .int .u64 0] 45))
  have HP := Lib.hid (((Bx.new w 78 #[.bool neg, .string s]).below (below_new _ (.cells #[.bool false, .int .u64 0, .int .u64 0] 45))).below (below_new _ (.cells #[.bool neg, .int .u64 0, .int .u64 0] 45)))
  have HR := Lib.hid ((second_new w (.cells #[.bool neg, .string s] 78) (.cells #[.bool false, .int .u64 0, .int .u64 0] 45) _ _ rfl).below (below_new _ (.cells #[.bool neg, .int .u64 0, .int .u64 0] 45)))
  have HX := Lib.hid (third_new w (.cells #[.bool neg, .string s] 78) (.cells #[.bool false, .int .u64 0, .int .u64 0] 45) (.cells #[.bool neg, .int .u64 0, .int .u64 0] 45) _ _ rfl)
  clear hs hstr hln hd hlt31
  go_enter Tryd.func68, Tryd.ntmps68
  go_wp2
  go_loopw [4, 5, 12] (fun v4 v5 i wr => Below w.heap.size w wr ∧ Bx wr w.heap.size 78 #[.bool neg, .string s] ∧ Bx wr (w.heap.size + 1) 45 #[.bool false, .int .u64 0, .int .u64 0] ∧ ∃ k c d : Nat, k ≤ s.size ∧ i = .int .i64 k ∧ Pw (chV (l.take k)) c d ∧ Bx wr (w.heap.size + 1 + 1) 45 #[.bool neg, .int .u64 c, .int .u64 d]) (fun _ _ i _ => s.size - (intOf i).toNat)
  case atStart => exact ⟨HB.out, HP.out, HR.out, 0, 0, 0, Nat.zero_le _, rfl, ⟨rfl, by omega⟩, HX.out⟩
  case round =>
    clear HB HP HR HX
    obtain ⟨hbw, hbp, hbr, k, c, d, hk, rfl, hpw, hbx⟩ := hrel
    have HBW := Lib.hid hbw
    have HP := Lib.hid hbp
    have HR := Lib.hid hbr
    have HX := Lib.hid hbx
    have HPW := Lib.hid hpw
    have hxl := HLT.out k (by rw [HL.out]; exact hk)
    clear hbw hbp hbr hbx hpw
    obtain ⟨⟨p1, p2⟩, _⟩ := HP.out.two
    obtain ⟨⟨x1, x2, x3⟩, y1, y2, y3⟩ := HX.out.three
    by_cases hlt : k < s.size
    · have hst := HS.out k hlt
      have hd2 := (isD_iff _).1 (HD.out k (by rw [HL.out]; exact hlt))
      have htk := take_one (l := l) (k := k) (by rw [HL.out]; exact hlt)
      have hsn := chV_snoc (l.take k) (gt l k)
      rw [← htk] at hsn
      have hdv := dgt_nat hd2
      have hd9 : (dgt (gt l k)).val ≤ 9 := by omega
      have hv : ((gt l k).toNat : Int) - 48 = ((dgt (gt l k)).val : Int) := by omega
      have HSN := Lib.hid hsn
      clear htk hsn hdv
      generalize gt l k = x at *
      obtain ⟨dg, hdg⟩ : ∃ dg, dg = (dgt x).val := ⟨_, rfl⟩
      rw [← hdg] at hv hd9 HSN
      generalize hX : chV (l.take k) = X at *
      have HT := Lib.hid (fun W => ptimes_cells X 10 c d W HPW.out (by omega) (by omega) (by omega))
      have HPL := Lib.hid (fun W a b (h : Pw (X * 10) a b) => pplus_cells (X * 10) dg a b 0 dg W h ⟨by omega, by omega⟩ (by omega))
      have h00 : (((0 : Nat)) : Int) = 0 := rfl
      have h10 : (((10 : Nat)) : Int) = 10 := rfl
      rw [h10] at HT
      rw [h00] at HPL
      clear hdg hX h00 h10
      go_wp2_with fail
      refine (HT.out _).mono ?_
      rintro e w1 ⟨a1, b1, hq1, rfl, hb⟩
      have HB1 := Lib.hid (bel0 HBW.out hb)
      have HP1 := Lib.hid (HP.out.below hb)
      have HR1 := Lib.hid (HR.out.below hb)
      have HX1 := Lib.hid (HX.out.below hb)
      have HPP := Lib.hid (fun W => HPL.out W a1 b1 hq1)
      clear hb hq1 HPL HT p1 p2 x1 x2 x3 y1 y2 y3
      go_wp2_with fail
      refine (HPP.out _).mono ?_
      rintro e w2 ⟨a2, b2, hq2, rfl, hb⟩
      have HB2 := Lib.hid (bel0 HB1.out hb)
      have HP2 := Lib.hid (HP1.out.below hb)
      have HR2 := Lib.hid (HR1.out.below hb)
      have HX2 := Lib.hid (HX1.out.below hb)
      have HQ2 := Lib.hid hq2
      clear hb hq2 HPP
      obtain ⟨⟨x1, x2, x3⟩, y1, y2, y3⟩ := HX2.out.three
      go_wp2
      go_roundw
      case rel => exact ⟨(HB2.out.setCell (p := ⟨w.heap.size + 1 + 1, 1, none⟩) (by simp; omega) _).setCell (p := ⟨w.heap.size + 1 + 1, 2, none⟩) (by simp; omega) _, (HP2.out.far (by simp; omega) _).far (by simp; omega) _, (HR2.out.far (by simp) _).far (by simp) _, k + 1, a2, b2, by omega, by go_num, by rw [HSN.out]; exact HQ2.out, HX2.out.set3 _ _⟩
      case measure => simp [intOf]; omega
    · obtain rfl : k = s.size := by omega
      have hpw := HPW.out
      rw [← HL.out, List.take_length] at hpw
      have HPF := Lib.hid hpw
      clear hpw
      obtain ⟨⟨r1, r2, r3⟩, q1, q2, q3⟩ := HR.out.three
      go_wp2
      refine bodyPost_ret (v := .agg #[.bool neg, .int .u64 (c : Int), .int .u64 (d : Int)]) ?_ rfl ⟨c, d, HPF.out, rfl, ?_⟩
      · rw [results_cell1 rfl]
        go_simp
      · exact ((HBW.out.setCell (p := ⟨w.heap.size + 1, 0, none⟩) (Nat.le_succ _) _).setCell (p := ⟨w.heap.size + 1, 1, none⟩) (Nat.le_succ _) _).setCell (p := ⟨w.heap.size + 1, 2, none⟩) (Nat.le_succ _) _

end E
end Go.Proofs.YtlpekknhaaddcaaDoor
