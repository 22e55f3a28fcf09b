/- The document's own Shift: its contract. -/
import Derived.Test.YtlpekknhaaddcaaDoorDcTb
import Derived.Test.YtlpekknhaaddcaaDoorDcQt
namespace Go.Proofs.YtlpekknhaaddcaaDoor
open Go.RowKit
set_option linter.unusedVariables false
namespace E

theorem dgs_ten {x : Nat} (h : x ≠ 0) : (0 : Fin 16) :: dgs x = dgs (x * 10) := by
  rw [dgs_pos (n := x * 10) (by omega)]
  congr 1
  · apply Fin.ext
    show 0 = x * 10 % 10
    omega
  · congr 1
    omega
theorem val_drop {l : List (Fin 16)} (h : ok9 l) (k : Nat) : val (l.drop k) = val l / 10 ^ k := by
  by_cases hk : k ≤ l.length
  · have h1 := val_app (l.take k) (l.drop k)
    have h2 := val_take h k
    rw [List.take_append_drop, List.length_take, Nat.min_eq_left hk, h2] at h1
    have h3 := Nat.mod_add_div (val l) (10 ^ k)
    have h4 : 0 < 10 ^ k := Nat.pow_pos (by omega)
    have h5 : 10 ^ k * val (l.drop k) = 10 ^ k * (val l / 10 ^ k) := by omega
    exact Nat.eq_of_mul_eq_mul_left h4 h5
  · have h1 := val_lt h
    rw [List.drop_eq_nil_of_le (by omega), val_nil, Nat.div_eq_of_lt (Nat.lt_of_lt_of_le h1 (Nat.pow_le_pow_right (by omega) (by omega)))]
theorem ok9_drop {l : List (Fin 16)} (h : ok9 l) (k : Nat) : ok9 (l.drop k) := fun d hd => h d (List.mem_of_mem_drop hd)
theorem getD_drop (l : List (Fin 16)) (m t : Nat) : (l.drop m).getD t 0 = l.getD (m + t) 0 := by
  simp only [List.getD_eq_getElem?_getD, List.getElem?_drop]
theorem sl_addr {W : World} {p : Option Addr} {c : Nat} {l : List (Fin 16)} (h : SlI W p c l) (hl : 1 ≤ l.length) : ∃ B off, p = some ⟨B, off, none⟩ := by
  rcases h.1 with h0 | ⟨B, off, hp, _⟩
  · rw [h0] at hl; simp at hl
  · exact ⟨B, off, hp⟩
set_option maxRecDepth 100000 in
set_option maxHeartbeats 4000000 in
theorem rsh_6a (p : Option Addr) (cp nl : Nat) (n r : Int) (w : World) (HL : Hid (∀ W, Calls Tryd.prog 44 #[.int .i64 (nl : Int)] W fun e w' => e = .returned (.bool false) ∧ W = w')) :
    Calls Tryd.prog 28 #[.slice p nl cp, .int .i64 n, .int .i64 r] w (R3Post w ([], 0, 6)) := by
  go_enter Tryd.func28, Tryd.ntmps28
  go_wp2_with fail
  refine (HL.out _).mono ?_
  rintro e w' ⟨rfl, rfl⟩
  go_wp2
  go_ret3
  exact ⟨_, rfl, SvB.nil _, Below.refl _ _⟩
set_option maxRecDepth 100000 in
set_option maxHeartbeats 4000000 in
theorem rsh_6b (p : Option Addr) (cp nl : Nat) (n r : Int) (w : World) (HL : Hid (∀ W, Calls Tryd.prog 44 #[.int .i64 (nl : Int)] W fun e w' => e = .returned (.bool true) ∧ W = w')) (hn : n < -32) :
    Calls Tryd.prog 28 #[.slice p nl cp, .int .i64 n, .int .i64 r] w (R3Post w ([], 0, 6)) := by
  go_enter Tryd.func28, Tryd.ntmps28
  go_wp2_with fail
  refine (HL.out _).mono ?_
  rintro e w' ⟨rfl, rfl⟩
  go_wp2
  go_ret3
  exact ⟨_, rfl, SvB.nil _, Below.refl _ _⟩
set_option maxRecDepth 100000 in
set_option maxHeartbeats 4000000 in
theorem rsh_6c (p : Option Addr) (cp nl : Nat) (n r : Int) (w : World) (HL : Hid (∀ W, Calls Tryd.prog 44 #[.int .i64 (nl : Int)] W fun e w' => e = .returned (.bool true) ∧ W = w')) (hn : 31 < n) :
    Calls Tryd.prog 28 #[.slice p nl cp, .int .i64 n, .int .i64 r] w (R3Post w ([], 0, 6)) := by
  go_enter Tryd.func28, Tryd.ntmps28
  go_wp2_with fail
  refine (HL.out _).mono ?_
  rintro e w' ⟨rfl, rfl⟩
  go_wp2
  go_ret3
  exact ⟨_, rfl, SvB.nil _, Below.refl _ _⟩
set_option maxRecDepth 100000 in
set_option maxHeartbeats 4000000 in
theorem rsh_7a (p : Option Addr) (cp nl : Nat) (n r : Int) (w : World) (HL : Hid (∀ W, Calls Tryd.prog 44 #[.int .i64 (nl : Int)] W fun e w' => e = .returned (.bool true) ∧ W = w')) (hd1 : decide (n < -32) = false) (hd2 : decide (31 < n) = false) (neg : Bool) (x lx : Nat) (HO : Hid (Calls Tryd.prog 45 #[.slice p nl cp] w (fun e w' => ∃ p1 c1, e = .returned (.tuple #[.agg #[.bool neg, .slice p1 lx c1], .bool false]) ∧ SlI w' p1 c1 (dgs x) ∧ Below w.heap.size w w'))) :
    Calls Tryd.prog 28 #[.slice p nl cp, .int .i64 n, .int .i64 r] w (R3Post w ([], 0, 7)) := by
  go_enter Tryd.func28, Tryd.ntmps28
  go_wp2_with fail
  refine (HL.out _).mono ?_
  rintro e w' ⟨rfl, rfl⟩
  go_wp2_with fail
  refine (HO.out).mono ?_
  rintro e w1 ⟨p1, c1, rfl, hs1, hb⟩
  have HB1 := Lib.hid (bel0 hb (below_new w1 (.cells #[.bool neg, .slice p1 lx c1] 52)))
  clear hb hs1 HO
  go_wp2
  go_ret3
  exact ⟨_, rfl, SvB.nil _, HB1.out⟩
set_option maxRecDepth 100000 in
set_option maxHeartbeats 4000000 in
theorem rsh_7b (p : Option Addr) (cp nl : Nat) (n r : Int) (w : World) (HL : Hid (∀ W, Calls Tryd.prog 44 #[.int .i64 (nl : Int)] W fun e w' => e = .returned (.bool true) ∧ W = w')) (hd1 : decide (n < -32) = false) (hd2 : decide (31 < n) = false) (hr : r < 0) (neg : Bool) (x lx : Nat) (HO : Hid (Calls Tryd.prog 45 #[.slice p nl cp] w (fun e w' => ∃ p1 c1, e = .returned (.tuple #[.agg #[.bool neg, .slice p1 lx c1], .bool true]) ∧ SlI w' p1 c1 (dgs x) ∧ Below w.heap.size w w'))) :
    Calls Tryd.prog 28 #[.slice p nl cp, .int .i64 n, .int .i64 r] w (R3Post w ([], 0, 7)) := by
  go_enter Tryd.func28, Tryd.ntmps28
  go_wp2_with fail
  refine (HL.out _).mono ?_
  rintro e w' ⟨rfl, rfl⟩
  go_wp2_with fail
  refine (HO.out).mono ?_
  rintro e w1 ⟨p1, c1, rfl, hs1, hb⟩
  have HB1 := Lib.hid (bel0 hb (below_new w1 (.cells #[.bool neg, .slice p1 lx c1] 52)))
  clear hb hs1 HO
  go_wp2
  go_ret3
  exact ⟨_, rfl, SvB.nil _, HB1.out⟩
set_option maxRecDepth 100000 in
set_option maxHeartbeats 4000000 in
theorem rsh_7c (p : Option Addr) (cp nl : Nat) (n r : Int) (w : World) (HL : Hid (∀ W, Calls Tryd.prog 44 #[.int .i64 (nl : Int)] W fun e w' => e = .returned (.bool true) ∧ W = w')) (hd1 : decide (n < -32) = false) (hd2 : decide (31 < n) = false) (hr : 9 < r) (neg : Bool) (x lx : Nat) (HO : Hid (Calls Tryd.prog 45 #[.slice p nl cp] w (fun e w' => ∃ p1 c1, e = .returned (.tuple #[.agg #[.bool neg, .slice p1 lx c1], .bool true]) ∧ SlI w' p1 c1 (dgs x) ∧ Below w.heap.size w w'))) :
    Calls Tryd.prog 28 #[.slice p nl cp, .int .i64 n, .int .i64 r] w (R3Post w ([], 0, 7)) := by
  go_enter Tryd.func28, Tryd.ntmps28
  go_wp2_with fail
  refine (HL.out _).mono ?_
  rintro e w' ⟨rfl, rfl⟩
  go_wp2_with fail
  refine (HO.out).mono ?_
  rintro e w1 ⟨p1, c1, rfl, hs1, hb⟩
  have HB1 := Lib.hid (bel0 hb (below_new w1 (.cells #[.bool neg, .slice p1 lx c1] 52)))
  clear hb hs1 HO
  go_wp2
  go_ret3
  exact ⟨_, rfl, SvB.nil _, HB1.out⟩
set_option maxRecDepth 100000 in
set_option maxHeartbeats 4000000 in
theorem rsh_left (p : Option Addr) (cp nl x n m cc co : Nat) (neg : Bool) (F : List UInt8) (w : World) (hn31 : n ≤ 31) (hm9 : m ≤ 9) (HLN : Hid (∀ t, t ≤ n → (dgs (x * 10 ^ t)).length ≤ 80)) (HL : Hid (∀ W, Calls Tryd.prog 44 #[.int .i64 (nl : Int)] W fun e w' => e = .returned (.bool true) ∧ W = w')) (HO : Hid (Calls Tryd.prog 45 #[.slice p nl cp] w (fun e w' => ∃ p1 c1, e = .returned (.tuple #[.agg #[.bool neg, .slice p1 (dgs x).length c1], .bool true]) ∧ SlI w' p1 c1 (dgs x) ∧ Below w.heap.size w w')))
    (HR : Hid (∀ p1 c1 W, SlI W p1 c1 (dgs (x * 10 ^ n)) → Calls Tryd.prog 39 #[.agg #[.bool neg, .slice p1 (dgs (x * 10 ^ n)).length c1], .int .i64 (nl : Int)] W (fun e w' => (∃ sv, e = .returned (.tuple #[sv, .int .i64 (cc : Int), .int .i64 (co : Int)]) ∧ SvB w' sv F ∧ Below W.heap.size W w')))) :
    Calls Tryd.prog 28 #[.slice p nl cp, .int .i64 (n : Int), .int .i64 (m : Int)] w (R3Post w (F, cc, co)) := by
  obtain ⟨i0, hi, hz0, hz1, hz2⟩ := info_parts info3
  have hT10 : Hid (∀ t, x * 10 ^ t * 10 = x * 10 ^ (t + 1)) := Lib.hid (fun t => by rw [Nat.pow_succ, Nat.mul_assoc])
  have HX0 : Hid (x * 10 ^ 0 = x) := Lib.hid (by rw [Nat.pow_zero, Nat.mul_one])
  have HZR : Hid (∀ t, x * 10 ^ t = 0 → x * 10 ^ n = 0) := Lib.hid (fun t h => by
    rcases Nat.mul_eq_zero.1 h with h | h
    · rw [h, Nat.zero_mul]
    · have : 0 < 10 ^ t := Nat.pow_pos (by omega)
      omega)
  obtain ⟨V, hV⟩ : ∃ V : Nat → Nat, V = fun t => x * 10 ^ t := ⟨_, rfl⟩
  have HVs : Hid (∀ t, V t * 10 = V (t + 1)) := Lib.hid (by rw [hV]; exact hT10.out)
  have HV0 : Hid (V 0 = x) := Lib.hid (by rw [hV]; exact HX0.out)
  have HVZ : Hid (∀ t, V t = 0 → V n = 0) := Lib.hid (by rw [hV]; exact HZR.out)
  have HVL : Hid (∀ t, t ≤ n → (dgs (V t)).length ≤ 80) := Lib.hid (by rw [hV]; exact HLN.out)
  have HRR : Hid (∀ p1 c1 W, SlI W p1 c1 (dgs (V n)) → Calls Tryd.prog 39 #[.agg #[.bool neg, .slice p1 (dgs (V n)).length c1], .int .i64 (nl : Int)] W (fun e w' => (∃ sv, e = .returned (.tuple #[sv, .int .i64 (cc : Int), .int .i64 (co : Int)]) ∧ SvB w' sv F ∧ Below W.heap.size W w'))) := Lib.hid (by rw [hV]; exact HR.out)
  clear hV HR HLN hT10 HX0 HZR
  go_enter Tryd.func28, Tryd.ntmps28
  go_wp2_with fail
  refine (HL.out _).mono ?_
  rintro e w' ⟨rfl, rfl⟩
  go_wp2_with fail
  refine (HO.out).mono ?_
  rintro e w1 ⟨p1, c1, rfl, hs1, hb⟩
  obtain ⟨W2, hW2⟩ : ∃ W2, W2 = w1.alloc (.cells #[.bool neg, .slice p1 (dgs x).length c1] 52) := ⟨_, rfl⟩
  have hb2 : Below w1.heap.size w1 W2 := by rw [hW2]; exact below_new _ _
  have HX2 : Hid (Bx W2 w1.heap.size 52 #[.bool neg, .slice p1 (dgs x).length c1]) := Lib.hid (by rw [hW2]; exact Bx.new _ _ _)
  have HB2 := Lib.hid (bel0 hb hb2)
  have HS2 := Lib.hid (hs1.below hb2)
  have hle1 : w.heap.size ≤ w1.heap.size := hb.size
  clear hb hb2 hs1 HO
  go_wp2_with fail
  rw [← hW2]
  clear hW2
  go_wp2
  go_loopw [11] (fun kv wr => Below w.heap.size w wr ∧ ∃ (t : Nat) (p2 : Option Addr) (c2 : Nat), t ≤ n ∧ kv = .int .i64 (t : Int) ∧ Bx wr w1.heap.size 52 #[.bool neg, .slice p2 (dgs (V t)).length c2] ∧ SlI wr p2 c2 (dgs (V t))) (fun kv _ => n - (intOf kv).toNat)
  case atStart => exact ⟨HB2.out, 0, p1, c1, Nat.zero_le _, rfl, by rw [HV0.out]; exact HX2.out, by rw [HV0.out]; exact HS2.out⟩
  case round =>
    clear HB2 HX2 HS2
    obtain ⟨hbw, t, p2, c2, ht, rfl, hx, hs⟩ := hrel
    have HB := Lib.hid hbw
    have HX := Lib.hid hx
    have HS := Lib.hid hs
    obtain ⟨⟨d1, d2⟩, f1, f2⟩ := hx.two
    clear hbw hx hs
    have hend : V t = V n → Calls Tryd.prog 39 #[.agg #[.bool neg, .slice p2 (dgs (V t)).length c2], .int .i64 (nl : Int)] wr (fun e w' => ∃ sv, e = .returned (.tuple #[sv, .int .i64 (cc : Int), .int .i64 (co : Int)]) ∧ SvB w' sv F ∧ Below wr.heap.size wr w') := fun e => by
      rw [e]
      exact HRR.out _ _ _ (by rw [← e]; exact HS.out)
    have HEND := Lib.hid hend
    clear hend
    by_cases hlt : t < n
    · by_cases hz : V t = 0
      · have HEN := Lib.hid (HEND.out (by rw [hz, HVZ.out t hz]))
        have hl0 := (len_zero (V t)).2 hz
        rw [hl0] at HEN d2
        clear hz hl0
        go_wp2_with fail
        refine (HEN.out).mono ?_
        rintro e w6 ⟨sv, rfl, hsv, hb⟩
        have HB6 := Lib.hid (bel0 HB.out hb)
        have HSV := Lib.hid hsv
        clear hb hsv
        go_wp2
        go_ret3
        exact ⟨_, rfl, HSV.out, HB6.out⟩
      · have hlne : (dgs (V t)).length ≠ 0 := fun e => hz ((len_zero (V t)).1 e)
        obtain ⟨B, off, rfl⟩ := sl_addr HS.out (by omega)
        have HTEN := Lib.hid ((dgs_ten hz).trans (by rw [HVs.out t]))
        have hl80 := HVL.out t ht
        have HOW := Lib.hid (own_one wr (.int .i64 0))
        have HRD := Lib.hid ((HS.out.below (below_new wr (.cells #[.int .i64 0] 3))).1.cells4)
        have hgt : 0 < (dgs (V t)).length := by omega
        have hxa := (HX.out.below (below_new wr (.cells #[.int .i64 0] 3))).two.1.2
        clear hz HEND hlne
        generalize hLT : dgs (V t) = LT at *
        clear hLT
        go_wp2_with (at_builtin; refine wpList_append_own _ rfl (.tmp 53) (.tmp 55) 50 rfl wr.heap.size 3 i0 (.int .i64 0) 1 8 Tryd.underlying50 hi hz0 hz1 hz2 rfl (by decide) _ 1 [.int .i64 0] rfl HOW.out ⟨B, off, none⟩ LT.length c2 (bsI LT) rfl (by rw [bsI_len, Nat.mul_one]) HRD.out (bsI_one _) (by unfold maxLen; omega) (by omega) (by simp) ?_)
        intro v' w3 hown hgrow _
        have hkeep : Below wr.heap.size wr w3 := (below_new wr (.cells #[.int .i64 0] 3)).grown hgrow (by simp) (fun r hr => (HOW.out.lt r hr).1)
        obtain ⟨p3, c3, rfl, hs3⟩ := sl_own (l := (0 : Fin 16) :: LT) hown (by rw [List.length_cons, Nat.add_comm])
        have hx3 := HX.out.below hkeep
        obtain ⟨⟨g1, g2⟩, k1, k2⟩ := hx3.two
        have hs4 := hs3.far hx3 numB (a := ⟨w1.heap.size, 1, none⟩) rfl (.slice p3 ((0 : Fin 16) :: LT).length c3)
        have hx4 : Bx (w3.setCell ⟨w1.heap.size, 1, none⟩ (.slice p3 ((0 : Fin 16) :: LT).length c3)) w1.heap.size 52 #[.bool neg, .slice p3 ((0 : Fin 16) :: LT).length c3] := hx3.set 1 _
        have HB4 := Lib.hid ((bel0 HB.out hkeep).setCell (p := ⟨w1.heap.size, 1, none⟩) hle1 (.slice p3 ((0 : Fin 16) :: LT).length c3))
        rw [HTEN.out] at hs4 hx4 HB4 ⊢
        have HS4 := Lib.hid hs4
        have HX4 := Lib.hid hx4
        clear hgrow HOW HRD hown hs4 hx4 hs3 hx3 hkeep
        go_wp2
        go_roundw
        case rel => exact ⟨HB4.out, t + 1, p3, c3, by omega, by go_num, HX4.out, HS4.out⟩
        case measure => simp [intOf]; omega
    · obtain rfl : t = n := by omega
      have HEN := Lib.hid (HEND.out rfl)
      clear HEND
      go_wp2_with fail
      refine (HEN.out).mono ?_
      rintro e w6 ⟨sv, rfl, hsv, hb⟩
      have HB6 := Lib.hid (bel0 HB.out hb)
      have HSV := Lib.hid hsv
      clear hb hsv
      go_wp2
      go_ret3
      exact ⟨_, rfl, HSV.out, HB6.out⟩
set_option maxRecDepth 100000 in
set_option maxHeartbeats 4000000 in
theorem rsh_round (p : Option Addr) (cp nl x k m cc co v0 v : Nat) (dd : Fin 16) (neg : Bool) (F : List UInt8) (w : World) (hk31 : k ≤ 31) (hm9 : m ≤ 9) (hdd : dd.val ≤ 9) (hrnd : 10 ≤ dd.val + m) (hlx : (dgs x).length ≤ 40) (HL : Hid (∀ W, Calls Tryd.prog 44 #[.int .i64 (nl : Int)] W fun e w' => e = .returned (.bool true) ∧ W = w')) (HO : Hid (Calls Tryd.prog 45 #[.slice p nl cp] w (fun e w' => ∃ p1 c1, e = .returned (.tuple #[.agg #[.bool neg, .slice p1 (dgs x).length c1], .bool true]) ∧ SlI w' p1 c1 (dgs x) ∧ Below w.heap.size w w')))
    (HDG : Hid (∀ p1 c1 W, SlI W p1 c1 (dgs x) → Calls Tryd.prog 58 #[.slice p1 (dgs x).length c1, .int .i64 (k : Int)] W fun e w' => e = .returned (.int .i64 (dd.val : Int)) ∧ W = w'))
    (HTR : Hid (∀ po co L W, L.length ≤ 1000 → ok9 L → SlI W po co L → Calls Tryd.prog 60 #[.slice po L.length co] W (RnPost W (val L))))
    (HPL : Hid (∀ po co q d W, SlI W po co ((dgs x).drop (k + 1)) → SlI W q d [(1 : Fin 16)] → Calls Tryd.prog 59 #[.slice po ((dgs x).drop (k + 1)).length co, .slice q 1 d] W (RnPost W v)))
    (hvl : (dgs v).length ≤ 80) (ho9 : ok9 ((dgs x).drop (k + 1)))
    (HR : Hid (∀ p1 c1 W, SlI W p1 c1 (dgs v) → Calls Tryd.prog 39 #[.agg #[.bool neg, .slice p1 (dgs v).length c1], .int .i64 (nl : Int)] W (fun e w' => (∃ sv, e = .returned (.tuple #[sv, .int .i64 (cc : Int), .int .i64 (co : Int)]) ∧ SvB w' sv F ∧ Below W.heap.size W w')))) :
    Calls Tryd.prog 28 #[.slice p nl cp, .int .i64 (-((k : Int) + 1)), .int .i64 (m : Int)] w (R3Post w (F, cc, co)) := by
  obtain ⟨i0, hi, hz0, hz1, hz2⟩ := info_parts info3
  unfold RnPost at HTR HPL
  have hnk : -(-((k : Int) + 1)) = (k : Int) + 1 := by omega
  have hn0 : -((k : Int) + 1) < 0 := by omega
  have hnz : ¬ (0 : Int) < -((k : Int) + 1) := by omega
  have hsr : (dd.val : Int) + (m : Int) = ((dd.val + m : Nat) : Int) := by omega
  have hge : decide ((10 : Int) ≤ ((dd.val + m : Nat) : Int)) = true := decide_eq_true (by omega)
  have HGL : Hid (((dgs x).drop (k + 1)).length = (dgs x).length - (k + 1)) := Lib.hid (List.length_drop ..)
  have HGD := Lib.hid (fun t => getD_drop (dgs x) (k + 1) t)
  have HTK := Lib.hid (fun t (h : t < ((dgs x).drop (k + 1)).length) => take_getD (l := (dgs x).drop (k + 1)) (k := t) h)
  have HO9 := Lib.hid ho9
  have hdgb : dd.val + m ≤ 18 := by omega
  clear ho9
  go_enter Tryd.func28, Tryd.ntmps28
  go_wp2_with fail
  refine (HL.out _).mono ?_
  rintro e w' ⟨rfl, rfl⟩
  go_wp2_with fail
  refine (HO.out).mono ?_
  rintro e w1 ⟨p1, c1, rfl, hs1, hb⟩
  obtain ⟨W2, hW2⟩ : ∃ W2, W2 = w1.alloc (.cells #[.bool neg, .slice p1 (dgs x).length c1] 52) := ⟨_, rfl⟩
  have hb2 : Below w1.heap.size w1 W2 := by rw [hW2]; exact below_new _ _
  have HX2 : Hid (Bx W2 w1.heap.size 52 #[.bool neg, .slice p1 (dgs x).length c1]) := Lib.hid (by rw [hW2]; exact Bx.new _ _ _)
  have HB2 := Lib.hid (bel0 hb hb2)
  have HS2 := Lib.hid (hs1.below hb2)
  have hle1 : w.heap.size ≤ w1.heap.size := hb.size
  clear hb hb2 hs1 HO
  have HCL := Lib.hid (sl_cells HS2.out)
  have HDV : Hid (∀ t, (((dgs x).getD t 0).val) = x / 10 ^ t % 10) := Lib.hid (fun t => dgs_getD x t)
  have HDG2 := Lib.hid (HDG.out _ _ _ HS2.out)
  obtain ⟨⟨d1, d2⟩, f1, f2⟩ := HX2.out.two
  generalize hG : (dgs x).drop (k + 1) = G at *
  clear hG HDG
  generalize hX : dgs x = X at *
  clear hX
  generalize hlX : X.length = lx at *
  clear hlX
  generalize hs : dd.val + m = s at *
  clear hs
  go_wp2_with fail
  rw [← hW2]
  clear hW2
  go_wp2
  go_loopw [11] (fun kv wr => W2 = wr ∧ kv = .int .i64 0) (fun _ _ => 0)
  case atStart => exact ⟨rfl, rfl⟩
  case round =>
    obtain ⟨rfl, rfl⟩ := hrel
    go_wp2_with fail
    refine (HDG2.out).mono ?_
    rintro e w' ⟨rfl, rfl⟩
    go_wp2
    go_loopw [13, 14] (fun sv i wr => Below W2.heap.size W2 wr ∧ ∃ t : Nat, t ≤ G.length ∧ i = .int .i64 ((k : Int) + 1 + (t : Int)) ∧ wr.ownsRow W2.heap.size 3 1 sv t (bsI (G.take t))) (fun _ i _ => k + 1 + G.length - (intOf i).toNat)
    case atStart => exact ⟨Below.refl _ _, 0, Nat.zero_le _, by go_num, World.ownsRow_nil _ _ _ _⟩
    case round =>
      obtain ⟨hbw, t, ht, rfl, hown⟩ := hrel
      have HB := Lib.hid hbw
      have HO := Lib.hid hown
      have HXr := Lib.hid (HX2.out.below hbw)
      clear hbw hown d1 d2 f1 f2
      obtain ⟨⟨d1, d2⟩, f1, f2⟩ := HXr.out.two
      have hGl := HGL.out
      by_cases hlt : t < G.length
      · obtain ⟨B, off, rfl, hlc, hBl, hcell⟩ := HCL.out (k + 1 + t) (by omega)
        have hcw := (HB.out.cell (p := ⟨B, off + (k + 1 + t), none⟩) hBl).trans hcell
        have hdx : (G.getD t 0).val = x / 10 ^ (k + 1 + t) % 10 := by rw [HGD.out t, HDV.out]
        rw [← hdx] at hcw
        have HT := Lib.hid (HTK.out t hlt)
        have hidx : (k : Int) + 1 + (t : Int) = ((k + 1 + t : Nat) : Int) := by omega
        have hil : k + 1 + t < lx := by omega
        have hd9 := (G.getD t 0).isLt
        have ht40 : t ≤ 40 := by omega
        rw [hidx]
        clear hcell hBl hdx hGl ht hidx HTK HDV HCL
        generalize hj : k + 1 + t = j at *
        have HJ := Lib.hid hj
        clear hj
        have hj80 : j ≤ 80 := by have := HJ.out; omega
        generalize G.getD t 0 = gd at *
        go_wp2_with (at_builtin; refine wpList_append_own _ rfl (.tmp 75) (.tmp 81) 50 rfl W2.heap.size 3 i0 (.int .i64 0) 1 8 Tryd.underlying50 hi hz0 hz1 hz2 rfl (by decide) _ t _ rfl (HO.out.alloc _) ⟨wr.heap.size, 0, none⟩ 1 1 [_] rfl rfl (cellNew _ _ _) (by intro u hu; simp at hu; subst hu; rfl) (by unfold maxLen; omega) (by omega) (by have := HB.out.size; simp; omega) ?_)
        intro v' w3 hown' hgrow _
        have hb1 := (HB.out.alloc HB.out.size _).grown hgrow (by have := HB.out.size; simp; omega) (fun r hr => (HO.out.lt r hr).1)
        clear hgrow
        go_wp2
        go_roundw
        case rel => exact ⟨hb1, t + 1, by omega, by rw [← HJ.out]; congr 1, by rw [HT.out, bsI_snoc]; exact hown'⟩
        case measure => have := HJ.out; simp [intOf]; omega
      · obtain rfl : t = G.length := by omega
        have hown := HO.out
        rw [List.take_of_length_le (Nat.le_refl _)] at hown
        have hoi : HoldI wr W2.heap.size u13 G := hown
        obtain ⟨p5, c5, rfl, hs5⟩ := hoi.sl
        have HS5 := Lib.hid hs5
        have HBr := Lib.hid (bel0 HB2.out HB.out)
        have hend : ¬ (k : Int) + 1 + (G.length : Int) < (lx : Int) := by omega
        have hG40 : G.length ≤ 40 := by omega
        clear hown hoi hs5 HO HCL HTK HDV hGl
        have hb6 := below_new wr (.cells #[.int .i64 1] 3)
        have hso : SlI (wr.alloc (.cells #[.int .i64 1] 3)) (some ⟨wr.heap.size, 0, none⟩) 1 [(1 : Fin 16)] := by
          obtain ⟨q, d, he, h⟩ := sl_own (l := [(1 : Fin 16)]) (own_one wr (.int .i64 1)) rfl
          injection he with e1 _ e2
          rw [e1, e2]
          exact h
        have HPP := Lib.hid (HPL.out p5 c5 _ _ _ (HS5.out.below hb6) hso)
        have HB6 := Lib.hid (bel0 HBr.out hb6)
        have HX6 := Lib.hid (HXr.out.below hb6)
        clear hb6 hso HS5
        go_wp2_with fail
        refine (HPP.out).mono ?_
        rintro e w8 ⟨p8, c8, rfl, hs8, hb8⟩
        have HBq := Lib.hid (bel0 HB6.out hb8)
        have HXq := Lib.hid (HX6.out.below hb8)
        have htt := HTR.out p8 c8 _ _ (by omega) (dgs_ok9 v) hs8
        rw [val_dgs] at htt
        have HTT := Lib.hid htt
        clear hb8 hs8 HPP HB6 HX6 htt
        go_wp2_with fail
        refine (HTT.out).mono ?_
        rintro e w7 ⟨p7, c7, rfl, hs7, hb7⟩
        have HB7 := Lib.hid (bel0 HBq.out hb7)
        have hx7 := HXq.out.below hb7
        clear d1 d2 f1 f2
        obtain ⟨⟨d1, d2⟩, f1, f2⟩ := hx7.two
        have HB8 := Lib.hid (HB7.out.setCell (p := ⟨w1.heap.size, 1, none⟩) hle1 (.slice p7 (dgs v).length c7))
        have HS8 := Lib.hid (hs7.far hx7 numB (a := ⟨w1.heap.size, 1, none⟩) rfl (.slice p7 (dgs v).length c7))
        have HEN := Lib.hid (HR.out _ _ _ HS8.out)
        have HX8 : Hid (Bx (w7.setCell ⟨w1.heap.size, 1, none⟩ (.slice p7 (dgs v).length c7)) w1.heap.size 52 #[.bool neg, .slice p7 (dgs v).length c7]) := Lib.hid (hx7.set 1 _)
        obtain ⟨⟨y1, y2⟩, _⟩ := HX8.out.two
        clear hb7 hs7 hx7 HTT
        go_wp2_with fail
        refine (HEN.out).mono ?_
        rintro e w9 ⟨sv, rfl, hsv, hb⟩
        have HB9 := Lib.hid (bel0 HB8.out hb)
        have HSV := Lib.hid hsv
        clear hb hsv
        go_wp2
        go_ret3
        exact ⟨_, rfl, HSV.out, HB9.out⟩
set_option maxRecDepth 100000 in
set_option maxHeartbeats 4000000 in
theorem rsh_cut (p : Option Addr) (cp nl x k m cc co v0 v : Nat) (dd : Fin 16) (neg : Bool) (F : List UInt8) (w : World) (hk31 : k ≤ 31) (hm9 : m ≤ 9) (hdd : dd.val ≤ 9) (hrnd : dd.val + m < 10) (hlx : (dgs x).length ≤ 40) (HL : Hid (∀ W, Calls Tryd.prog 44 #[.int .i64 (nl : Int)] W fun e w' => e = .returned (.bool true) ∧ W = w')) (HO : Hid (Calls Tryd.prog 45 #[.slice p nl cp] w (fun e w' => ∃ p1 c1, e = .returned (.tuple #[.agg #[.bool neg, .slice p1 (dgs x).length c1], .bool true]) ∧ SlI w' p1 c1 (dgs x) ∧ Below w.heap.size w w')))
    (HDG : Hid (∀ p1 c1 W, SlI W p1 c1 (dgs x) → Calls Tryd.prog 58 #[.slice p1 (dgs x).length c1, .int .i64 (k : Int)] W fun e w' => e = .returned (.int .i64 (dd.val : Int)) ∧ W = w'))
    (HTR : Hid (∀ po co L W, L.length ≤ 1000 → ok9 L → SlI W po co L → Calls Tryd.prog 60 #[.slice po L.length co] W (RnPost W (val L))))
    (hv0 : val ((dgs x).drop (k + 1)) = v)
    (hvl : (dgs v).length ≤ 80) (ho9 : ok9 ((dgs x).drop (k + 1)))
    (HR : Hid (∀ p1 c1 W, SlI W p1 c1 (dgs v) → Calls Tryd.prog 39 #[.agg #[.bool neg, .slice p1 (dgs v).length c1], .int .i64 (nl : Int)] W (fun e w' => (∃ sv, e = .returned (.tuple #[sv, .int .i64 (cc : Int), .int .i64 (co : Int)]) ∧ SvB w' sv F ∧ Below W.heap.size W w')))) :
    Calls Tryd.prog 28 #[.slice p nl cp, .int .i64 (-((k : Int) + 1)), .int .i64 (m : Int)] w (R3Post w (F, cc, co)) := by
  obtain ⟨i0, hi, hz0, hz1, hz2⟩ := info_parts info3
  unfold RnPost at HTR
  have hnk : -(-((k : Int) + 1)) = (k : Int) + 1 := by omega
  have hn0 : -((k : Int) + 1) < 0 := by omega
  have hnz : ¬ (0 : Int) < -((k : Int) + 1) := by omega
  have hsr : (dd.val : Int) + (m : Int) = ((dd.val + m : Nat) : Int) := by omega
  have hge : decide ((10 : Int) ≤ ((dd.val + m : Nat) : Int)) = false := decide_eq_false (by omega)
  have HGL : Hid (((dgs x).drop (k + 1)).length = (dgs x).length - (k + 1)) := Lib.hid (List.length_drop ..)
  have HGD := Lib.hid (fun t => getD_drop (dgs x) (k + 1) t)
  have HTK := Lib.hid (fun t (h : t < ((dgs x).drop (k + 1)).length) => take_getD (l := (dgs x).drop (k + 1)) (k := t) h)
  have HO9 := Lib.hid ho9
  have hdgb : dd.val + m ≤ 18 := by omega
  clear ho9
  go_enter Tryd.func28, Tryd.ntmps28
  go_wp2_with fail
  refine (HL.out _).mono ?_
  rintro e w' ⟨rfl, rfl⟩
  go_wp2_with fail
  refine (HO.out).mono ?_
  rintro e w1 ⟨p1, c1, rfl, hs1, hb⟩
  obtain ⟨W2, hW2⟩ : ∃ W2, W2 = w1.alloc (.cells #[.bool neg, .slice p1 (dgs x).length c1] 52) := ⟨_, rfl⟩
  have hb2 : Below w1.heap.size w1 W2 := by rw [hW2]; exact below_new _ _
  have HX2 : Hid (Bx W2 w1.heap.size 52 #[.bool neg, .slice p1 (dgs x).length c1]) := Lib.hid (by rw [hW2]; exact Bx.new _ _ _)
  have HB2 := Lib.hid (bel0 hb hb2)
  have HS2 := Lib.hid (hs1.below hb2)
  have hle1 : w.heap.size ≤ w1.heap.size := hb.size
  clear hb hb2 hs1 HO
  have HCL := Lib.hid (sl_cells HS2.out)
  have HDV : Hid (∀ t, (((dgs x).getD t 0).val) = x / 10 ^ t % 10) := Lib.hid (fun t => dgs_getD x t)
  have HDG2 := Lib.hid (HDG.out _ _ _ HS2.out)
  obtain ⟨⟨d1, d2⟩, f1, f2⟩ := HX2.out.two
  generalize hG : (dgs x).drop (k + 1) = G at *
  clear hG HDG
  generalize hX : dgs x = X at *
  clear hX
  generalize hlX : X.length = lx at *
  clear hlX
  generalize hs : dd.val + m = s at *
  clear hs
  go_wp2_with fail
  rw [← hW2]
  clear hW2
  go_wp2
  go_loopw [11] (fun kv wr => W2 = wr ∧ kv = .int .i64 0) (fun _ _ => 0)
  case atStart => exact ⟨rfl, rfl⟩
  case round =>
    obtain ⟨rfl, rfl⟩ := hrel
    go_wp2_with fail
    refine (HDG2.out).mono ?_
    rintro e w' ⟨rfl, rfl⟩
    go_wp2
    go_loopw [13, 14] (fun sv i wr => Below W2.heap.size W2 wr ∧ ∃ t : Nat, t ≤ G.length ∧ i = .int .i64 ((k : Int) + 1 + (t : Int)) ∧ wr.ownsRow W2.heap.size 3 1 sv t (bsI (G.take t))) (fun _ i _ => k + 1 + G.length - (intOf i).toNat)
    case atStart => exact ⟨Below.refl _ _, 0, Nat.zero_le _, by go_num, World.ownsRow_nil _ _ _ _⟩
    case round =>
      obtain ⟨hbw, t, ht, rfl, hown⟩ := hrel
      have HB := Lib.hid hbw
      have HO := Lib.hid hown
      have HXr := Lib.hid (HX2.out.below hbw)
      clear hbw hown d1 d2 f1 f2
      obtain ⟨⟨d1, d2⟩, f1, f2⟩ := HXr.out.two
      have hGl := HGL.out
      by_cases hlt : t < G.length
      · obtain ⟨B, off, rfl, hlc, hBl, hcell⟩ := HCL.out (k + 1 + t) (by omega)
        have hcw := (HB.out.cell (p := ⟨B, off + (k + 1 + t), none⟩) hBl).trans hcell
        have hdx : (G.getD t 0).val = x / 10 ^ (k + 1 + t) % 10 := by rw [HGD.out t, HDV.out]
        rw [← hdx] at hcw
        have HT := Lib.hid (HTK.out t hlt)
        have hidx : (k : Int) + 1 + (t : Int) = ((k + 1 + t : Nat) : Int) := by omega
        have hil : k + 1 + t < lx := by omega
        have hd9 := (G.getD t 0).isLt
        have ht40 : t ≤ 40 := by omega
        rw [hidx]
        clear hcell hBl hdx hGl ht hidx HTK HDV HCL
        generalize hj : k + 1 + t = j at *
        have HJ := Lib.hid hj
        clear hj
        have hj80 : j ≤ 80 := by have := HJ.out; omega
        generalize G.getD t 0 = gd at *
        go_wp2_with (at_builtin; refine wpList_append_own _ rfl (.tmp 75) (.tmp 81) 50 rfl W2.heap.size 3 i0 (.int .i64 0) 1 8 Tryd.underlying50 hi hz0 hz1 hz2 rfl (by decide) _ t _ rfl (HO.out.alloc _) ⟨wr.heap.size, 0, none⟩ 1 1 [_] rfl rfl (cellNew _ _ _) (by intro u hu; simp at hu; subst hu; rfl) (by unfold maxLen; omega) (by omega) (by have := HB.out.size; simp; omega) ?_)
        intro v' w3 hown' hgrow _
        have hb1 := (HB.out.alloc HB.out.size _).grown hgrow (by have := HB.out.size; simp; omega) (fun r hr => (HO.out.lt r hr).1)
        clear hgrow
        go_wp2
        go_roundw
        case rel => exact ⟨hb1, t + 1, by omega, by rw [← HJ.out]; congr 1, by rw [HT.out, bsI_snoc]; exact hown'⟩
        case measure => have := HJ.out; simp [intOf]; omega
      · obtain rfl : t = G.length := by omega
        have hown := HO.out
        rw [List.take_of_length_le (Nat.le_refl _)] at hown
        have hoi : HoldI wr W2.heap.size u13 G := hown
        obtain ⟨p5, c5, rfl, hs5⟩ := hoi.sl
        have HS5 := Lib.hid hs5
        have HBr := Lib.hid (bel0 HB2.out HB.out)
        have hend : ¬ (k : Int) + 1 + (G.length : Int) < (lx : Int) := by omega
        have hG40 : G.length ≤ 40 := by omega
        clear hown hoi hs5 HO HCL HTK HDV hGl
        have htt := HTR.out p5 c5 _ _ (by omega) HO9.out HS5.out
        rw [hv0] at htt
        have HTT := Lib.hid htt
        have HBq := HBr
        have HXq := HXr
        clear htt hv0
        go_wp2_with fail
        refine (HTT.out).mono ?_
        rintro e w7 ⟨p7, c7, rfl, hs7, hb7⟩
        have HB7 := Lib.hid (bel0 HBq.out hb7)
        have hx7 := HXq.out.below hb7
        clear d1 d2 f1 f2
        obtain ⟨⟨d1, d2⟩, f1, f2⟩ := hx7.two
        have HB8 := Lib.hid (HB7.out.setCell (p := ⟨w1.heap.size, 1, none⟩) hle1 (.slice p7 (dgs v).length c7))
        have HS8 := Lib.hid (hs7.far hx7 numB (a := ⟨w1.heap.size, 1, none⟩) rfl (.slice p7 (dgs v).length c7))
        have HEN := Lib.hid (HR.out _ _ _ HS8.out)
        have HX8 : Hid (Bx (w7.setCell ⟨w1.heap.size, 1, none⟩ (.slice p7 (dgs v).length c7)) w1.heap.size 52 #[.bool neg, .slice p7 (dgs v).length c7]) := Lib.hid (hx7.set 1 _)
        obtain ⟨⟨y1, y2⟩, _⟩ := HX8.out.two
        clear hb7 hs7 hx7 HTT
        go_wp2_with fail
        refine (HEN.out).mono ?_
        rintro e w9 ⟨sv, rfl, hsv, hb⟩
        have HB9 := Lib.hid (bel0 HB8.out hb)
        have HSV := Lib.hid hsv
        clear hb hsv
        go_wp2
        go_ret3
        exact ⟨_, rfl, HSV.out, HB9.out⟩
theorem rshift_any (p : Option Addr) (cp : Nat) (la : List UInt8) (n r : Int) (w : World) (hr : Rd w p la) :
    Calls Tryd.prog 28 #[.slice p la.length cp, .int .i64 n, .int .i64 r] w (R3Post w (shL la n r)) := by
  have hL := fun W => size4_any (la.length : Int) W
  by_cases hA : 1 ≤ la.length ∧ la.length ≤ 16
  · rw [decide_eq_true (by omega)] at hL
    by_cases hlow : n < -32
    · have hv : shL la n r = ([], 0, 6) := by unfold shL; rw [if_pos (.inl hlow)]
      rw [hv]
      exact rsh_6b p cp la.length n r w (Lib.hid hL) hlow
    · by_cases hhi : 31 < n
      · have hv : shL la n r = ([], 0, 6) := by unfold shL; rw [if_pos (.inr (.inl hhi))]
        rw [hv]
        exact rsh_6c p cp la.length n r w (Lib.hid hL) hhi
      · have n6 : opC la ≠ 6 := fun e => opC6.1 e hA
        have hO := of_any p cp la w hr
        unfold OfPost at hO
        have h6 : ¬ (n < -32 ∨ 31 < n ∨ opC la = 6) := by omega
        cases ho : dOk la
        · have hv : shL la n r = ([], 0, 7) := by unfold shL; rw [if_neg h6, if_pos (.inl (opC7 hA ho))]
          rw [hv]
          rw [ho] at hO
          exact rsh_7a p cp la.length n r w (Lib.hid hL) (decide_eq_false hlow) (decide_eq_false hhi) (dNeg la) (dVal la) _ (Lib.hid hO)
        · rw [ho] at hO
          have h0 := opC0 hA ho
          by_cases hr0 : r < 0
          · have hv : shL la n r = ([], 0, 7) := by unfold shL; rw [if_neg h6, if_pos (.inr (.inl hr0))]
            rw [hv]
            exact rsh_7b p cp la.length n r w (Lib.hid hL) (decide_eq_false hlow) (decide_eq_false hhi) hr0 (dNeg la) (dVal la) _ (Lib.hid hO)
          · by_cases hr9 : 9 < r
            · have hv : shL la n r = ([], 0, 7) := by unfold shL; rw [if_neg h6, if_pos (.inr (.inr hr9))]
              rw [hv]
              exact rsh_7c p cp la.length n r w (Lib.hid hL) (decide_eq_false hlow) (decide_eq_false hhi) hr9 (dNeg la) (dVal la) _ (Lib.hid hO)
            · obtain ⟨m, rfl⟩ := Int.eq_ofNat_of_zero_le (show 0 ≤ r by omega)
              have hm9 : m ≤ 9 := by omega
              have vx := (two_len (two_ops0 h0 h0)).2.2.1
              have hlx := dgs_31 vx
              have h7 : ¬ (opC la = 7 ∨ (m : Int) < 0 ∨ 9 < (m : Int)) := by omega
              by_cases hneg : n < 0
              · obtain ⟨k, rfl⟩ : ∃ k : Nat, n = -((k : Int) + 1) := ⟨(-n - 1).toNat, by omega⟩
                have hk31 : k ≤ 31 := by omega
                have htn : (-(-((k : Int) + 1))).toNat = k + 1 := by omega
                have hv : shL la (-((k : Int) + 1)) (m : Int) = resS (dNeg la) (dropN (dVal la) (k + 1) m) la.length := by
                  unfold shL
                  rw [if_neg h6, if_neg h7, if_pos hneg, htn, Int.toNat_natCast]
                rw [hv]
                have hd9 := ok9_getD (dgs_ok9 (dVal la)) k
                have hdv := dgs_getD (dVal la) k
                have hval := val_drop (dgs_ok9 (dVal la)) (k + 1)
                rw [val_dgs] at hval
                have hq : dVal la / 10 ^ (k + 1) ≤ dVal la := Nat.div_le_self _ _
                have hdl : ((dgs (dVal la)).drop (k + 1)).length ≤ 40 := by rw [List.length_drop]; omega
                by_cases hrn : 10 ≤ ((dgs (dVal la)).getD k 0).val + m
                · have hdr : dropN (dVal la) (k + 1) m = dVal la / 10 ^ (k + 1) + 1 := by
                    unfold dropN
                    rw [Nat.add_sub_cancel, if_pos (by omega)]
                  have hvl := dgs_32 (x := dVal la / 10 ^ (k + 1) + 1) (by omega)
                  rw [hdr]
                  exact rsh_round p cp la.length (dVal la) k m _ _ 0 (dVal la / 10 ^ (k + 1) + 1) ((dgs (dVal la)).getD k 0) (dNeg la) _ w hk31 hm9 hd9 hrn (by omega) (Lib.hid hL) (Lib.hid hO)
                    (Lib.hid fun p1 c1 W hs => digit_any p1 c1 k (dgs (dVal la)) W (by omega) (by omega) hs.1) (Lib.hid fun po co L W h1 h2 h3 => TrPost.rn h3 (trim_any po co L W h1 h2 h3))
                    (Lib.hid fun po co q d W h1 h2 => by
                      have h := plus_any po q co d ((dgs (dVal la)).drop (k + 1)) [(1 : Fin 16)] W (by omega) (by simp) (ok9_drop (dgs_ok9 _) _) (ok9_cons.2 ⟨by decide, ok9_nil⟩) h1.1 h2.1
                      rw [hval] at h
                      exact h) (by omega) (ok9_drop (dgs_ok9 _) _) (Lib.hid fun p1 c1 W h1 => rresult_any (dNeg la) p1 c1 _ la.length W hA.1 hA.2 (by omega) h1)
                · have hdr : dropN (dVal la) (k + 1) m = dVal la / 10 ^ (k + 1) := by
                    unfold dropN
                    rw [Nat.add_sub_cancel, if_neg (by omega), Nat.add_zero]
                  have hvl := dgs_31 (x := dVal la / 10 ^ (k + 1)) (by omega)
                  rw [hdr]
                  exact rsh_cut p cp la.length (dVal la) k m _ _ 0 (dVal la / 10 ^ (k + 1)) ((dgs (dVal la)).getD k 0) (dNeg la) _ w hk31 hm9 hd9 (by omega) (by omega) (Lib.hid hL) (Lib.hid hO)
                    (Lib.hid fun p1 c1 W hs => digit_any p1 c1 k (dgs (dVal la)) W (by omega) (by omega) hs.1) (Lib.hid fun po co L W h1 h2 h3 => TrPost.rn h3 (trim_any po co L W h1 h2 h3))
                    hval (by omega) (ok9_drop (dgs_ok9 _) _) (Lib.hid fun p1 c1 W h1 => rresult_any (dNeg la) p1 c1 _ la.length W hA.1 hA.2 (by omega) h1)
              · obtain ⟨k, rfl⟩ := Int.eq_ofNat_of_zero_le (show 0 ≤ n by omega)
                have hv : shL la (k : Int) (m : Int) = resS (dNeg la) (dVal la * 10 ^ k) la.length := by
                  unfold shL
                  rw [if_neg h6, if_neg h7, if_neg hneg, Int.toNat_natCast]
                rw [hv]
                have hln : ∀ t, t ≤ k → (dgs (dVal la * 10 ^ t)).length ≤ 80 := fun t ht => by
                  have h1 : dVal la * 10 ^ t < 10 ^ 31 * 10 ^ 31 := Nat.mul_lt_mul_of_lt_of_le (by rw [pow10_31]; exact vx) (Nat.pow_le_pow_right (by omega) (by omega)) (Nat.pow_pos (by omega))
                  rw [← Nat.pow_add] at h1
                  have := (dgs_len_le _ (31 + 31)).2 h1
                  omega
                have hl2 := hln k (Nat.le_refl _)
                exact rsh_left p cp la.length (dVal la) k m _ _ (dNeg la) _ w (by omega) hm9 (Lib.hid hln) (Lib.hid hL) (Lib.hid hO) (Lib.hid fun p1 c1 W h1 => rresult_any (dNeg la) p1 c1 _ la.length W hA.1 hA.2 (by omega) h1)
  · rw [decide_eq_false (by omega)] at hL
    have hv : shL la n r = ([], 0, 6) := by unfold shL; rw [if_pos (.inr (.inr (opC6.2 hA)))]
    rw [hv]
    exact rsh_6a p cp la.length n r w (Lib.hid hL)

end E
end Go.Proofs.YtlpekknhaaddcaaDoor
