/- The document's own product and quotient of magnitudes: their contracts. -/
import Derived.Test.YtlpekknhaaddcaaDoorDcRop
import Derived.Laws.AppendOwnNone
namespace Go.Proofs.YtlpekknhaaddcaaDoor
open Go.RowKit
set_option linter.unusedVariables false
namespace E

theorem own_one (w : World) (v : Value) : (w.alloc (.cells #[v] 3)).ownsRow w.heap.size 3 1 (.slice (some ⟨w.heap.size, 0, none⟩) 1 1) 1 [v] :=
  ⟨rfl, .inr ⟨_, 1, _, rfl, Nat.le_refl _, heap_alloc_new w _, Nat.le_refl _, by unfold maxLen; omega, rfl, rfl⟩⟩
theorem bsI_cons (d : Fin 16) (l : List (Fin 16)) : bsI (d :: l) = .int .i64 (d.val : Int) :: bsI l := rfl
theorem sl_own {W : World} {base n : Nat} {v : Value} {l : List (Fin 16)} (h : W.ownsRow base 3 1 v n (bsI l)) (hn : n = l.length) : ∃ p c, v = .slice p l.length c ∧ SlI W p c l := by
  subst hn
  exact HoldI.sl (show HoldI W base v l from h)
theorem cells_at {l : List (Fin 16)} {j : Nat} {v : Value} (h : (bsI l)[j]? = some v) : j < l.length ∧ v = .int .i64 ((l.getD j 0).val : Int) := by
  have hj : j < l.length := by
    have := (List.getElem?_eq_some_iff.1 h).1
    simpa [bsI] using this
  rw [bsI_get l j hj] at h
  exact ⟨hj, (Option.some.inj h).symm⟩
theorem RdI.cells4 {w : World} {ad : Addr} {l : List (Fin 16)} (h : RdI w (some ad) l) : ∀ j u, (bsI l)[j]? = some u → w.cell? (ad.add j) = some u := fun j u hu => by
  obtain ⟨hj, rfl⟩ := cells_at hu
  rcases h with rfl | ⟨B, off, hp, hc⟩
  · simp at hj
  · obtain rfl := Option.some.inj hp
    rw [show ((⟨B, off, none⟩ : Addr).add j) = ⟨B, off + j, none⟩ from by by_cases h0 : j = 0 <;> simp [Addr.add, h0]]
    exact hc j hj
theorem bsI_one (l : List (Fin 16)) : ∀ u ∈ bsI l, u.oneCell' = true := by
  intro u hu
  obtain ⟨d, _, rfl⟩ := List.mem_map.1 hu
  rfl
theorem SlI.none {W : World} {c : Nat} {l : List (Fin 16)} (h : SlI W none c l) : l = [] ∧ c = 0 := by
  obtain ⟨_, h1, _, h2⟩ := h
  have := h2 rfl
  exact ⟨List.length_eq_zero_iff.1 (by omega), this⟩
set_option maxRecDepth 100000 in
set_option maxHeartbeats 4000000 in
theorem times_core (p q : Option Addr) (c d x lx ly M : Nat) (Z D : Nat → Nat) (w : World) (hly : ly ≤ 40)
    (HZs : Hid (∀ k, Z k = 10 * Z (k + 1) + D k * x)) (HZm : Hid (∀ k, Z k ≤ M)) (HZ0 : Hid (Z 0 = M)) (HZn : Hid (Z ly = 0)) (HD9 : Hid (∀ k, D k ≤ 9)) (HLN : Hid (∀ V, V ≤ M → (dgs V).length ≤ 80))
    (HP : Hid (∀ po co L W, Below w.heap.size w W → L.length ≤ 100 → ok9 L → RdI W po L → Calls Tryd.prog 59 #[.slice po L.length co, .slice p lx c] W (RnPost W (val L + x))))
    (HTR : Hid (∀ po co L W, L.length ≤ 1000 → ok9 L → SlI W po co L → Calls Tryd.prog 60 #[.slice po L.length co] W (RnPost W (val L))))
    (HCL : Hid (∀ k, k < ly → ∃ B off, q = some ⟨B, off, none⟩ ∧ ly ≤ d ∧ B < w.heap.size ∧ w.cell? ⟨B, off + k, none⟩ = some (.int .i64 ((D k : Nat) : Int)))) :
    Calls Tryd.prog 54 #[.slice p lx c, .slice q ly d] w (RnPost w M) := by
  obtain ⟨i0, hi, hz0, hz1, hz2⟩ := info_parts info3
  unfold RnPost at HP HTR
  go_enter Tryd.func54, Tryd.ntmps54
  go_wp2
  go_loopw [5, 6] (fun sv i wr => Below w.heap.size w wr ∧ ∃ k po co, k ≤ ly ∧ i = .int .i64 ((k : Int) - 1) ∧ sv = .slice po (dgs (Z k)).length co ∧ SlI wr po co (dgs (Z k))) (fun _ i _ => (intOf i + 1).toNat)
  case atStart => exact ⟨Below.refl _ _, ly, none, 0, Nat.le_refl _, rfl, by rw [HZn.out, dgs_zero]; rfl, by rw [HZn.out, dgs_zero]; exact SlI.nil _⟩
  case round =>
    obtain ⟨hbw, k, po, co, hk, rfl, rfl, hs⟩ := hrel
    have HB := Lib.hid hbw
    have HS := Lib.hid hs
    clear hbw hs
    cases k with
    | zero =>
      have hn1 : (((0 : Nat) : Int) - 1) = -1 := rfl
      rw [hn1]
      rw [HZ0.out] at HS
      have hm : (dgs (Z 0)).length = (dgs M).length := by rw [HZ0.out]
      rw [hm]
      clear hm hn1
      go_wp2
      go_ret
      exact ⟨_, _, rfl, HS.out, HB.out⟩
    | succ k =>
      have hk1 : (((k + 1 : Nat) : Int) - 1) = (k : Int) := by omega
      rw [hk1]
      obtain ⟨B, off, rfl, hlyd, hBl, hcell⟩ := HCL.out k (by omega)
      have HCK := Lib.hid hcell
      have HBL := Lib.hid hBl
      have HZk := Lib.hid (HZs.out k)
      have HMk := Lib.hid (HZm.out k)
      have HM1 := Lib.hid (HZm.out (k + 1))
      have HD := Lib.hid (HD9.out k)
      have hll : (dgs (Z (k + 1))).length ≤ 80 := HLN.out _ HM1.out
      have HO9 := Lib.hid (dgs_ok9 (Z (k + 1)))
      have HVL := Lib.hid (val_dgs (Z (k + 1)))
      have hk40 : k < ly := by omega
      have hdk := HD9.out k
      clear hcell hBl hk1 hk
      generalize hLZ : dgs (Z (k + 1)) = LZ at *
      clear hLZ
      generalize Z (k + 1) = Y at *
      generalize hdd : D k = dk at *
      clear hdd
      cases po with
      | none =>
        obtain ⟨rfl, rfl⟩ := HS.out.none
        have HOW := Lib.hid (own_one wr (.int .i64 0))
        have h00 : ([] : List (Fin 16)).length = 0 := rfl
        rw [h00]
        clear h00
        go_wp2_with (at_builtin; refine wpList_append_own_none rfl (.tmp 15) (.tmp 16) 50 rfl wr.heap.size 3 i0 1 Tryd.underlying50 hi _ 1 [.int .i64 0] rfl HOW.out rfl ?_)
        have hsl : ∃ p3 c3, (Value.slice (some ⟨wr.heap.size, 0, none⟩) 1 1) = .slice p3 ([(0 : Fin 16)]).length c3 ∧ SlI (wr.alloc (.cells #[.int .i64 0] 3)) p3 c3 [(0 : Fin 16)] := sl_own (l := [(0 : Fin 16)]) HOW.out rfl
        have hv0 : val [(0 : Fin 16)] = 10 * Y := by
          have h1 := HVL.out
          rw [val_nil] at h1
          rw [val_cons, val_nil, ← h1]
          rfl
        have ho0 : ok9 [(0 : Fin 16)] := ok9_cons.2 ⟨Nat.zero_le _, ok9_nil⟩
        have hl0 : ([(0 : Fin 16)]).length ≤ 100 := by simp
        have hb3 := bel0 HB.out (below_new wr (.cells #[.int .i64 0] 3))
        obtain ⟨W3, hW3⟩ : ∃ W3, W3 = wr.alloc (.cells #[.int .i64 0] 3) := ⟨_, rfl⟩
        rw [← hW3] at hsl hb3 ⊢
        clear hW3 HOW
        generalize [(0 : Fin 16)] = L0 at *
        obtain ⟨p3, c3, hv3, hs3⟩ := hsl
        rw [hv3]
        clear hv3
        have HB3 := Lib.hid hb3
        have HS3 := Lib.hid hs3
        have HV0 := Lib.hid hv0
        have HO0 := Lib.hid ho0
        have HL0 := Lib.hid hl0
        clear hb3 hs3 hv0 ho0 hl0
        go_wp2
        go_loopw [5, 7] (fun sv j wx => Below w.heap.size w wx ∧ ∃ (t : Nat) (p5 : Option Addr) (c5 : Nat) (L : List (Fin 16)), t ≤ dk ∧ j = .int .i64 (t : Int) ∧ sv = .slice p5 L.length c5 ∧ SlI wx p5 c5 L ∧ ok9 L ∧ L.length ≤ 100 ∧ val L = 10 * Y + t * x) (fun _ j _ => dk - (intOf j).toNat)
        case atStart => exact ⟨HB3.out, 0, p3, c3, L0, Nat.zero_le _, rfl, rfl, HS3.out, HO0.out, HL0.out, by rw [HV0.out, Nat.zero_mul, Nat.add_zero]⟩
        case round =>
          clear HB3 HS3 HV0 HO0 HL0
          obtain ⟨hbx, t, p5, c5, L, ht, rfl, rfl, hsx, hox, hlx, hvx⟩ := hrel
          have HBx := Lib.hid hbx
          have HSx := Lib.hid hsx
          have HOx := Lib.hid hox
          have HLx := Lib.hid hlx
          have HVx := Lib.hid hvx
          have hcw := (hbx.cell (p := ⟨B, off + k, none⟩) HBL.out).trans HCK.out
          clear hbx hsx hox hlx hvx
          by_cases hlt : t < dk
          · have HPP := Lib.hid (HP.out p5 c5 L _ HBx.out HLx.out HOx.out HSx.out.1)
            have hV2 : val L + x = 10 * Y + (t + 1) * x := by rw [HVx.out, Nat.add_mul, Nat.one_mul, Nat.add_assoc]
            have hle : 10 * Y + (t + 1) * x ≤ M := by
              have h1 := HZk.out
              have h2 := HMk.out
              have h3 := Nat.mul_le_mul_right x (show t + 1 ≤ dk by omega)
              omega
            rw [hV2] at HPP
            have HLE := Lib.hid hle
            clear hV2 hle
            go_wp2_with fail
            refine (HPP.out).mono ?_
            rintro e w5 ⟨p6, c6, rfl, hs6, hb6⟩
            have HB6 := Lib.hid (bel0 HBx.out hb6)
            have HS6 := Lib.hid hs6
            clear hb6 hs6 HPP
            go_wp2
            go_roundw
            case rel => exact ⟨HB6.out, t + 1, p6, c6, _, by omega, by go_num, rfl, HS6.out, dgs_ok9 _, Nat.le_trans (HLN.out _ HLE.out) (by omega), val_dgs _⟩
            case measure => simp [intOf]; omega
          · obtain rfl : t = dk := by omega
            have HTT := Lib.hid (HTR.out p5 c5 L _ (by have := HLx.out; omega) HOx.out HSx.out)
            rw [HVx.out, ← HZk.out] at HTT
            go_wp2_with fail
            refine (HTT.out).mono ?_
            rintro e w5 ⟨p6, c6, rfl, hs6, hb6⟩
            have HB6 := Lib.hid (bel0 HBx.out hb6)
            have HS6 := Lib.hid hs6
            clear hb6 hs6 HTT
            go_wp2
            go_roundw
            case rel => exact ⟨HB6.out, k, p6, c6, by omega, by go_num, rfl, HS6.out⟩
            case measure => simp [intOf]
      | some ad =>
        have HOW := Lib.hid (own_one wr (.int .i64 0))
        have HRD := Lib.hid ((HS.out.below (below_new wr (.cells #[.int .i64 0] 3))).1.cells4)
        go_wp2_with (at_builtin; refine wpList_append_own _ rfl (.tmp 15) (.tmp 16) 50 rfl wr.heap.size 3 i0 (.int .i64 0) 1 8 Tryd.underlying50 hi hz0 hz1 hz2 rfl (by decide) _ 1 [.int .i64 0] rfl HOW.out ad LZ.length co (bsI LZ) rfl (by rw [bsI_len, Nat.mul_one]) HRD.out (bsI_one _) (by unfold maxLen; omega) (by omega) (by simp) ?_)
        intro v' W3 hown hgrow _
        have hb3 : Below w.heap.size w W3 := (bel0 HB.out (below_new wr (.cells #[.int .i64 0] 3))).grown hgrow (by have := HB.out.size; simp; omega) (fun r hr => Nat.le_trans HB.out.size (HOW.out.lt r hr).1)
        have hsl : ∃ p3 c3, v' = .slice p3 ((0 : Fin 16) :: LZ).length c3 ∧ SlI W3 p3 c3 ((0 : Fin 16) :: LZ) := sl_own (l := (0 : Fin 16) :: LZ) hown (by rw [List.length_cons, Nat.add_comm])
        have hv0 : val ((0 : Fin 16) :: LZ) = 10 * Y := by
          rw [val_cons, HVL.out]
          exact Nat.zero_add _
        have ho0 : ok9 ((0 : Fin 16) :: LZ) := ok9_cons.2 ⟨Nat.zero_le _, HO9.out⟩
        have hl0 : ((0 : Fin 16) :: LZ).length ≤ 100 := by simp; omega
        clear hgrow HOW HRD hown
        generalize (0 : Fin 16) :: LZ = L0 at *
        obtain ⟨p3, c3, rfl, hs3⟩ := hsl
        have HB3 := Lib.hid hb3
        have HS3 := Lib.hid hs3
        have HV0 := Lib.hid hv0
        have HO0 := Lib.hid ho0
        have HL0 := Lib.hid hl0
        clear hb3 hs3 hv0 ho0 hl0
        go_wp2
        go_loopw [5, 7] (fun sv j wx => Below w.heap.size w wx ∧ ∃ (t : Nat) (p5 : Option Addr) (c5 : Nat) (L : List (Fin 16)), t ≤ dk ∧ j = .int .i64 (t : Int) ∧ sv = .slice p5 L.length c5 ∧ SlI wx p5 c5 L ∧ ok9 L ∧ L.length ≤ 100 ∧ val L = 10 * Y + t * x) (fun _ j _ => dk - (intOf j).toNat)
        case atStart => exact ⟨HB3.out, 0, p3, c3, L0, Nat.zero_le _, rfl, rfl, HS3.out, HO0.out, HL0.out, by rw [HV0.out, Nat.zero_mul, Nat.add_zero]⟩
        case round =>
          clear HB3 HS3 HV0 HO0 HL0
          obtain ⟨hbx, t, p5, c5, L, ht, rfl, rfl, hsx, hox, hlx, hvx⟩ := hrel
          have HBx := Lib.hid hbx
          have HSx := Lib.hid hsx
          have HOx := Lib.hid hox
          have HLx := Lib.hid hlx
          have HVx := Lib.hid hvx
          have hcw := (hbx.cell (p := ⟨B, off + k, none⟩) HBL.out).trans HCK.out
          clear hbx hsx hox hlx hvx
          by_cases hlt : t < dk
          · have HPP := Lib.hid (HP.out p5 c5 L _ HBx.out HLx.out HOx.out HSx.out.1)
            have hV2 : val L + x = 10 * Y + (t + 1) * x := by rw [HVx.out, Nat.add_mul, Nat.one_mul, Nat.add_assoc]
            have hle : 10 * Y + (t + 1) * x ≤ M := by
              have h1 := HZk.out
              have h2 := HMk.out
              have h3 := Nat.mul_le_mul_right x (show t + 1 ≤ dk by omega)
              omega
            rw [hV2] at HPP
            have HLE := Lib.hid hle
            clear hV2 hle
            go_wp2_with fail
            refine (HPP.out).mono ?_
            rintro e w5 ⟨p6, c6, rfl, hs6, hb6⟩
            have HB6 := Lib.hid (bel0 HBx.out hb6)
            have HS6 := Lib.hid hs6
            clear hb6 hs6 HPP
            go_wp2
            go_roundw
            case rel => exact ⟨HB6.out, t + 1, p6, c6, _, by omega, by go_num, rfl, HS6.out, dgs_ok9 _, Nat.le_trans (HLN.out _ HLE.out) (by omega), val_dgs _⟩
            case measure => simp [intOf]; omega
          · obtain rfl : t = dk := by omega
            have HTT := Lib.hid (HTR.out p5 c5 L _ (by have := HLx.out; omega) HOx.out HSx.out)
            rw [HVx.out, ← HZk.out] at HTT
            go_wp2_with fail
            refine (HTT.out).mono ?_
            rintro e w5 ⟨p6, c6, rfl, hs6, hb6⟩
            have HB6 := Lib.hid (bel0 HBx.out hb6)
            have HS6 := Lib.hid hs6
            clear hb6 hs6 HTT
            go_wp2
            go_roundw
            case rel => exact ⟨HB6.out, k, p6, c6, by omega, by go_num, rfl, HS6.out⟩
            case measure => simp [intOf]
theorem times_any (p q : Option Addr) (c d x y : Nat) (w : World) (hx : (dgs x).length ≤ 40) (hy : (dgs y).length ≤ 40) (ra : SlI w p c (dgs x)) (rb : SlI w q d (dgs y)) :
    Calls Tryd.prog 54 #[.slice p (dgs x).length c, .slice q (dgs y).length d] w (RnPost w (x * y)) := by
  refine times_core p q c d x (dgs x).length (dgs y).length (x * y) (fun k => x * (y / 10 ^ k)) (fun k => y / 10 ^ k % 10) w hy (Lib.hid fun k => ?_) (Lib.hid fun k => ?_) (Lib.hid ?_) (Lib.hid ?_) (Lib.hid fun k => ?_) (Lib.hid fun V hV => ?_) (Lib.hid fun po co L W hW h1 h2 h3 => ?_) (Lib.hid fun po co L W h1 h2 h3 => TrPost.rn h3 (trim_any po co L W h1 h2 h3)) (Lib.hid fun k hk => ?_)
  · show x * (y / 10 ^ k) = 10 * (x * (y / 10 ^ (k + 1))) + y / 10 ^ k % 10 * x
    rw [Nat.pow_succ, ← Nat.div_div_eq_div_mul, Nat.mul_left_comm, Nat.mul_comm (y / 10 ^ k % 10) x, ← Nat.mul_add]
    congr 1
    omega
  · exact Nat.mul_le_mul_left x (Nat.div_le_self _ _)
  · show x * (y / 10 ^ 0) = x * y
    rw [Nat.pow_zero, Nat.div_one]
  · show x * (y / 10 ^ (dgs y).length) = 0
    rw [Nat.div_eq_of_lt ((dgs_len_le y _).1 (Nat.le_refl _)), Nat.mul_zero]
  · show y / 10 ^ k % 10 ≤ 9
    omega
  · refine (dgs_len_le V 80).2 (Nat.lt_of_le_of_lt hV ?_)
    have h1 := (dgs_len_le x 40).1 hx
    have h2 := (dgs_len_le y 40).1 hy
    calc x * y < 10 ^ 40 * 10 ^ 40 := Nat.mul_lt_mul'' h1 h2
      _ = 10 ^ 80 := by rw [← Nat.pow_add]
  · have h := plus_any po p co c L (dgs x) W (by omega) (by omega) h2 (dgs_ok9 x) h3 (ra.1.below hW)
    rw [val_dgs] at h
    exact h
  · obtain ⟨hr, hc, _, _⟩ := rb
    rcases hr with h0 | ⟨B, off, rfl, hcl⟩
    · rw [h0] at hk; simp at hk
    · refine ⟨B, off, rfl, hc, World.block_lt_of_cell? w _ (hcl k hk), ?_⟩
      rw [hcl k hk, dgs_getD]

end E
end Go.Proofs.YtlpekknhaaddcaaDoor
namespace Go.Proofs.YtlpekknhaaddcaaDoor
open Go.RowKit
set_option linter.unusedVariables false
namespace E

/-- Two magnitudes are returned. -/
def QtPost (w : World) (a b : Nat) (e : Ending) (w' : World) : Prop := ∃ p c q d, e = .returned (.tuple #[.slice p (dgs a).length c, .slice q (dgs b).length d]) ∧ SlI w' p c (dgs a) ∧ SlI w' q d (dgs b) ∧ Below w.heap.size w w'
theorem own_dig (w : World) (d : Fin 16) : (w.alloc (.cells #[.int .i64 (d.val : Int)] 3)).ownsRow w.heap.size 3 1 (.slice (some ⟨w.heap.size, 0, none⟩) 1 1) 1 (bsI [d]) := own_one w _
theorem val_one (d : Fin 16) : val [d] = d.val := by rw [val_cons, val_nil]; rfl
set_option maxRecDepth 100000 in
set_option maxHeartbeats 4000000 in
theorem quot_core (p q : Option Addr) (c d y lx ly M : Nat) (Qf Rf Dg : Nat → Nat) (w : World) (hlx : lx ≤ 40) (hy : 1 ≤ y)
    (H1 : Hid (∀ k, Dg k ≤ 9)) (H2 : Hid (∀ k, Rf k = (10 * Rf (k + 1) + Dg k) % y)) (H3 : Hid (∀ k, Qf k = 10 * Qf (k + 1) + (10 * Rf (k + 1) + Dg k) / y)) (H4 : Hid (∀ k, (10 * Rf (k + 1) + Dg k) / y ≤ 9))
    (H5 : Hid (∀ k, Qf k ≤ M ∧ Rf k ≤ M ∧ 10 * Rf (k + 1) + Dg k ≤ M)) (H6 : Hid (Qf lx = 0 ∧ Rf lx = 0)) (HLN : Hid (∀ V, V ≤ M → (dgs V).length ≤ 80))
    (HLS : Hid (∀ po co V W, Below w.heap.size w W → V ≤ M → SlI W po co (dgs V) → Calls Tryd.prog 65 #[.slice po (dgs V).length co, .slice q ly d] W fun e w' => e = .returned (.bool (decide (V < y))) ∧ W = w'))
    (HMN : Hid (∀ po co V W, Below w.heap.size w W → V ≤ M → y ≤ V → SlI W po co (dgs V) → Calls Tryd.prog 66 #[.slice po (dgs V).length co, .slice q ly d] W (RnPost W (V - y))))
    (HTR : Hid (∀ po co L W, L.length ≤ 1000 → ok9 L → SlI W po co L → Calls Tryd.prog 60 #[.slice po L.length co] W (RnPost W (val L))))
    (HCL : Hid (∀ k, k < lx → ∃ B off, p = some ⟨B, off, none⟩ ∧ lx ≤ c ∧ B < w.heap.size ∧ w.cell? ⟨B, off + k, none⟩ = some (.int .i64 ((Dg k : Nat) : Int)))) :
    Calls Tryd.prog 56 #[.slice p lx c, .slice q ly d] w (QtPost w (Qf 0) (Rf 0)) := by
  obtain ⟨i0, hi, hz0, hz1, hz2⟩ := info_parts info3
  unfold RnPost at HMN HTR
  go_enter Tryd.func56, Tryd.ntmps56
  go_wp2
  go_loopw [6, 7, 8] (fun sv rv i wr => Below w.heap.size w wr ∧ ∃ k p1 c1 p2 c2, k ≤ lx ∧ i = .int .i64 ((k : Int) - 1) ∧ sv = .slice p1 (dgs (Qf k)).length c1 ∧ SlI wr p1 c1 (dgs (Qf k)) ∧ rv = .slice p2 (dgs (Rf k)).length c2 ∧ SlI wr p2 c2 (dgs (Rf k))) (fun _ _ i _ => (intOf i + 1).toNat)
  case atStart => exact ⟨Below.refl _ _, lx, none, 0, none, 0, Nat.le_refl _, rfl, by rw [H6.out.1, dgs_zero]; rfl, by rw [H6.out.1, dgs_zero]; exact SlI.nil _, by rw [H6.out.2, dgs_zero]; rfl, by rw [H6.out.2, dgs_zero]; exact SlI.nil _⟩
  case round =>
    obtain ⟨hbw, k, p1, c1, p2, c2, hk, rfl, rfl, hs1, rfl, hs2⟩ := hrel
    have HB := Lib.hid hbw
    have HS1 := Lib.hid hs1
    have HS2 := Lib.hid hs2
    clear hbw hs1 hs2
    cases k with
    | zero =>
      have hn1 : (((0 : Nat) : Int) - 1) = -1 := rfl
      rw [hn1]
      clear hn1
      go_wp2
      go_ret2
      exact ⟨_, _, _, _, rfl, HS1.out, HS2.out, HB.out⟩
    | succ k =>
      have hk1 : (((k + 1 : Nat) : Int) - 1) = (k : Int) := by omega
      rw [hk1]
      obtain ⟨B, off, rfl, hlxc, hBl, hcell⟩ := HCL.out k (by omega)
      have hcw := (HB.out.cell (p := ⟨B, off + k, none⟩) hBl).trans hcell
      have HV2 := Lib.hid (H2.out k)
      have HV3 := Lib.hid (H3.out k)
      have HV4 := Lib.hid (H4.out k)
      have HM5 := Lib.hid (H5.out k).2.2
      have HLQ : Hid ((dgs (Qf (k + 1))).length ≤ 80) := Lib.hid (HLN.out _ (H5.out (k + 1)).1)
      have hlr : (dgs (Rf (k + 1))).length ≤ 80 := HLN.out _ (H5.out (k + 1)).2.1
      have HOR := Lib.hid (dgs_ok9 (Rf (k + 1)))
      have HVR := Lib.hid (val_dgs (Rf (k + 1)))
      have HOQ := Lib.hid (dgs_ok9 (Qf (k + 1)))
      have HVQ := Lib.hid (val_dgs (Qf (k + 1)))
      have hk40 : k < lx := by omega
      have hdk := H1.out k
      clear hcell hBl hk1 hk
      generalize dgs (Rf (k + 1)) = LR at *
      generalize dgs (Qf (k + 1)) = LQ at *
      generalize Rf (k + 1) = R at *
      generalize Qf (k + 1) = Q at *
      obtain ⟨fd, hfd⟩ : ∃ fd : Fin 16, fd.val = Dg k := ⟨⟨Dg k, by omega⟩, rfl⟩
      rw [← hfd] at HV2 HV3 HV4 HM5 hcw hdk
      clear hfd
      cases p2 with
      | none =>
        obtain ⟨rfl, rfl⟩ := HS2.out.none
        have HOW := Lib.hid (own_dig wr fd)
        have h00 : ([] : List (Fin 16)).length = 0 := rfl
        rw [h00]
        clear h00
        go_wp2_with (at_builtin; refine wpList_append_own_none rfl (.tmp 21) (.tmp 22) 50 rfl wr.heap.size 3 i0 1 Tryd.underlying50 hi _ 1 (bsI [fd]) rfl HOW.out rfl ?_)
        have hsl : ∃ p3 c3, (Value.slice (some ⟨wr.heap.size, 0, none⟩) 1 1) = .slice p3 ([fd]).length c3 ∧ SlI (wr.alloc (.cells #[.int .i64 ((fd).val : Int)] 3)) p3 c3 [fd] := sl_own (l := [fd]) HOW.out rfl
        have hv0 : val [fd] = 10 * R + (fd).val := by
          have h1 := HVR.out
          rw [val_nil] at h1
          rw [val_one, ← h1]
          omega
        have ho0 : ok9 [fd] := ok9_cons.2 ⟨hdk, ok9_nil⟩
        have hl0 : ([fd]).length ≤ 100 := by simp
        have hb3 := bel0 HB.out (below_new wr (.cells #[.int .i64 ((fd).val : Int)] 3))
        have hkeep : Below wr.heap.size wr (wr.alloc (.cells #[.int .i64 ((fd).val : Int)] 3)) := below_new _ _
        obtain ⟨W3, hW3⟩ : ∃ W3, W3 = wr.alloc (.cells #[.int .i64 ((fd).val : Int)] 3) := ⟨_, rfl⟩
        rw [← hW3] at hsl hb3 hkeep
        try rw [← hW3]
        generalize [fd] = L0 at hsl hv0 ho0 hl0
        obtain ⟨p3, c3, hv3, hs3⟩ := hsl
        rw [hv3]
        have HB3 := Lib.hid hb3
        have HK3 := Lib.hid hkeep
        have HS3 := Lib.hid hs3
        have HV0 := Lib.hid hv0
        have HO0 := Lib.hid ho0
        have HL0 := Lib.hid hl0
        clear hv3 hW3 HOW hb3 hs3 hv0 ho0 hl0 hkeep
        have HTT := Lib.hid (HTR.out p3 c3 L0 _ (by have := HL0.out; omega) HO0.out HS3.out)
        rw [HV0.out] at HTT
        go_wp2_with fail
        refine (HTT.out).mono ?_
        rintro e w5 ⟨p6, c6, rfl, hs6, hb6⟩
        have HB6 := Lib.hid (bel0 HB3.out hb6)
        have HS6 := Lib.hid hs6
        have HQ6 := Lib.hid ((HS1.out.below HK3.out).below hb6)
        clear hb6 hs6 HTT HS1 HS2 HB
        generalize 10 * R + fd.val = V at *
        go_wp2
        go_loopw [7, 9] (fun sv j wx => Below w.heap.size w wx ∧ SlI wx p1 c1 LQ ∧ ∃ (t U : Nat) (p5 : Option Addr) (c5 : Nat), t ≤ 9 ∧ j = .int .i64 (t : Int) ∧ sv = .slice p5 (dgs U).length c5 ∧ SlI wx p5 c5 (dgs U) ∧ U + t * y = V) (fun _ j _ => V + 1 - (intOf j).toNat)
        case atStart => exact ⟨HB6.out, HQ6.out, 0, V, p6, c6, Nat.zero_le _, rfl, rfl, HS6.out, by omega⟩
        case round =>
          clear HB6 HS6 HQ6
          obtain ⟨hbx, hqx, t, U, p5, c5, ht9, rfl, rfl, hsx, hUV⟩ := hrel
          have HBx := Lib.hid hbx
          have HQx := Lib.hid hqx
          have HSx := Lib.hid hsx
          have HUV := Lib.hid hUV
          have htV : t ≤ V := by
            have := Nat.le_mul_of_pos_right t (show 0 < y by omega)
            omega
          have hUM : U ≤ M := by have := HM5.out; omega
          have HLL := Lib.hid (HLS.out p5 c5 U _ HBx.out hUM HSx.out)
          clear hbx hqx hsx
          by_cases hlt : U < y
          · rw [decide_eq_true hlt] at HLL
            have hdm : V / y = t ∧ V % y = U := by
              rw [← hUV]
              exact ⟨by rw [Nat.add_mul_div_right _ _ (by omega), Nat.div_eq_of_lt hlt, Nat.zero_add], by rw [Nat.add_mul_mod_self_right, Nat.mod_eq_of_lt hlt]⟩
            have HQT := Lib.hid hdm.1
            have HRU := Lib.hid hdm.2
            clear hdm hlt hUV
            go_wp2_with fail
            refine (HLL.out).mono ?_
            rintro e w' ⟨rfl, rfl⟩
            cases p1 with
            | none =>
              obtain ⟨rfl, rfl⟩ := HQx.out.none
              have HOW := Lib.hid (own_dig wr (⟨t, Nat.lt_of_le_of_lt ht9 (by decide)⟩ : Fin 16))
              have h00 : ([] : List (Fin 16)).length = 0 := rfl
              rw [h00]
              clear h00
              go_wp2_with (at_builtin; refine wpList_append_own_none rfl (.tmp 35) (.tmp 36) 50 rfl wr.heap.size 3 i0 1 Tryd.underlying50 hi _ 1 (bsI [(⟨t, Nat.lt_of_le_of_lt ht9 (by decide)⟩ : Fin 16)]) rfl HOW.out rfl ?_)
              have hsl : ∃ p3b c3b, (Value.slice (some ⟨wr.heap.size, 0, none⟩) 1 1) = .slice p3b ([(⟨t, Nat.lt_of_le_of_lt ht9 (by decide)⟩ : Fin 16)]).length c3b ∧ SlI (wr.alloc (.cells #[.int .i64 (((⟨t, Nat.lt_of_le_of_lt ht9 (by decide)⟩ : Fin 16)).val : Int)] 3)) p3b c3b [(⟨t, Nat.lt_of_le_of_lt ht9 (by decide)⟩ : Fin 16)] := sl_own (l := [(⟨t, Nat.lt_of_le_of_lt ht9 (by decide)⟩ : Fin 16)]) HOW.out rfl
              have hv0 : val [(⟨t, Nat.lt_of_le_of_lt ht9 (by decide)⟩ : Fin 16)] = 10 * Q + ((⟨t, Nat.lt_of_le_of_lt ht9 (by decide)⟩ : Fin 16)).val := by
                have h1 := HVQ.out
                rw [val_nil] at h1
                rw [val_one, ← h1]
                omega
              have ho0 : ok9 [(⟨t, Nat.lt_of_le_of_lt ht9 (by decide)⟩ : Fin 16)] := ok9_cons.2 ⟨(show t ≤ 9 by omega), ok9_nil⟩
              have hl0 : ([(⟨t, Nat.lt_of_le_of_lt ht9 (by decide)⟩ : Fin 16)]).length ≤ 100 := by simp
              have hb3 := bel0 HBx.out (below_new wr (.cells #[.int .i64 (((⟨t, Nat.lt_of_le_of_lt ht9 (by decide)⟩ : Fin 16)).val : Int)] 3))
              have hkeep : Below wr.heap.size wr (wr.alloc (.cells #[.int .i64 (((⟨t, Nat.lt_of_le_of_lt ht9 (by decide)⟩ : Fin 16)).val : Int)] 3)) := below_new _ _
              obtain ⟨W3b, hW3⟩ : ∃ W3b, W3b = wr.alloc (.cells #[.int .i64 (((⟨t, Nat.lt_of_le_of_lt ht9 (by decide)⟩ : Fin 16)).val : Int)] 3) := ⟨_, rfl⟩
              rw [← hW3] at hsl hb3 hkeep
              try rw [← hW3]
              generalize [(⟨t, Nat.lt_of_le_of_lt ht9 (by decide)⟩ : Fin 16)] = L0b at hsl hv0 ho0 hl0
              obtain ⟨p3b, c3b, hv3, hs3⟩ := hsl
              rw [hv3]
              have HB3b := Lib.hid hb3
              have HK3b := Lib.hid hkeep
              have HS3b := Lib.hid hs3
              have HV0b := Lib.hid hv0
              have HO0b := Lib.hid ho0
              have HL0b := Lib.hid hl0
              clear hv3 hW3 HOW hb3 hs3 hv0 ho0 hl0 hkeep
              have HTQ := Lib.hid (HTR.out p3b c3b L0b _ (by have := HL0b.out; omega) HO0b.out HS3b.out)
              rw [HV0b.out] at HTQ
              go_wp2_with fail
              refine (HTQ.out).mono ?_
              rintro e w7 ⟨p7, c7, rfl, hs7, hb7⟩
              have hqv : 10 * Q + (⟨t, Nat.lt_of_le_of_lt ht9 (by decide)⟩ : Fin 16).val = Qf k := by
                have h1 := HV3.out
                have h2 := HQT.out
                show 10 * Q + t = Qf k
                omega
              rw [hqv] at hs7
              rw [hqv]
              have HB7 := Lib.hid (bel0 HB3b.out hb7)
              have HS7 := Lib.hid hs7
              have HR7 := Lib.hid ((HSx.out.below HK3b.out).below hb7)
              have hru : U = Rf k := by rw [HV2.out, HRU.out]
              rw [hru] at HR7
              clear hb7 hs7 HTQ hqv
              rw [hru]
              go_wp2
              go_roundw
              case rel => exact ⟨HB7.out, k, p7, c7, p5, c5, by omega, by go_num, rfl, HS7.out, rfl, HR7.out⟩
              case measure => simp [intOf]
            | some ad =>
              have HOW := Lib.hid (own_dig wr (⟨t, Nat.lt_of_le_of_lt ht9 (by decide)⟩ : Fin 16))
              have HRD := Lib.hid ((HQx.out.below (below_new wr (.cells #[.int .i64 (((⟨t, Nat.lt_of_le_of_lt ht9 (by decide)⟩ : Fin 16)).val : Int)] 3))).1.cells4)
              go_wp2_with (at_builtin; refine wpList_append_own _ rfl (.tmp 35) (.tmp 36) 50 rfl wr.heap.size 3 i0 (.int .i64 0) 1 8 Tryd.underlying50 hi hz0 hz1 hz2 rfl (by decide) _ 1 (bsI [(⟨t, Nat.lt_of_le_of_lt ht9 (by decide)⟩ : Fin 16)]) rfl HOW.out ad LQ.length c1 (bsI LQ) rfl (by rw [bsI_len, Nat.mul_one]) HRD.out (bsI_one _) (by unfold maxLen; have := HLQ.out; omega) (by have := HLQ.out; omega) (by simp) ?_)
              intro v' W3b hown hgrow _
              have hb3 : Below w.heap.size w W3b := (bel0 HBx.out (below_new wr (.cells #[.int .i64 (((⟨t, Nat.lt_of_le_of_lt ht9 (by decide)⟩ : Fin 16)).val : Int)] 3))).grown hgrow (by have := HBx.out.size; simp; omega) (fun r hr => Nat.le_trans HBx.out.size (HOW.out.lt r hr).1)
              have hkeep : Below wr.heap.size wr W3b := (below_new wr (.cells #[.int .i64 (((⟨t, Nat.lt_of_le_of_lt ht9 (by decide)⟩ : Fin 16)).val : Int)] 3)).grown hgrow (by simp) (fun r hr => (HOW.out.lt r hr).1)
              have hsl : ∃ p3b c3b, v' = .slice p3b ((⟨t, Nat.lt_of_le_of_lt ht9 (by decide)⟩ : Fin 16) :: LQ).length c3b ∧ SlI W3b p3b c3b ((⟨t, Nat.lt_of_le_of_lt ht9 (by decide)⟩ : Fin 16) :: LQ) := sl_own (l := (⟨t, Nat.lt_of_le_of_lt ht9 (by decide)⟩ : Fin 16) :: LQ) hown (by rw [List.length_cons, Nat.add_comm])
              have hv0 : val ((⟨t, Nat.lt_of_le_of_lt ht9 (by decide)⟩ : Fin 16) :: LQ) = 10 * Q + ((⟨t, Nat.lt_of_le_of_lt ht9 (by decide)⟩ : Fin 16)).val := by
                rw [val_cons, HVQ.out, Nat.add_comm]
              have ho0 : ok9 ((⟨t, Nat.lt_of_le_of_lt ht9 (by decide)⟩ : Fin 16) :: LQ) := ok9_cons.2 ⟨(show t ≤ 9 by omega), HOQ.out⟩
              have hl0 : ((⟨t, Nat.lt_of_le_of_lt ht9 (by decide)⟩ : Fin 16) :: LQ).length ≤ 100 := by have := HLQ.out; simp; omega
              generalize (⟨t, Nat.lt_of_le_of_lt ht9 (by decide)⟩ : Fin 16) :: LQ = L0b at hsl hv0 ho0 hl0
              obtain ⟨p3b, c3b, rfl, hs3⟩ := hsl
              have HB3b := Lib.hid hb3
              have HK3b := Lib.hid hkeep
              have HS3b := Lib.hid hs3
              have HV0b := Lib.hid hv0
              have HO0b := Lib.hid ho0
              have HL0b := Lib.hid hl0
              clear hgrow HOW HRD hown hb3 hs3 hv0 ho0 hl0 hkeep
              have HTQ := Lib.hid (HTR.out p3b c3b L0b _ (by have := HL0b.out; omega) HO0b.out HS3b.out)
              rw [HV0b.out] at HTQ
              go_wp2_with fail
              refine (HTQ.out).mono ?_
              rintro e w7 ⟨p7, c7, rfl, hs7, hb7⟩
              have hqv : 10 * Q + (⟨t, Nat.lt_of_le_of_lt ht9 (by decide)⟩ : Fin 16).val = Qf k := by
                have h1 := HV3.out
                have h2 := HQT.out
                show 10 * Q + t = Qf k
                omega
              rw [hqv] at hs7
              rw [hqv]
              have HB7 := Lib.hid (bel0 HB3b.out hb7)
              have HS7 := Lib.hid hs7
              have HR7 := Lib.hid ((HSx.out.below HK3b.out).below hb7)
              have hru : U = Rf k := by rw [HV2.out, HRU.out]
              rw [hru] at HR7
              clear hb7 hs7 HTQ hqv
              rw [hru]
              go_wp2
              go_roundw
              case rel => exact ⟨HB7.out, k, p7, c7, p5, c5, by omega, by go_num, rfl, HS7.out, rfl, HR7.out⟩
              case measure => simp [intOf]
          · rw [decide_eq_false hlt] at HLL
            have HMM := Lib.hid (HMN.out p5 c5 U _ HBx.out hUM (by omega) HSx.out)
            have ht1 : t + 1 ≤ 9 := by
              have h1 : (t + 1) * y ≤ V := by rw [Nat.add_mul, Nat.one_mul]; omega
              have h2 := (Nat.le_div_iff_mul_le (show 0 < y by omega)).2 h1
              have h3 := HV4.out
              omega
            have hnew : U - y + (t + 1) * y = V := by rw [Nat.add_mul, Nat.one_mul]; omega
            have HNW := Lib.hid hnew
            clear hnew hlt hUV
            go_wp2_with fail
            refine (HLL.out).mono ?_
            rintro e w' ⟨rfl, rfl⟩
            go_wp2_with fail
            refine (HMM.out).mono ?_
            rintro e w6 ⟨p6, c6, rfl, hs6, hb6⟩
            have HB6 := Lib.hid (bel0 HBx.out hb6)
            have HS6 := Lib.hid hs6
            have HQ6 := Lib.hid (HQx.out.below hb6)
            clear hb6 hs6 HMM HLL
            go_wp2
            go_roundw
            case rel => exact ⟨HB6.out, HQ6.out, t + 1, U - y, p6, c6, ht1, by go_num, rfl, HS6.out, HNW.out⟩
            case measure => simp [intOf]; omega
      | some ad =>
        have HOW := Lib.hid (own_dig wr fd)
        have HRD := Lib.hid ((HS2.out.below (below_new wr (.cells #[.int .i64 ((fd).val : Int)] 3))).1.cells4)
        go_wp2_with (at_builtin; refine wpList_append_own _ rfl (.tmp 21) (.tmp 22) 50 rfl wr.heap.size 3 i0 (.int .i64 0) 1 8 Tryd.underlying50 hi hz0 hz1 hz2 rfl (by decide) _ 1 (bsI [fd]) rfl HOW.out ad LR.length c2 (bsI LR) rfl (by rw [bsI_len, Nat.mul_one]) HRD.out (bsI_one _) (by unfold maxLen; omega) (by omega) (by simp) ?_)
        intro v' W3 hown hgrow _
        have hb3 : Below w.heap.size w W3 := (bel0 HB.out (below_new wr (.cells #[.int .i64 ((fd).val : Int)] 3))).grown hgrow (by have := HB.out.size; simp; omega) (fun r hr => Nat.le_trans HB.out.size (HOW.out.lt r hr).1)
        have hkeep : Below wr.heap.size wr W3 := (below_new wr (.cells #[.int .i64 ((fd).val : Int)] 3)).grown hgrow (by simp) (fun r hr => (HOW.out.lt r hr).1)
        have hsl : ∃ p3 c3, v' = .slice p3 (fd :: LR).length c3 ∧ SlI W3 p3 c3 (fd :: LR) := sl_own (l := fd :: LR) hown (by rw [List.length_cons, Nat.add_comm])
        have hv0 : val (fd :: LR) = 10 * R + (fd).val := by
          rw [val_cons, HVR.out, Nat.add_comm]
        have ho0 : ok9 (fd :: LR) := ok9_cons.2 ⟨hdk, HOR.out⟩
        have hl0 : (fd :: LR).length ≤ 100 := by simp; omega
        generalize fd :: LR = L0 at hsl hv0 ho0 hl0
        obtain ⟨p3, c3, rfl, hs3⟩ := hsl
        have HB3 := Lib.hid hb3
        have HK3 := Lib.hid hkeep
        have HS3 := Lib.hid hs3
        have HV0 := Lib.hid hv0
        have HO0 := Lib.hid ho0
        have HL0 := Lib.hid hl0
        clear hgrow HOW HRD hown hb3 hs3 hv0 ho0 hl0 hkeep
        have HTT := Lib.hid (HTR.out p3 c3 L0 _ (by have := HL0.out; omega) HO0.out HS3.out)
        rw [HV0.out] at HTT
        go_wp2_with fail
        refine (HTT.out).mono ?_
        rintro e w5 ⟨p6, c6, rfl, hs6, hb6⟩
        have HB6 := Lib.hid (bel0 HB3.out hb6)
        have HS6 := Lib.hid hs6
        have HQ6 := Lib.hid ((HS1.out.below HK3.out).below hb6)
        clear hb6 hs6 HTT HS1 HS2 HB
        generalize 10 * R + fd.val = V at *
        go_wp2
        go_loopw [7, 9] (fun sv j wx => Below w.heap.size w wx ∧ SlI wx p1 c1 LQ ∧ ∃ (t U : Nat) (p5 : Option Addr) (c5 : Nat), t ≤ 9 ∧ j = .int .i64 (t : Int) ∧ sv = .slice p5 (dgs U).length c5 ∧ SlI wx p5 c5 (dgs U) ∧ U + t * y = V) (fun _ j _ => V + 1 - (intOf j).toNat)
        case atStart => exact ⟨HB6.out, HQ6.out, 0, V, p6, c6, Nat.zero_le _, rfl, rfl, HS6.out, by omega⟩
        case round =>
          clear HB6 HS6 HQ6
          obtain ⟨hbx, hqx, t, U, p5, c5, ht9, rfl, rfl, hsx, hUV⟩ := hrel
          have HBx := Lib.hid hbx
          have HQx := Lib.hid hqx
          have HSx := Lib.hid hsx
          have HUV := Lib.hid hUV
          have htV : t ≤ V := by
            have := Nat.le_mul_of_pos_right t (show 0 < y by omega)
            omega
          have hUM : U ≤ M := by have := HM5.out; omega
          have HLL := Lib.hid (HLS.out p5 c5 U _ HBx.out hUM HSx.out)
          clear hbx hqx hsx
          by_cases hlt : U < y
          · rw [decide_eq_true hlt] at HLL
            have hdm : V / y = t ∧ V % y = U := by
              rw [← hUV]
              exact ⟨by rw [Nat.add_mul_div_right _ _ (by omega), Nat.div_eq_of_lt hlt, Nat.zero_add], by rw [Nat.add_mul_mod_self_right, Nat.mod_eq_of_lt hlt]⟩
            have HQT := Lib.hid hdm.1
            have HRU := Lib.hid hdm.2
            clear hdm hlt hUV
            go_wp2_with fail
            refine (HLL.out).mono ?_
            rintro e w' ⟨rfl, rfl⟩
            cases p1 with
            | none =>
              obtain ⟨rfl, rfl⟩ := HQx.out.none
              have HOW := Lib.hid (own_dig wr (⟨t, Nat.lt_of_le_of_lt ht9 (by decide)⟩ : Fin 16))
              have h00 : ([] : List (Fin 16)).length = 0 := rfl
              rw [h00]
              clear h00
              go_wp2_with (at_builtin; refine wpList_append_own_none rfl (.tmp 35) (.tmp 36) 50 rfl wr.heap.size 3 i0 1 Tryd.underlying50 hi _ 1 (bsI [(⟨t, Nat.lt_of_le_of_lt ht9 (by decide)⟩ : Fin 16)]) rfl HOW.out rfl ?_)
              have hsl : ∃ p3b c3b, (Value.slice (some ⟨wr.heap.size, 0, none⟩) 1 1) = .slice p3b ([(⟨t, Nat.lt_of_le_of_lt ht9 (by decide)⟩ : Fin 16)]).length c3b ∧ SlI (wr.alloc (.cells #[.int .i64 (((⟨t, Nat.lt_of_le_of_lt ht9 (by decide)⟩ : Fin 16)).val : Int)] 3)) p3b c3b [(⟨t, Nat.lt_of_le_of_lt ht9 (by decide)⟩ : Fin 16)] := sl_own (l := [(⟨t, Nat.lt_of_le_of_lt ht9 (by decide)⟩ : Fin 16)]) HOW.out rfl
              have hv0 : val [(⟨t, Nat.lt_of_le_of_lt ht9 (by decide)⟩ : Fin 16)] = 10 * Q + ((⟨t, Nat.lt_of_le_of_lt ht9 (by decide)⟩ : Fin 16)).val := by
                have h1 := HVQ.out
                rw [val_nil] at h1
                rw [val_one, ← h1]
                omega
              have ho0 : ok9 [(⟨t, Nat.lt_of_le_of_lt ht9 (by decide)⟩ : Fin 16)] := ok9_cons.2 ⟨(show t ≤ 9 by omega), ok9_nil⟩
              have hl0 : ([(⟨t, Nat.lt_of_le_of_lt ht9 (by decide)⟩ : Fin 16)]).length ≤ 100 := by simp
              have hb3 := bel0 HBx.out (below_new wr (.cells #[.int .i64 (((⟨t, Nat.lt_of_le_of_lt ht9 (by decide)⟩ : Fin 16)).val : Int)] 3))
              have hkeep : Below wr.heap.size wr (wr.alloc (.cells #[.int .i64 (((⟨t, Nat.lt_of_le_of_lt ht9 (by decide)⟩ : Fin 16)).val : Int)] 3)) := below_new _ _
              obtain ⟨W3b, hW3⟩ : ∃ W3b, W3b = wr.alloc (.cells #[.int .i64 (((⟨t, Nat.lt_of_le_of_lt ht9 (by decide)⟩ : Fin 16)).val : Int)] 3) := ⟨_, rfl⟩
              rw [← hW3] at hsl hb3 hkeep
              try rw [← hW3]
              generalize [(⟨t, Nat.lt_of_le_of_lt ht9 (by decide)⟩ : Fin 16)] = L0b at hsl hv0 ho0 hl0
              obtain ⟨p3b, c3b, hv3, hs3⟩ := hsl
              rw [hv3]
              have HB3b := Lib.hid hb3
              have HK3b := Lib.hid hkeep
              have HS3b := Lib.hid hs3
              have HV0b := Lib.hid hv0
              have HO0b := Lib.hid ho0
              have HL0b := Lib.hid hl0
              clear hv3 hW3 HOW hb3 hs3 hv0 ho0 hl0 hkeep
              have HTQ := Lib.hid (HTR.out p3b c3b L0b _ (by have := HL0b.out; omega) HO0b.out HS3b.out)
              rw [HV0b.out] at HTQ
              go_wp2_with fail
              refine (HTQ.out).mono ?_
              rintro e w7 ⟨p7, c7, rfl, hs7, hb7⟩
              have hqv : 10 * Q + (⟨t, Nat.lt_of_le_of_lt ht9 (by decide)⟩ : Fin 16).val = Qf k := by
                have h1 := HV3.out
                have h2 := HQT.out
                show 10 * Q + t = Qf k
                omega
              rw [hqv] at hs7
              rw [hqv]
              have HB7 := Lib.hid (bel0 HB3b.out hb7)
              have HS7 := Lib.hid hs7
              have HR7 := Lib.hid ((HSx.out.below HK3b.out).below hb7)
              have hru : U = Rf k := by rw [HV2.out, HRU.out]
              rw [hru] at HR7
              clear hb7 hs7 HTQ hqv
              rw [hru]
              go_wp2
              go_roundw
              case rel => exact ⟨HB7.out, k, p7, c7, p5, c5, by omega, by go_num, rfl, HS7.out, rfl, HR7.out⟩
              case measure => simp [intOf]
            | some ad =>
              have HOW := Lib.hid (own_dig wr (⟨t, Nat.lt_of_le_of_lt ht9 (by decide)⟩ : Fin 16))
              have HRD := Lib.hid ((HQx.out.below (below_new wr (.cells #[.int .i64 (((⟨t, Nat.lt_of_le_of_lt ht9 (by decide)⟩ : Fin 16)).val : Int)] 3))).1.cells4)
              go_wp2_with (at_builtin; refine wpList_append_own _ rfl (.tmp 35) (.tmp 36) 50 rfl wr.heap.size 3 i0 (.int .i64 0) 1 8 Tryd.underlying50 hi hz0 hz1 hz2 rfl (by decide) _ 1 (bsI [(⟨t, Nat.lt_of_le_of_lt ht9 (by decide)⟩ : Fin 16)]) rfl HOW.out ad LQ.length c1 (bsI LQ) rfl (by rw [bsI_len, Nat.mul_one]) HRD.out (bsI_one _) (by unfold maxLen; have := HLQ.out; omega) (by have := HLQ.out; omega) (by simp) ?_)
              intro v' W3b hown hgrow _
              have hb3 : Below w.heap.size w W3b := (bel0 HBx.out (below_new wr (.cells #[.int .i64 (((⟨t, Nat.lt_of_le_of_lt ht9 (by decide)⟩ : Fin 16)).val : Int)] 3))).grown hgrow (by have := HBx.out.size; simp; omega) (fun r hr => Nat.le_trans HBx.out.size (HOW.out.lt r hr).1)
              have hkeep : Below wr.heap.size wr W3b := (below_new wr (.cells #[.int .i64 (((⟨t, Nat.lt_of_le_of_lt ht9 (by decide)⟩ : Fin 16)).val : Int)] 3)).grown hgrow (by simp) (fun r hr => (HOW.out.lt r hr).1)
              have hsl : ∃ p3b c3b, v' = .slice p3b ((⟨t, Nat.lt_of_le_of_lt ht9 (by decide)⟩ : Fin 16) :: LQ).length c3b ∧ SlI W3b p3b c3b ((⟨t, Nat.lt_of_le_of_lt ht9 (by decide)⟩ : Fin 16) :: LQ) := sl_own (l := (⟨t, Nat.lt_of_le_of_lt ht9 (by decide)⟩ : Fin 16) :: LQ) hown (by rw [List.length_cons, Nat.add_comm])
              have hv0 : val ((⟨t, Nat.lt_of_le_of_lt ht9 (by decide)⟩ : Fin 16) :: LQ) = 10 * Q + ((⟨t, Nat.lt_of_le_of_lt ht9 (by decide)⟩ : Fin 16)).val := by
                rw [val_cons, HVQ.out, Nat.add_comm]
              have ho0 : ok9 ((⟨t, Nat.lt_of_le_of_lt ht9 (by decide)⟩ : Fin 16) :: LQ) := ok9_cons.2 ⟨(show t ≤ 9 by omega), HOQ.out⟩
              have hl0 : ((⟨t, Nat.lt_of_le_of_lt ht9 (by decide)⟩ : Fin 16) :: LQ).length ≤ 100 := by have := HLQ.out; simp; omega
              generalize (⟨t, Nat.lt_of_le_of_lt ht9 (by decide)⟩ : Fin 16) :: LQ = L0b at hsl hv0 ho0 hl0
              obtain ⟨p3b, c3b, rfl, hs3⟩ := hsl
              have HB3b := Lib.hid hb3
              have HK3b := Lib.hid hkeep
              have HS3b := Lib.hid hs3
              have HV0b := Lib.hid hv0
              have HO0b := Lib.hid ho0
              have HL0b := Lib.hid hl0
              clear hgrow HOW HRD hown hb3 hs3 hv0 ho0 hl0 hkeep
              have HTQ := Lib.hid (HTR.out p3b c3b L0b _ (by have := HL0b.out; omega) HO0b.out HS3b.out)
              rw [HV0b.out] at HTQ
              go_wp2_with fail
              refine (HTQ.out).mono ?_
              rintro e w7 ⟨p7, c7, rfl, hs7, hb7⟩
              have hqv : 10 * Q + (⟨t, Nat.lt_of_le_of_lt ht9 (by decide)⟩ : Fin 16).val = Qf k := by
                have h1 := HV3.out
                have h2 := HQT.out
                show 10 * Q + t = Qf k
                omega
              rw [hqv] at hs7
              rw [hqv]
              have HB7 := Lib.hid (bel0 HB3b.out hb7)
              have HS7 := Lib.hid hs7
              have HR7 := Lib.hid ((HSx.out.below HK3b.out).below hb7)
              have hru : U = Rf k := by rw [HV2.out, HRU.out]
              rw [hru] at HR7
              clear hb7 hs7 HTQ hqv
              rw [hru]
              go_wp2
              go_roundw
              case rel => exact ⟨HB7.out, k, p7, c7, p5, c5, by omega, by go_num, rfl, HS7.out, rfl, HR7.out⟩
              case measure => simp [intOf]
          · rw [decide_eq_false hlt] at HLL
            have HMM := Lib.hid (HMN.out p5 c5 U _ HBx.out hUM (by omega) HSx.out)
            have ht1 : t + 1 ≤ 9 := by
              have h1 : (t + 1) * y ≤ V := by rw [Nat.add_mul, Nat.one_mul]; omega
              have h2 := (Nat.le_div_iff_mul_le (show 0 < y by omega)).2 h1
              have h3 := HV4.out
              omega
            have hnew : U - y + (t + 1) * y = V := by rw [Nat.add_mul, Nat.one_mul]; omega
            have HNW := Lib.hid hnew
            clear hnew hlt hUV
            go_wp2_with fail
            refine (HLL.out).mono ?_
            rintro e w' ⟨rfl, rfl⟩
            go_wp2_with fail
            refine (HMM.out).mono ?_
            rintro e w6 ⟨p6, c6, rfl, hs6, hb6⟩
            have HB6 := Lib.hid (bel0 HBx.out hb6)
            have HS6 := Lib.hid hs6
            have HQ6 := Lib.hid (HQx.out.below hb6)
            clear hb6 hs6 HMM HLL
            go_wp2
            go_roundw
            case rel => exact ⟨HB6.out, HQ6.out, t + 1, U - y, p6, c6, ht1, by go_num, rfl, HS6.out, HNW.out⟩
            case measure => simp [intOf]; omega
theorem quot_any (p q : Option Addr) (c d x y : Nat) (w : World) (hx : (dgs x).length ≤ 40) (hy : (dgs y).length ≤ 40) (h0 : y ≠ 0) (ra : SlI w p c (dgs x)) (rb : SlI w q d (dgs y)) :
    Calls Tryd.prog 56 #[.slice p (dgs x).length c, .slice q (dgs y).length d] w (QtPost w (x / y) (x % y)) := by
  have hx40 := (dgs_len_le x 40).1 hx
  have hy40 := (dgs_len_le y 40).1 hy
  have hR : ∀ k, x / 10 ^ k % y < y := fun k => Nat.mod_lt _ (by omega)
  have hX : ∀ k, x / 10 ^ k = 10 * (x / 10 ^ (k + 1)) + x / 10 ^ k % 10 := fun k => by
    rw [Nat.pow_succ, ← Nat.div_div_eq_div_mul]
    omega
  have hV : ∀ k, 10 * (x / 10 ^ (k + 1) % y) + x / 10 ^ k % 10 + y * (10 * (x / 10 ^ (k + 1) / y)) = x / 10 ^ k := fun k => by
    have h1 := Nat.div_add_mod (x / 10 ^ (k + 1)) y
    have h2 := hX k
    have h3 : y * (10 * (x / 10 ^ (k + 1) / y)) = 10 * (y * (x / 10 ^ (k + 1) / y)) := by rw [Nat.mul_left_comm]
    rw [h3]
    omega
  have h := quot_core p q c d y (dgs x).length (dgs y).length (10 ^ 42) (fun k => x / 10 ^ k / y) (fun k => x / 10 ^ k % y) (fun k => x / 10 ^ k % 10) w hx (by omega) (Lib.hid fun k => ?_) (Lib.hid fun k => ?_) (Lib.hid fun k => ?_) (Lib.hid fun k => ?_) (Lib.hid fun k => ?_) (Lib.hid ?_) (Lib.hid fun V hV => ?_) (Lib.hid fun po co V W hW h1 h2 => ?_) (Lib.hid fun po co V W hW h1 h2 h3 => ?_) (Lib.hid fun po co L W h1 h2 h3 => TrPost.rn h3 (trim_any po co L W h1 h2 h3)) (Lib.hid fun k hk => ?_)
  · simp only [Nat.pow_zero, Nat.div_one] at h
    exact h
  · show x / 10 ^ k % 10 ≤ 9
    omega
  · show x / 10 ^ k % y = (10 * (x / 10 ^ (k + 1) % y) + x / 10 ^ k % 10) % y
    conv => lhs; rw [← hV k]
    rw [Nat.add_mul_mod_self_left]
  · show x / 10 ^ k / y = 10 * (x / 10 ^ (k + 1) / y) + (10 * (x / 10 ^ (k + 1) % y) + x / 10 ^ k % 10) / y
    conv => lhs; rw [← hV k]
    rw [Nat.add_mul_div_left _ _ (by omega), Nat.add_comm]
  · show (10 * (x / 10 ^ (k + 1) % y) + x / 10 ^ k % 10) / y ≤ 9
    have h1 := hR (k + 1)
    exact Nat.le_of_lt_succ ((Nat.div_lt_iff_lt_mul (by omega)).2 (by omega))
  · have h1 := hR (k + 1)
    have h2 := hR k
    have h3 : x / 10 ^ k / y ≤ x := Nat.le_trans (Nat.div_le_self _ _) (Nat.div_le_self _ _)
    have h4 : (10 : Nat) ^ 42 = 100 * 10 ^ 40 := by rw [show (42 : Nat) = 40 + 2 from rfl, Nat.pow_add, Nat.mul_comm]
    refine ⟨?_, ?_, ?_⟩
    · show x / 10 ^ k / y ≤ 10 ^ 42
      rw [h4]; omega
    · show x / 10 ^ k % y ≤ 10 ^ 42
      rw [h4]; omega
    · show 10 * (x / 10 ^ (k + 1) % y) + x / 10 ^ k % 10 ≤ 10 ^ 42
      rw [h4]; omega
  · have hz : x / 10 ^ (dgs x).length = 0 := Nat.div_eq_of_lt ((dgs_len_le x _).1 (Nat.le_refl _))
    show x / 10 ^ (dgs x).length / y = 0 ∧ x / 10 ^ (dgs x).length % y = 0
    rw [hz, Nat.zero_div, Nat.zero_mod]
    exact ⟨rfl, rfl⟩
  · exact (dgs_len_le V 80).2 (Nat.lt_of_le_of_lt hV (Nat.pow_lt_pow_right (by omega) (by omega)))
  · have hl : (dgs V).length ≤ 80 := (dgs_len_le V 80).2 (Nat.lt_of_le_of_lt h1 (Nat.pow_lt_pow_right (by omega) (by omega)))
    have h := rless_any po q co d (dgs V) (dgs y) W (by omega) (by omega) (dgs_ok9 V) (dgs_ok9 y) h2.1 (rb.1.below hW)
    rw [val_dgs, val_dgs] at h
    exact h
  · have hl : (dgs V).length ≤ 80 := (dgs_len_le V 80).2 (Nat.lt_of_le_of_lt h1 (Nat.pow_lt_pow_right (by omega) (by omega)))
    have h := minus_any po q co d (dgs V) (dgs y) W (by omega) (by omega) (dgs_ok9 V) (dgs_ok9 y) (by rw [val_dgs, val_dgs]; exact h2) h3.1 (rb.1.below hW)
    rw [val_dgs, val_dgs] at h
    exact h
  · obtain ⟨hr, hc, _, _⟩ := ra
    rcases hr with h0 | ⟨B, off, rfl, hcl⟩
    · rw [h0] at hk; simp at hk
    · refine ⟨B, off, rfl, hc, World.block_lt_of_cell? w _ (hcl k hk), ?_⟩
      rw [hcl k hk, dgs_getD]

end E
end Go.Proofs.YtlpekknhaaddcaaDoor
