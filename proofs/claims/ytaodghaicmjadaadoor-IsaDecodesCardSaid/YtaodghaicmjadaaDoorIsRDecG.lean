/- The contract of the given answers' Decode. -/
import Derived.Test.YtaodghaicmjadaaDoorIsRDecB
import Derived.Test.YtaodghaicmjadaaDoorIsRDecC
import Derived.Test.YtaodghaicmjadaaDoorIsRDecD
namespace Go.Proofs.YtaodghaicmjadaaDoor
open Go.RowKit Go.Shelf
set_option linter.unusedVariables false
namespace E

theorem num2 (l : List UInt8) (h : 2 ≤ l.length) : numB ((l.drop 1).take 1) = (gt l 1).toNat := by
  match l, h with
  | a :: b :: r, _ => simp [numB, gt]
theorem num4 (l : List UInt8) (h : 4 ≤ l.length) : numB ((l.drop 1).take 3) = ((gt l 1).toNat * 256 + (gt l 2).toNat) * 256 + (gt l 3).toNat := by
  match l, h with
  | a :: b :: c :: d :: r, _ => simp [numB, gt]
theorem num6 (l : List UInt8) (h : 6 ≤ l.length) : numB ((l.drop 1).take 5) = ((((gt l 1).toNat * 256 + (gt l 2).toNat) * 256 + (gt l 3).toNat) * 256 + (gt l 4).toNat) * 256 + (gt l 5).toNat := by
  match l, h with
  | a :: b :: c :: d :: e :: f :: r, _ => simp [numB, gt]
theorem decode_ref (hO : ∀ (F : Nat), 1 ≤ F → F ≤ 9 → ∀ (Q : Ins) (W : World), Q.fo = (F : Int) → Calls Tryd.prog 38 #[Q.val] W (New W (ownT F Q).val))
    (p : Option Addr) (c : Nat) (l : List UInt8) (w : World) (hp : Rd w p l) : Calls Tryd.prog 21 #[.slice p l.length c] w (New w (decV l)) := by
  by_cases h0 : l = []
  · subst h0
    exact rdec_nil p c w
  obtain ⟨Bk, off, rfl, hcell⟩ := hp.resolve_left h0
  have hl1 : 1 ≤ l.length := by cases l with | nil => exact absurd rfl h0 | cons _ _ => simp
  have hx := (gt l 0).toNat_lt
  have hy := (gt l 1).toNat_lt
  have hz := (gt l 2).toNat_lt
  have ht := (gt l 3).toNat_lt
  have hu := (gt l 4).toNat_lt
  have hv := (gt l 5).toNat_lt
  have cb := hcell 0 hl1
  rw [Nat.add_zero] at cb
  have HF : ∀ W, Calls Tryd.prog 11 #[.int .i64 ((gt l 0).toNat : Int)] W (New W (.tuple #[.int .i64 (foO (ixC ((gt l 0).toNat : Int)) : Int), .bool (ixC ((gt l 0).toNat : Int)).isSome])) := fun W => form_ref _ W
  have HL := fun W => rlength_any ((gt l 0).toNat : Int) W
  cases hd : decB l with
  | false =>
    have hv0 : decV l = .tuple #[Ins.zero.val, .bool false] := by unfold decV decQ; rw [hd]; rfl
    rw [hv0]
    refine rdec_no Bk off l.length c _ _ _ _ w hl1 cb hx ?_ HF HL
    unfold decB at hd
    rw [decide_eq_true hl1, Bool.true_and] at hd
    cases hs : (ixC ((gt l 0).toNat : Int)).isSome with
    | false => exact .inl rfl
    | true =>
      rw [hs, Bool.true_and] at hd
      have := of_decide_eq_false hd
      exact .inr (by omega)
  | true =>
    have hq : decQ l = dcQ ((gt l 0).toNat : Int) (foO (ixC ((gt l 0).toNat : Int)) : Int) (foO (ixC ((gt l 0).toNat : Int))) (numB ((l.drop 1).take (lenO ((gt l 0).toNat : Int) - 1))) := by unfold decQ; rw [if_pos hd]
    unfold decB at hd
    simp only [Bool.and_eq_true, decide_eq_true_eq] at hd
    obtain ⟨⟨_, hs⟩, hnn⟩ := hd
    have hdv : decV l = .tuple #[(decQ l).val, .bool true] := by
      unfold decV
      congr 4
      unfold decB
      rw [hs, decide_eq_true hl1, decide_eq_true hnn]
      rfl
    rw [hdv]
    rw [hs] at HF
    obtain ⟨F, hF⟩ : ∃ F, F = foO (ixC ((gt l 0).toNat : Int)) := ⟨_, rfl⟩
    obtain ⟨nn, hn⟩ : ∃ nn, nn = lenO ((gt l 0).toNat : Int) := ⟨_, rfl⟩
    have hk : (1 ≤ F ∧ F ≤ 9) ∧ 8 * (nn - 1) = bitsN (fldsT F) := by
      cases e : ixC ((gt l 0).toNat : Int) with
      | none => rw [e] at hs; cases hs
      | some k =>
        obtain ⟨hk, hop⟩ := ixC_some e
        refine ⟨by rw [hF, e]; exact fo_in k hk, ?_⟩
        rw [hn, ← hop, hF, e]
        exact of_decide_eq_true (all97 tot_all hk)
    rw [← hF] at HF hq
    rw [← hn] at HL hq hnn
    have hn2 : 2 ≤ nn := by rw [hn]; exact len_pos (by omega) (by omega)
    have HO := hO F hk.1.1 hk.1.2
    clear hF hn hs
    have cy := hcell 1 (by omega)
    obtain ⟨⟨hF1, hF9⟩, hbits⟩ := hk
    obtain rfl | rfl | rfl | rfl | rfl | rfl | rfl | rfl | rfl : F = 1 ∨ F = 2 ∨ F = 3 ∨ F = 4 ∨ F = 5 ∨ F = 6 ∨ F = 7 ∨ F = 8 ∨ F = 9 := by omega
    · obtain rfl : nn = 2 := by have e : bitsN (fldsT 1) = 8 := rfl; omega
      by_cases h4 : l.length < 4
      · have e : decQ l = ownT 1 (allQ (gt l 0).toNat ((1 : Nat) : Int) (gt l 1).toNat ((gt l 1).toNat / 16) 0 0 0 0) := by rw [hq]; show dcQ _ _ _ (numB ((l.drop 1).take 1)) = _; rw [num2 l (by omega)]; exact dc_1 _ _ _ _ _ _ _ hy
        rw [e]
        exact rdec_A Bk off l.length c (gt l 0).toNat (gt l 1).toNat 0 0 0 0 1 2 w hx hy (by decide) (by decide) (by decide) (by decide) (by omega) cb cy HF HL HO h4 (by decide) (by omega)
      · have e : decQ l = ownT 1 (allQ (gt l 0).toNat ((1 : Nat) : Int) (gt l 1).toNat ((gt l 1).toNat / 16) ((gt l 2).toNat / 16) ((gt l 2).toNat % 16 * 256 + (gt l 3).toNat) ((gt l 2).toNat / 16) ((gt l 2).toNat % 16 * 256 + (gt l 3).toNat)) := by rw [hq]; show dcQ _ _ _ (numB ((l.drop 1).take 1)) = _; rw [num2 l (by omega)]; exact dc_1 _ _ _ _ _ _ _ hy
        rw [e]
        exact rdec_B Bk off l.length c (gt l 0).toNat (gt l 1).toNat (gt l 2).toNat (gt l 3).toNat 0 0 1 2 w hx hy hz ht (by decide) (by decide) (by omega) cb cy (hcell 2 (by omega)) (hcell 3 (by omega)) HF HL HO (by omega) (by decide) (by decide) (by omega)
    · obtain rfl : nn = 4 := by have e : bitsN (fldsT 2) = 24 := rfl; omega
      have e : decQ l = ownT 2 (allQ (gt l 0).toNat ((2 : Nat) : Int) (gt l 1).toNat ((gt l 1).toNat / 16) ((gt l 2).toNat / 16) ((gt l 2).toNat % 16 * 256 + (gt l 3).toNat) ((gt l 2).toNat / 16) ((gt l 2).toNat % 16 * 256 + (gt l 3).toNat)) := by rw [hq]; show dcQ _ _ _ (numB ((l.drop 1).take 3)) = _; rw [num4 l (by omega)]; exact dc_2 _ _ _ _ _ _ _ hy hz ht
      rw [e]
      exact rdec_B Bk off l.length c (gt l 0).toNat (gt l 1).toNat (gt l 2).toNat (gt l 3).toNat 0 0 2 4 w hx hy hz ht (by decide) (by decide) (by omega) cb cy (hcell 2 (by omega)) (hcell 3 (by omega)) HF HL HO (by omega) (by decide) (by decide) (by omega)
    · obtain rfl : nn = 4 := by have e : bitsN (fldsT 3) = 24 := rfl; omega
      have e : decQ l = ownT 3 (allQ (gt l 0).toNat ((3 : Nat) : Int) (gt l 1).toNat ((gt l 1).toNat / 16) ((gt l 2).toNat / 16) ((gt l 2).toNat % 16 * 256 + (gt l 3).toNat) ((gt l 2).toNat / 16) ((gt l 2).toNat % 16 * 256 + (gt l 3).toNat)) := by rw [hq]; show dcQ _ _ _ (numB ((l.drop 1).take 3)) = _; rw [num4 l (by omega)]; exact dc_3 _ _ _ _ _ _ _ hy hz ht
      rw [e]
      exact rdec_B Bk off l.length c (gt l 0).toNat (gt l 1).toNat (gt l 2).toNat (gt l 3).toNat 0 0 3 4 w hx hy hz ht (by decide) (by decide) (by omega) cb cy (hcell 2 (by omega)) (hcell 3 (by omega)) HF HL HO (by omega) (by decide) (by decide) (by omega)
    · obtain rfl : nn = 4 := by have e : bitsN (fldsT 4) = 24 := rfl; omega
      have e : decQ l = ownT 4 (allQ (gt l 0).toNat ((4 : Nat) : Int) (gt l 1).toNat ((gt l 1).toNat / 16) ((gt l 2).toNat / 16) ((gt l 2).toNat % 16 * 256 + (gt l 3).toNat) ((gt l 2).toNat / 16) ((gt l 2).toNat % 16 * 256 + (gt l 3).toNat)) := by rw [hq]; show dcQ _ _ _ (numB ((l.drop 1).take 3)) = _; rw [num4 l (by omega)]; exact dc_4 _ _ _ _ _ _ _ hy hz ht
      rw [e]
      exact rdec_B Bk off l.length c (gt l 0).toNat (gt l 1).toNat (gt l 2).toNat (gt l 3).toNat 0 0 4 4 w hx hy hz ht (by decide) (by decide) (by omega) cb cy (hcell 2 (by omega)) (hcell 3 (by omega)) HF HL HO (by omega) (by decide) (by decide) (by omega)
    · obtain rfl : nn = 6 := by have e : bitsN (fldsT 5) = 40 := rfl; omega
      have e : decQ l = ownT 5 (allQ (gt l 0).toNat ((5 : Nat) : Int) (gt l 1).toNat (gt l 1).toNat ((gt l 2).toNat / 16) ((gt l 2).toNat % 16 * 256 + (gt l 3).toNat) ((gt l 4).toNat / 16) ((gt l 4).toNat % 16 * 256 + (gt l 5).toNat)) := by rw [hq]; show dcQ _ _ _ (numB ((l.drop 1).take 5)) = _; rw [num6 l (by omega)]; exact dc_5 _ _ _ _ _ _ hy hz ht hu hv
      rw [e]
      exact rdec_D Bk off l.length c (gt l 0).toNat (gt l 1).toNat (gt l 2).toNat (gt l 3).toNat (gt l 4).toNat (gt l 5).toNat 5 6 w hx hy hz ht hu hv (by omega) cb cy (hcell 2 (by omega)) (hcell 3 (by omega)) (hcell 4 (by omega)) (hcell 5 (by omega)) HF HL HO (by omega) rfl rfl (by omega)
    · obtain rfl : nn = 6 := by have e : bitsN (fldsT 6) = 40 := rfl; omega
      have e : decQ l = ownT 6 (allQ (gt l 0).toNat ((6 : Nat) : Int) (gt l 1).toNat ((gt l 1).toNat / 16) ((gt l 2).toNat / 16) ((gt l 2).toNat % 16 * 256 + (gt l 3).toNat) ((gt l 4).toNat / 16) ((gt l 4).toNat % 16 * 256 + (gt l 5).toNat)) := by rw [hq]; show dcQ _ _ _ (numB ((l.drop 1).take 5)) = _; rw [num6 l (by omega)]; exact dc_6 _ _ _ _ _ _ hy hz ht hu hv
      rw [e]
      exact rdec_C Bk off l.length c (gt l 0).toNat (gt l 1).toNat (gt l 2).toNat (gt l 3).toNat (gt l 4).toNat (gt l 5).toNat 6 6 w hx hy hz ht hu hv (by omega) cb cy (hcell 2 (by omega)) (hcell 3 (by omega)) (hcell 4 (by omega)) (hcell 5 (by omega)) HF HL HO (by omega) (by decide) rfl (by omega)
    · obtain rfl : nn = 2 := by have e : bitsN (fldsT 7) = 8 := rfl; omega
      by_cases h4 : l.length < 4
      · have e : decQ l = ownT 7 (allQ (gt l 0).toNat ((7 : Nat) : Int) (gt l 1).toNat ((gt l 1).toNat / 16) 0 0 0 0) := by rw [hq]; show dcQ _ _ _ (numB ((l.drop 1).take 1)) = _; rw [num2 l (by omega)]; exact dc_7 _ _ _ _ _ _ _ hy
        rw [e]
        exact rdec_A Bk off l.length c (gt l 0).toNat (gt l 1).toNat 0 0 0 0 7 2 w hx hy (by decide) (by decide) (by decide) (by decide) (by omega) cb cy HF HL HO h4 (by decide) (by omega)
      · have e : decQ l = ownT 7 (allQ (gt l 0).toNat ((7 : Nat) : Int) (gt l 1).toNat ((gt l 1).toNat / 16) ((gt l 2).toNat / 16) ((gt l 2).toNat % 16 * 256 + (gt l 3).toNat) ((gt l 2).toNat / 16) ((gt l 2).toNat % 16 * 256 + (gt l 3).toNat)) := by rw [hq]; show dcQ _ _ _ (numB ((l.drop 1).take 1)) = _; rw [num2 l (by omega)]; exact dc_7 _ _ _ _ _ _ _ hy
        rw [e]
        exact rdec_B Bk off l.length c (gt l 0).toNat (gt l 1).toNat (gt l 2).toNat (gt l 3).toNat 0 0 7 2 w hx hy hz ht (by decide) (by decide) (by omega) cb cy (hcell 2 (by omega)) (hcell 3 (by omega)) HF HL HO (by omega) (by decide) (by decide) (by omega)
    · obtain rfl : nn = 2 := by have e : bitsN (fldsT 8) = 8 := rfl; omega
      by_cases h4 : l.length < 4
      · have e : decQ l = ownT 8 (allQ (gt l 0).toNat ((8 : Nat) : Int) (gt l 1).toNat ((gt l 1).toNat / 16) 0 0 0 0) := by rw [hq]; show dcQ _ _ _ (numB ((l.drop 1).take 1)) = _; rw [num2 l (by omega)]; exact dc_8 _ _ _ _ _ _ _ hy
        rw [e]
        exact rdec_A Bk off l.length c (gt l 0).toNat (gt l 1).toNat 0 0 0 0 8 2 w hx hy (by decide) (by decide) (by decide) (by decide) (by omega) cb cy HF HL HO h4 (by decide) (by omega)
      · have e : decQ l = ownT 8 (allQ (gt l 0).toNat ((8 : Nat) : Int) (gt l 1).toNat ((gt l 1).toNat / 16) ((gt l 2).toNat / 16) ((gt l 2).toNat % 16 * 256 + (gt l 3).toNat) ((gt l 2).toNat / 16) ((gt l 2).toNat % 16 * 256 + (gt l 3).toNat)) := by rw [hq]; show dcQ _ _ _ (numB ((l.drop 1).take 1)) = _; rw [num2 l (by omega)]; exact dc_8 _ _ _ _ _ _ _ hy
        rw [e]
        exact rdec_B Bk off l.length c (gt l 0).toNat (gt l 1).toNat (gt l 2).toNat (gt l 3).toNat 0 0 8 2 w hx hy hz ht (by decide) (by decide) (by omega) cb cy (hcell 2 (by omega)) (hcell 3 (by omega)) HF HL HO (by omega) (by decide) (by decide) (by omega)
    · obtain rfl : nn = 4 := by have e : bitsN (fldsT 9) = 24 := rfl; omega
      have e : decQ l = ownT 9 (allQ (gt l 0).toNat ((9 : Nat) : Int) (gt l 1).toNat ((gt l 1).toNat / 16) ((gt l 2).toNat / 16) ((gt l 2).toNat % 16 * 256 + (gt l 3).toNat) ((gt l 2).toNat / 16) ((gt l 2).toNat % 16 * 256 + (gt l 3).toNat)) := by rw [hq]; show dcQ _ _ _ (numB ((l.drop 1).take 3)) = _; rw [num4 l (by omega)]; exact dc_9 _ _ _ _ _ _ _ hy hz ht
      rw [e]
      exact rdec_B Bk off l.length c (gt l 0).toNat (gt l 1).toNat (gt l 2).toNat (gt l 3).toNat 0 0 9 4 w hx hy hz ht (by decide) (by decide) (by omega) cb cy (hcell 2 (by omega)) (hcell 3 (by omega)) HF HL HO (by omega) (by decide) (by decide) (by omega)
end E
end Go.Proofs.YtaodghaicmjadaaDoor
