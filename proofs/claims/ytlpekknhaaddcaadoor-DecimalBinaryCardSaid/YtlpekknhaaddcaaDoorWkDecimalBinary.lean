/- The walk of the statement DecimalBinary: it answers true, and below its own memory nothing turns. -/
import Derived.Test.YtlpekknhaaddcaaDoorDcWorks
import Derived.Test.YtlpekknhaaddcaaDoorDcLaid
namespace Go.Proofs.YtlpekknhaaddcaaDoor.decimalBinary
open Go.ChangeShapes Go.WideShapes Go.ChangeAt Go.RowKit Go.ChangeMaps E
set_option linter.unusedVariables false

theorem tb_fb (v : Nat) (hv : v < 4294967296) : tbL (fbL v) = ((v : Int), 0) := by
  have e15 : (10 : Nat) ^ (2 * 8 - 1) = 1000000000000000 := by decide
  have hl := fbL_len v
  have hd : dOk (fbL v) = true ∧ tbV (fbL v) = if v < 2147483648 then (v : Int) else (v : Int) - 4294967296 := by
    unfold tbV fbL
    split
    · obtain ⟨h1, h2, h3⟩ := fld_dec false v 8 (by omega) (by omega)
      rw [h2, h3, e15, Nat.mod_eq_of_lt (by omega)]
      exact ⟨h1, rfl⟩
    · obtain ⟨h1, h2, h3⟩ := fld_dec true (4294967296 - v) 8 (by omega) (by omega)
      rw [h2, h3, e15, Nat.mod_eq_of_lt (by omega)]
      refine ⟨h1, ?_⟩
      rw [if_pos rfl]
      omega
  have ho : opC (fbL v) = 0 := by
    unfold opC
    rw [hl, if_pos (by omega), if_pos hd.1]
  unfold tbL
  rw [hl, ho, hd.2]
  simp only [ne_eq, not_true_eq_false, if_false]
  split
  · rw [if_pos (by omega)]
    congr 1
    omega
  · rw [if_pos (by omega)]
    congr 1
    omega
set_option maxRecDepth 100000 in
set_option maxHeartbeats 4000000 in
theorem walk (v : Nat) (hv : v < 4294967296) (w : World) (hg : Sg w) : Calls Tryd.prog 12 #[.int .u32 (v : Int)] w (New w (.bool true)) := by
  have HG := Lib.hid hg
  have HF := Lib.hid (pfrombin_any v w hv)
  have HT := Lib.hid (fun (p : Option Addr) (c : Nat) (W : World) (hr : Rd W p (fbL v)) (hg : Sg W) => (by
    have h := ptobin_any p c (fbL v) W (by rw [fbL_len]; omega) hr hg
    rw [tb_fb v hv, fbL_len] at h
    exact h : Calls Tryd.prog 29 #[.slice p (8 : Nat) c] W (TbPost W ((v : Int), 0))))
  have HL := Lib.hid (fbL_len v)
  unfold R1Post at HF
  unfold TbPost at HT
  generalize fbL v = F at *
  clear hg
  go_enter Tryd.func12, Tryd.ntmps12
  go_wp2_with fail
  refine (HF.out).mono ?_
  rintro e w1 ⟨sv, rfl, ⟨p, c, rfl, hr, _⟩, hb⟩
  rw [HL.out]
  have HB1 := Lib.hid hb
  have HR := Lib.hid hr
  clear hb hr
  go_wp2_with fail
  refine (HT.out p c w1 HR.out (HG.out.below HB1.out)).mono ?_
  rintro e w2 ⟨rfl, hb⟩
  have HB2 := Lib.hid (bel0 HB1.out hb)
  clear hb
  go_wp2_with fail
  refine (works_any w2 (HG.out.below HB2.out)).mono ?_
  rintro e w3 ⟨rfl, hb⟩
  have HB3 := Lib.hid (bel0 HB2.out hb)
  clear hb
  go_wp2
  go_ret
  exact ⟨rfl, HB3.out⟩

end Go.Proofs.YtlpekknhaaddcaaDoor.decimalBinary
