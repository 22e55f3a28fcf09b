/- The walk of the statement GeneralLinks. -/
import Derived.Test.YtfopjnfphlkcgaaGreatGnRunsB
import Derived.Test.YtfopjnfphlkcgaaGreatGnWorks
import Derived.Test.YtfopjnfphlkcgaaGreatWkGeneralNone
namespace Go.Proofs.YtfopjnfphlkcgaaGreat
open Go.RowKit Go.Shelf E
set_option linter.unusedVariables false
namespace M

/-- No register but one holds anything. -/
def zR : Nat → Int := fun _ => 0
theorem zR_ok : RegOk zR := fun _ => ⟨Int.le_refl 0, by show (0 : Int) < 4294967296; decide⟩
theorem qok_of (op fo r1 r2 : Nat) (h0 : op < 256) (h1 : r1 < 16) (h2 : r2 < 16) : QOk (⟨op, fo, r1, r2, 0, 0, 0, 0, 0, 0, 0, 0⟩ : Qn) := ⟨h0, h1, h2, by simp, by simp, by simp, by simp, by simp, by simp, by simp, by simp⟩
theorem chk_n1 (n : Nat) (h : n < 16) : chkV (⟨5, 1, n, 0, 0, 0, 0, 0, 0, 0, 0, 0⟩ : Qn).ins = 0 := by
  rcases lt16 h with rfl | rfl | rfl | rfl | rfl | rfl | rfl | rfl | rfl | rfl | rfl | rfl | rfl | rfl | rfl | rfl <;> kernel_rfl
theorem chk_n2 (n : Nat) (h : n < 16) : chkV (⟨4, 8, n, 0, 0, 0, 0, 0, 0, 0, 0, 0⟩ : Qn).ins = 0 := by
  rcases lt16 h with rfl | rfl | rfl | rfl | rfl | rfl | rfl | rfl | rfl | rfl | rfl | rfl | rfl | rfl | rfl | rfl <;> kernel_rfl
theorem chk_n3 (n : Nat) (h : n < 16) : chkV (⟨7, 1, 15, n, 0, 0, 0, 0, 0, 0, 0, 0⟩ : Qn).ins = 0 := by
  rcases lt16 h with rfl | rfl | rfl | rfl | rfl | rfl | rfl | rfl | rfl | rfl | rfl | rfl | rfl | rfl | rfl | rfl <;> kernel_rfl
theorem ok_pp (a b k : Nat) (ha : a < 4) (hb : b < 16) (hk : k < 16777216) : okB (⟨0, 0, false, false, false, 0, 1, (a : Int), (b : Int), (k : Int)⟩ : Psw) = true := by
  rw [okB_iff]
  simp only [fldsP, List.mem_cons, List.not_mem_nil, or_false, pinB, Bool.and_eq_true, decide_eq_true_eq, forall_eq_or_imp, forall_eq]
  omega
/-- What the three instructions leave. -/
theorem links_exec (n a b k : Nat) (hn : n < 16) (hn0 : n ≠ 0) (ha : a < 4) (hb : b < 16) (hk : k < 16777216) : ∃ (R' : Nat → Int) (v : Int), R' n = v ∧ v / 1073741824 = 1 ∧
    (∀ A g h N m bs ks w, Sto w A g h N m bs ks → Calls Tryz.prog 17 #[.agg #[.int .i64 5, .int .i64 1, .int .i64 (n : Int), .int .i64 0, .int .i64 0, .int .i64 0, .int .i64 0, .int .i64 0, .int .i64 0, .int .i64 0, .int .i64 0, .int .i64 0], .agg #[.int .u32 0, .int .u32 0, .int .u32 0, .int .u32 0, .int .u32 0, .int .u32 0, .int .u32 0, .int .u32 0, .int .u32 0, .int .u32 0, .int .u32 0, .int .u32 0, .int .u32 0, .int .u32 0, .int .u32 0, .int .u32 0], .agg #[.int .i64 0, .int .i64 0, .bool false, .bool false, .bool false, .int .i64 0, .int .i64 1, .int .i64 (a : Int), .int .i64 (b : Int), .int .i64 (k : Int)], .pointer (some ⟨A, 0, none⟩)] w fun e w' => e = .returned (.tuple #[.agg #[.int .u32 (R' 0), .int .u32 (R' 1), .int .u32 (R' 2), .int .u32 (R' 3), .int .u32 (R' 4), .int .u32 (R' 5), .int .u32 (R' 6), .int .u32 (R' 7), .int .u32 (R' 8), .int .u32 (R' 9), .int .u32 (R' 10), .int .u32 (R' 11), .int .u32 (R' 12), .int .u32 (R' 13), .int .u32 (R' 14), .int .u32 (R' 15)], .agg #[.int .i64 0, .int .i64 0, .bool false, .bool false, .bool false, .int .i64 0, .int .i64 1, .int .i64 (a : Int), .int .i64 (b : Int), .int .i64 (k : Int)], .int .i64 0]) ∧ Sto w' A g h N m bs ks ∧ Kp w w' [g]) ∧
    (∀ A g h N m bs ks w, Sto w A g h N m bs ks → Calls Tryz.prog 17 #[.agg #[.int .i64 4, .int .i64 8, .int .i64 (n : Int), .int .i64 0, .int .i64 0, .int .i64 0, .int .i64 0, .int .i64 0, .int .i64 0, .int .i64 0, .int .i64 0, .int .i64 0], .agg #[.int .u32 (R' 0), .int .u32 (R' 1), .int .u32 (R' 2), .int .u32 (R' 3), .int .u32 (R' 4), .int .u32 (R' 5), .int .u32 (R' 6), .int .u32 (R' 7), .int .u32 (R' 8), .int .u32 (R' 9), .int .u32 (R' 10), .int .u32 (R' 11), .int .u32 (R' 12), .int .u32 (R' 13), .int .u32 (R' 14), .int .u32 (R' 15)], .agg #[.int .i64 0, .int .i64 0, .bool false, .bool false, .bool false, .int .i64 0, .int .i64 0, .int .i64 0, .int .i64 0, .int .i64 0], .pointer (some ⟨A, 0, none⟩)] w fun e w' => e = .returned (.tuple #[.agg #[.int .u32 (R' 0), .int .u32 (R' 1), .int .u32 (R' 2), .int .u32 (R' 3), .int .u32 (R' 4), .int .u32 (R' 5), .int .u32 (R' 6), .int .u32 (R' 7), .int .u32 (R' 8), .int .u32 (R' 9), .int .u32 (R' 10), .int .u32 (R' 11), .int .u32 (R' 12), .int .u32 (R' 13), .int .u32 (R' 14), .int .u32 (R' 15)], .agg #[.int .i64 0, .int .i64 0, .bool false, .bool false, .bool false, .int .i64 0, .int .i64 0, .int .i64 (a : Int), .int .i64 (b : Int), .int .i64 0], .int .i64 0]) ∧ Sto w' A g h N m bs ks ∧ Kp w w' [g]) ∧
    (∀ A g h N m bs ks w, Sto w A g h N m bs ks → Calls Tryz.prog 17 #[.agg #[.int .i64 7, .int .i64 1, .int .i64 15, .int .i64 (n : Int), .int .i64 0, .int .i64 0, .int .i64 0, .int .i64 0, .int .i64 0, .int .i64 0, .int .i64 0, .int .i64 0], .agg #[.int .u32 (R' 0), .int .u32 (R' 1), .int .u32 (R' 2), .int .u32 (R' 3), .int .u32 (R' 4), .int .u32 (R' 5), .int .u32 (R' 6), .int .u32 (R' 7), .int .u32 (R' 8), .int .u32 (R' 9), .int .u32 (R' 10), .int .u32 (R' 11), .int .u32 (R' 12), .int .u32 (R' 13), .int .u32 (R' 14), .int .u32 (R' 15)], .agg #[.int .i64 0, .int .i64 0, .bool false, .bool false, .bool false, .int .i64 0, .int .i64 0, .int .i64 0, .int .i64 0, .int .i64 0], .pointer (some ⟨A, 0, none⟩)] w fun e w' => e = .returned (.tuple #[.agg #[.int .u32 (R' 0), .int .u32 (R' 1), .int .u32 (R' 2), .int .u32 (R' 3), .int .u32 (R' 4), .int .u32 (R' 5), .int .u32 (R' 6), .int .u32 (R' 7), .int .u32 (R' 8), .int .u32 (R' 9), .int .u32 (R' 10), .int .u32 (R' 11), .int .u32 (R' 12), .int .u32 (R' 13), .int .u32 (R' 14), .int .u32 (R' 15)], .agg #[.int .i64 0, .int .i64 0, .bool false, .bool false, .bool false, .int .i64 0, .int .i64 0, .int .i64 0, .int .i64 0, .int .i64 (k : Int)], .int .i64 0]) ∧ Sto w' A g h N m bs ks ∧ Kp w w' [g]) := by
  obtain ⟨v, hv⟩ : ∃ v, v = lnkV (⟨0, 0, false, false, false, 0, 1, (a : Int), (b : Int), (k : Int)⟩ : Psw) := ⟨_, rfl⟩
  have hv2 : v = 1073741824 + (a : Int) * 268435456 + (b : Int) * 16777216 + (k : Int) := by rw [hv]; unfold lnkV; simp
  have hR' : RegOk (upd zR n v) := RegOk.upd zR_ok (by omega) (by omega)
  have hs : upd zR n v n = v := upd_same _ _ _
  refine ⟨upd zR n v, v, hs, by omega, ?_, ?_, ?_⟩
  · intro A g h N m bs ks w hst
    have hr := runs_5 (⟨5, 1, n, 0, 0, 0, 0, 0, 0, 0, 0, 0⟩ : Qn) zR (⟨0, 0, false, false, false, 0, 1, (a : Int), (b : Int), (k : Int)⟩ : Psw) N bs ks zR_ok (qok_of 5 1 n 0 (by decide) hn (by decide)) (ok_pp a b k ha hb hk) rfl
    refine (exec_of hst (chk_n1 n hn) (ok_pp a b k ha hb hk) hr).mono ?_
    rintro e w' ⟨rfl, h1, h2⟩
    exact ⟨by rw [hv]; rfl, h1, h2⟩
  · intro A g h N m bs ks w hst
    have hr := runs_4 (⟨4, 8, n, 0, 0, 0, 0, 0, 0, 0, 0, 0⟩ : Qn) (upd zR n v) (⟨0, 0, false, false, false, 0, 0, 0, 0, 0⟩ : Psw) N bs ks hR' (qok_of 4 8 n 0 (by decide) hn (by decide)) rfl
    refine (exec_of hst (chk_n2 n hn) (by kernel_rfl) hr).mono ?_
    rintro e w' ⟨rfl, h1, h2⟩
    have e1 : upd zR n v n / 268435456 % 4 = (a : Int) := by rw [hs]; omega
    have e2 : upd zR n v n / 16777216 % 16 = (b : Int) := by rw [hs]; omega
    refine ⟨?_, h1, h2⟩
    show Ending.returned (refA (upd zR n v) { (⟨0, 0, false, false, false, 0, 0, 0, 0, 0⟩ : Psw) with cc := upd zR n v n / 268435456 % 4, pg := upd zR n v n / 16777216 % 16 } 0) = _
    rw [e1, e2]
    rfl
  · intro A g h N m bs ks w hst
    have hr := runs_7 (⟨7, 1, 15, n, 0, 0, 0, 0, 0, 0, 0, 0⟩ : Qn) (upd zR n v) (⟨0, 0, false, false, false, 0, 0, 0, 0, 0⟩ : Psw) N bs ks hR' (qok_of 7 1 15 n (by decide) (by decide) hn) (by kernel_rfl) rfl
    refine (exec_of hst (chk_n3 n hn) (by kernel_rfl) hr).mono ?_
    rintro e w' ⟨rfl, h1, h2⟩
    have e1 : (brB ((15 : Nat) : Int) 0 && tgB (⟨7, 1, 15, n, 0, 0, 0, 0, 0, 0, 0, 0⟩ : Qn)) = true := by
      have t1 : brB ((15 : Nat) : Int) 0 = true := by decide
      have t2 : tgB (⟨7, 1, 15, n, 0, 0, 0, 0, 0, 0, 0, 0⟩ : Qn) = true := by
        unfold tgB
        rw [if_pos rfl]
        simpa using hn0
      rw [t1, t2]
      rfl
    have e2 : (tgA (⟨7, 1, 15, n, 0, 0, 0, 0, 0, 0, 0, 0⟩ : Qn) (upd zR n v) : Int) = (k : Int) := by
      unfold tgA
      rw [if_pos rfl]
      show ((adr (upd zR n v) 0 n 0 : Nat) : Int) = (k : Int)
      rw [← adr_of1 hR' (by decide)]
      unfold adS
      simp only [List.foldl_cons, List.foldl_nil]
      rw [if_neg hn0, hs]
      omega
    refine ⟨?_, h1, h2⟩
    show Ending.returned (refA (upd zR n v) (if (brB ((15 : Nat) : Int) 0 && tgB (⟨7, 1, 15, n, 0, 0, 0, 0, 0, 0, 0, 0⟩ : Qn)) = true then { (⟨0, 0, false, false, false, 0, 0, 0, 0, 0⟩ : Psw) with ad := (tgA (⟨7, 1, 15, n, 0, 0, 0, 0, 0, 0, 0, 0⟩ : Qn) (upd zR n v) : Int) } else (⟨0, 0, false, false, false, 0, 0, 0, 0, 0⟩ : Psw)) 0) = _
    rw [if_pos e1, e2]
    rfl
attribute [local go_sem 5000] psw_self
set_option maxRecDepth 100000 in
set_option maxHeartbeats 4000000 in
theorem wk_links (x y z : UInt8) (u : Int) (w : World) (hu : 0 ≤ u ∧ u < 4294967296) : Calls Tryz.prog 11 #[.agg #[.int .u8 (x.toNat : Int), .int .u8 (y.toNat : Int), .int .u8 (z.toNat : Int), .int .u32 u]] w (New w (.bool true)) := by
  have hx := x.toNat_lt
  have hy := y.toNat_lt
  have hz := z.toNat_lt
  generalize x.toNat = X at *
  generalize y.toNat = Y at *
  generalize z.toNat = Z at *
  obtain ⟨U, rfl⟩ := Int.eq_ofNat_of_zero_le hu.1
  have HN := Lib.hid (new_any 2048 (w.alloc (.cells #[.int .u8 (X : Int), .int .u8 (Y : Int), .int .u8 (Z : Int), .int .u32 (U : Int)] 61)) (by decide))
  have HBX := Lib.hid (Bx.new w 61 #[.int .u8 (X : Int), .int .u8 (Y : Int), .int .u8 (Z : Int), .int .u32 (U : Int)])
  have HW := Lib.hid (fun X => works_any X)
  obtain ⟨n, hn⟩ : ∃ n, n = Z % 15 + 1 := ⟨_, rfl⟩
  obtain ⟨a, ha4⟩ : ∃ a, a = X % 4 := ⟨_, rfl⟩
  obtain ⟨b, hb16⟩ : ∃ b, b = Y % 16 := ⟨_, rfl⟩
  obtain ⟨k, hk⟩ : ∃ k, k = U % 8388608 * 2 := ⟨_, rfl⟩
  have HEQ : Hid (((Z : Int) % 15 + 1 = (n : Int) ∧ (X : Int) % 4 = (a : Int)) ∧ (Y : Int) % 16 = (b : Int) ∧ (U : Int) % 8388608 * 2 = (k : Int)) := Lib.hid ⟨⟨by omega, by omega⟩, by omega, by omega⟩
  obtain ⟨R', v, hv1, hv2, h1, h2, h3⟩ := links_exec n a b k (by omega) (by omega) (by omega) (by omega) (by omega)
  have HN16 := Lib.hid (show n < 16 by omega)
  clear hn ha4 hb16 hk
  have HE1 := Lib.hid h1
  have HE2 := Lib.hid h2
  have HE3 := Lib.hid h3
  clear h1 h2 h3
  have HV := Lib.hid (And.intro hv1 hv2)
  clear hv1 hv2
  go_enter Tryz.func11, Tryz.ntmps11
  go_wp2_with fail
  refine HN.out.mono ?_
  rintro e w1 ⟨A, g, h, rfl, hst, ha, hg, hh, hb⟩
  have HST := Lib.hid hst
  have HG := Lib.hid hg
  have HB := Lib.hid hb
  clear hst ha hg hh hb HN
  go_wp2_with fail
  refine (HW.out _).mono ?_
  rintro e w2 ⟨rfl, hb⟩
  have b2 := Bx.below (Bx.below HBX.out HB.out) hb
  have f0 := Bx.cell b2 0
  have f1 := Bx.cell b2 1
  have f2 := Bx.cell b2 2
  have f3 := Bx.cell b2 3
  clear b2
  have HST2 := Lib.hid (HST.out.below hb)
  have HB2 := Lib.hid (bel0 HB.out hb)
  have HG2 := Lib.hid HG.out
  clear hb HST HB HW HG HBX
  go_wp2_with fail
  rw [HEQ.out.1.1, HEQ.out.1.2, HEQ.out.2.1, HEQ.out.2.2]
  clear f0 f1 f2 f3 HEQ
  obtain ⟨B6, hB6⟩ : ∃ B6, B6 = w2.heap.size := ⟨_, rfl⟩
  obtain ⟨w3, hw3⟩ : ∃ w3, w3 = w2.alloc (.cells #[.int .i64 0, .int .i64 0, .bool false, .bool false, .bool false, .int .i64 0, .int .i64 1, .int .i64 (a : Int), .int .i64 (b : Int), .int .i64 (k : Int)] 30) := ⟨_, rfl⟩
  have k3 : Bx w3 B6 30 #[.int .i64 0, .int .i64 0, .bool false, .bool false, .bool false, .int .i64 0, .int .i64 1, .int .i64 (a : Int), .int .i64 (b : Int), .int .i64 (k : Int)] := by rw [hw3, hB6]; exact Bx.new w2 _ _
  have hb23 : Below w2.heap.size w2 w3 := by rw [hw3]; exact below_new _ _
  have HST3 := Lib.hid (HST2.out.below hb23)
  have HB3 := Lib.hid (bel0 HB2.out hb23)
  have hg6 : B6 ≠ g := by have := HST2.out.2.1.lt; omega
  have HK3 := Lib.hid k3
  have HG6 := Lib.hid hg6
  rw [← hw3, ← hB6]
  clear hw3 hB6 k3 hb23 hg6 HST2 HB2
  refine (HE1.out A g h _ _ _ _ w3 HST3.out).mono ?_
  rintro e w4 ⟨rfl, hs4, hk4⟩
  have HST4 := Lib.hid hs4
  have HB4 := Lib.hid (Kp.below HB3.out hk4 (by simpa using HG2.out))
  have HK4 := Lib.hid (HK3.out.kp hk4 (by simpa using HG6.out))
  have HL4 := Lib.hid hs4.2.1.lt
  clear hs4 hk4 HST3 HB3 HK3 HE1
  go_wp2_with fail
  obtain ⟨B7, hB7⟩ : ∃ B7, B7 = w4.heap.size := ⟨_, rfl⟩
  obtain ⟨wq, hwq⟩ : ∃ wq, wq = w4.alloc (.cells #[.int .u32 (R' 0), .int .u32 (R' 1), .int .u32 (R' 2), .int .u32 (R' 3), .int .u32 (R' 4), .int .u32 (R' 5), .int .u32 (R' 6), .int .u32 (R' 7), .int .u32 (R' 8), .int .u32 (R' 9), .int .u32 (R' 10), .int .u32 (R' 11), .int .u32 (R' 12), .int .u32 (R' 13), .int .u32 (R' 14), .int .u32 (R' 15)] 28) := ⟨_, rfl⟩
  have k7 : Bx wq B7 28 #[.int .u32 (R' 0), .int .u32 (R' 1), .int .u32 (R' 2), .int .u32 (R' 3), .int .u32 (R' 4), .int .u32 (R' 5), .int .u32 (R' 6), .int .u32 (R' 7), .int .u32 (R' 8), .int .u32 (R' 9), .int .u32 (R' 10), .int .u32 (R' 11), .int .u32 (R' 12), .int .u32 (R' 13), .int .u32 (R' 14), .int .u32 (R' 15)] := by rw [hwq, hB7]; exact Bx.new w4 _ _
  have bq : Below w4.heap.size w4 wq := by rw [hwq]; exact below_new _ _
  have sq : wq.heap.size = w4.heap.size + 1 := by rw [hwq]; simp
  obtain ⟨w5, hw5⟩ : ∃ w5, w5 = wq.alloc (.cells #[.int .i64 0, .int .i64 0, .bool false, .bool false, .bool false, .int .i64 0, .int .i64 1, .int .i64 (a : Int), .int .i64 (b : Int), .int .i64 (k : Int)] 30) := ⟨_, rfl⟩
  have k8 : Bx w5 (w4.heap.size + 1) 30 #[.int .i64 0, .int .i64 0, .bool false, .bool false, .bool false, .int .i64 0, .int .i64 1, .int .i64 (a : Int), .int .i64 (b : Int), .int .i64 (k : Int)] := by rw [hw5, ← sq]; exact Bx.new wq _ _
  have b5 : Below wq.heap.size wq w5 := by rw [hw5]; exact below_new _ _
  have HST5 := Lib.hid ((HST4.out.below bq).below b5)
  have HB5 := Lib.hid (bel0 (bel0 HB4.out bq) b5)
  have hg7 : w4.heap.size ≠ g := by have := HL4.out; omega
  have hg8 : w4.heap.size + 1 ≠ g := by have := HL4.out; omega
  have HK5 := Lib.hid (And.intro ((HK4.out.below bq).below b5) (And.intro (k7.below b5) k8))
  have HG7 := Lib.hid (And.intro hg7 hg8)
  rw [← hwq, ← hw5]
  clear hwq hw5 k7 k8 bq b5 sq hg7 hg8 HST4 HB4 HK4 HL4
  refine (HE2.out A g h _ _ _ _ w5 HST5.out).mono ?_
  rintro e w6 ⟨rfl, hs6, hk6⟩
  have HST6 := Lib.hid hs6
  have HB6 := Lib.hid (Kp.below HB5.out hk6 (by simpa using HG2.out))
  have HK6 := Lib.hid (And.intro (HK5.out.1.kp hk6 (by simpa using HG6.out)) (And.intro (HK5.out.2.1.kp hk6 (by rw [hB7]; simpa using HG7.out.1)) (HK5.out.2.2.kp hk6 (by simpa using HG7.out.2))))
  have HL6 := Lib.hid hs6.2.1.lt
  clear hs6 hk6 HST5 HB5 HK5 HE2
  have HLR := Lib.hid (fun X (hX : Below w6.heap.size w6 X) => run_loadVar_row (P := Tryz.prog) X B7 _ 28 _ _ _ (HK6.out.2.1.below hX) Tryz.underlying28 rfl (by kernel_rfl))
  go_wp2_with (refine wpList_valW (by rfl) (exec_load 28 _ rfl ⟨B7, 0, none⟩ (by rw [hB7]; rfl) (HLR.out _ (bel0 (below_new _ _) (below_new _ _)))) ?_)
  obtain ⟨wr, hwr⟩ : ∃ wr, wr = w6.alloc (.cells #[.int .u32 (R' 0), .int .u32 (R' 1), .int .u32 (R' 2), .int .u32 (R' 3), .int .u32 (R' 4), .int .u32 (R' 5), .int .u32 (R' 6), .int .u32 (R' 7), .int .u32 (R' 8), .int .u32 (R' 9), .int .u32 (R' 10), .int .u32 (R' 11), .int .u32 (R' 12), .int .u32 (R' 13), .int .u32 (R' 14), .int .u32 (R' 15)] 28) := ⟨_, rfl⟩
  have br : Below w6.heap.size w6 wr := by rw [hwr]; exact below_new _ _
  have sr : wr.heap.size = w6.heap.size + 1 := by rw [hwr]; simp
  obtain ⟨w7, hw7⟩ : ∃ w7, w7 = wr.alloc (.cells #[.int .i64 0, .int .i64 0, .bool false, .bool false, .bool false, .int .i64 0, .int .i64 0, .int .i64 (a : Int), .int .i64 (b : Int), .int .i64 0] 30) := ⟨_, rfl⟩
  have k11 : Bx w7 (w6.heap.size + 1) 30 #[.int .i64 0, .int .i64 0, .bool false, .bool false, .bool false, .int .i64 0, .int .i64 0, .int .i64 (a : Int), .int .i64 (b : Int), .int .i64 0] := by rw [hw7, ← sr]; exact Bx.new wr _ _
  have b7 : Below wr.heap.size wr w7 := by rw [hw7]; exact below_new _ _
  have HST7 := Lib.hid ((HST6.out.below br).below b7)
  have HB7 := Lib.hid (bel0 (bel0 HB6.out br) b7)
  have hg11 : w6.heap.size + 1 ≠ g := by have := HL6.out; omega
  have HK7 := Lib.hid (And.intro ((HK6.out.1.below br).below b7) (And.intro ((HK6.out.2.1.below br).below b7) (And.intro ((HK6.out.2.2.below br).below b7) k11)))
  rw [← hwr, ← hw7]
  have HG11 := Lib.hid hg11
  clear hwr hw7 k11 br b7 sr hg11 HST6 HB6 HK6 HL6 HLR
  refine (HE3.out A g h _ _ _ _ w7 HST7.out).mono ?_
  rintro e w8 ⟨rfl, hs8, hk8⟩
  have HB8 := Lib.hid (Kp.below HB7.out hk8 (by simpa using HG2.out))
  have HK8 := Lib.hid (And.intro (HK7.out.1.kp hk8 (by simpa using HG6.out)) (And.intro (HK7.out.2.1.kp hk8 (by rw [hB7]; simpa using HG7.out.1)) (And.intro (HK7.out.2.2.1.kp hk8 (by simpa using HG7.out.2)) (HK7.out.2.2.2.kp hk8 (by simpa using HG11.out)))))
  clear hs8 hk8 HST7 HB7 HK7 HE3
  have L6 := Lib.hid (fun X (hX : Below w8.heap.size w8 X) => run_loadVar_row (P := Tryz.prog) X B6 _ 30 _ _ _ (HK8.out.1.below hX) Tryz.underlying30 rfl (by kernel_rfl))
  have L8 := Lib.hid (fun X (hX : Below w8.heap.size w8 X) => run_loadVar_row (P := Tryz.prog) X (w4.heap.size + 1) _ 30 _ _ _ (HK8.out.2.2.1.below hX) Tryz.underlying30 rfl (by kernel_rfl))
  have L11 := Lib.hid (fun X (hX : Below w8.heap.size w8 X) i v (hv : (#[.int .i64 0, .int .i64 0, .bool false, .bool false, .bool false, .int .i64 0, .int .i64 0, .int .i64 (a : Int), .int .i64 (b : Int), .int .i64 0] : Array Value)[i]? = some v) => run_loadVar_one (P := Tryz.prog) (w := X) (a := ⟨w6.heap.size + 1, i, none⟩) (ty := 3) (v := v) (((HK8.out.2.2.2.below hX).cell i).trans hv) Tryz.underlying3 rfl)
  have L6i := Lib.hid (fun X (hX : Below w8.heap.size w8 X) i v (hv : (#[.int .i64 0, .int .i64 0, .bool false, .bool false, .bool false, .int .i64 0, .int .i64 1, .int .i64 (a : Int), .int .i64 (b : Int), .int .i64 (k : Int)] : Array Value)[i]? = some v) => run_loadVar_one (P := Tryz.prog) (w := X) (a := ⟨B6, i, none⟩) (ty := 3) (v := v) (((HK8.out.1.below hX).cell i).trans hv) Tryz.underlying3 rfl)
  have hnv : (#[.int .u32 (R' 0), .int .u32 (R' 1), .int .u32 (R' 2), .int .u32 (R' 3), .int .u32 (R' 4), .int .u32 (R' 5), .int .u32 (R' 6), .int .u32 (R' 7), .int .u32 (R' 8), .int .u32 (R' 9), .int .u32 (R' 10), .int .u32 (R' 11), .int .u32 (R' 12), .int .u32 (R' 13), .int .u32 (R' 14), .int .u32 (R' 15)] : Array Value)[n]? = some (.int .u32 v) := by
    rw [← HV.out.1]
    rcases lt16 HN16.out with rfl | rfl | rfl | rfl | rfl | rfl | rfl | rfl | rfl | rfl | rfl | rfl | rfl | rfl | rfl | rfl <;> rfl
  have L7 := Lib.hid (fun X (hX : Below w8.heap.size w8 X) => run_loadVar_one (P := Tryz.prog) (w := X) (a := ⟨w4.heap.size, n, none⟩) (ty := 26) (v := .int .u32 v) (by rw [← hB7]; exact ((HK8.out.2.1.below hX).cell n).trans hnv) Tryz.underlying26 rfl)
  have hn16 : (n : Int) < 16 := by have := HN16.out; omega
  have hv30 : v / 1073741824 = 1 := HV.out.2
  clear HK8 hnv
  go_wp2_with (first | (refine wpList_valW (by rfl) (exec_load 30 _ rfl ⟨w4.heap.size + 1, 0, none⟩ rfl (L8.out _ (bel0 (below_new _ _) (below_new _ _)))) ?_) | (refine wpList_valW (by rfl) (exec_load 30 _ rfl ⟨B6, 0, none⟩ rfl (L6.out _ (bel0 (below_new _ _) (below_new _ _)))) ?_) | (refine wpList_valW (by rfl) (exec_load 3 _ rfl ⟨w6.heap.size + 1, 7, none⟩ rfl (L11.out _ (bel0 (below_new _ _) (below_new _ _)) 7 _ rfl)) ?_) | (refine wpList_valW (by rfl) (exec_load 3 _ rfl ⟨w6.heap.size + 1, 8, none⟩ rfl (L11.out _ (bel0 (below_new _ _) (below_new _ _)) 8 _ rfl)) ?_) | (refine wpList_valW (by rfl) (exec_load 3 _ rfl ⟨w6.heap.size + 1, 9, none⟩ rfl (L11.out _ (bel0 (below_new _ _) (below_new _ _)) 9 _ rfl)) ?_) | (refine wpList_valW (by rfl) (exec_load 3 _ rfl ⟨B6, 7, none⟩ rfl (L6i.out _ (bel0 (below_new _ _) (below_new _ _)) 7 _ rfl)) ?_) | (refine wpList_valW (by rfl) (exec_load 3 _ rfl ⟨B6, 8, none⟩ rfl (L6i.out _ (bel0 (below_new _ _) (below_new _ _)) 8 _ rfl)) ?_) | (refine wpList_valW (by rfl) (exec_load 3 _ rfl ⟨B6, 9, none⟩ rfl (L6i.out _ (bel0 (below_new _ _) (below_new _ _)) 9 _ rfl)) ?_) | (refine wpList_valW (by rfl) (exec_load 26 _ rfl ⟨w4.heap.size, n, none⟩ rfl (L7.out _ (bel0 (below_new _ _) (below_new _ _)))) ?_))
  go_ret
  exact ⟨rfl, bel0 (bel0 (bel0 (below_new _ _) HB8.out) (below_new _ _)) (below_new _ _)⟩

end M
end Go.Proofs.YtfopjnfphlkcgaaGreat
