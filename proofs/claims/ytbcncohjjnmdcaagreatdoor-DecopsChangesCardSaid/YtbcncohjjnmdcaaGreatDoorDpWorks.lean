/- The example of the chapter. -/
import Derived.Test.YtbcncohjjnmdcaaGreatDoorRows
import Derived.Test.YtbcncohjjnmdcaaGreatDoorDpKnows
import Derived.Test.YtbcncohjjnmdcaaGreatDoorDpSame
import Derived.Test.YtbcncohjjnmdcaaGreatDoorDpV
namespace Go.Proofs.YtbcncohjjnmdcaaGreatDoor
namespace E
end E
open Go.RowKit Go.Shelf E
set_option linter.unusedVariables false
namespace M

theorem stP_zero (l : UInt8) : stP 0 l = true := rfl
theorem code_zero {P : UInt8 → Bool} {n : Nat} {ks : List UInt8} {a k : Nat} (hP : ∀ l, P l = true) (h : a + k ≤ n) : codeV P n ks (a : Int) (k : Int) = 0 := by
  unfold codeV
  rw [if_pos (inB_iff.2 ⟨by omega, by omega, by omega⟩), if_pos]
  unfold allB
  rw [List.all_eq_true]
  exact fun i _ => hP _
theorem put_lit (A g h x : Nat) (v : Value) (b bs bs2 : List UInt8) (w : World) (hs : Sto w A g h 2048 1 bs (List.replicate 1 0)) (hv : SvB w v b) (hx : x + b.length ≤ 2048) (hb : E.putL bs x b = bs2) : Calls Tryz.prog 27 #[.pointer (some ⟨A, 0, none⟩), .int .i64 (x : Int), v, .int .i64 0] w fun e w' => e = .returned (.int .i64 0) ∧ Sto w' A g h 2048 1 bs2 (List.replicate 1 0) ∧ Kp w w' [g] := by
  have h1 := put_any A g h 2048 1 (x : Int) 0 v b bs (List.replicate 1 0) w (by omega) hs hv
  have hc : codeV (stP 0) 2048 (List.replicate 1 0) (x : Int) (b.length : Int) = 0 := code_zero stP_zero hx
  unfold putB at h1
  rw [hc, if_pos rfl, Int.toNat_natCast, hb] at h1
  refine h1.mono ?_
  rintro e w' ⟨rfl, hg, hs'⟩
  exact ⟨rfl, hs', Kp.of hg (List.mem_singleton.2 rfl)⟩
theorem runs_250 (q : Qn) (R : Nat → Int) (p : Psw) (n : Nat) (bs ks : List UInt8) (hR : RegOk R) (hq : QOk q) (hop : q.op = 250) : Runs q R p n bs ks (apO q R p n bs ks) :=
  ⟨nz_then (nz_bec _ _ _ _ _ _ _ _ _), 50, enters_of Tryz.func50 (by kernel_rfl) rfl, fun X => by rw [hop]; exact action_250 X, fun E A g h m X hgX hX hsX => add_act E A q R p g h n m bs ks X hX hsX hgX hR hq⟩
def kb0 : List UInt8 := List.replicate 2048 0
def kb1 : List UInt8 := E.putL kb0 100 [153, 156]
def kb2 : List UInt8 := E.putL kb1 200 [28]
def kb3 : List UInt8 := E.putL kb2 100 [0, 12]
def wkR : Nat → Int := fun j => if j = 5 then 1 else 0
theorem wkR_ok : RegOk wkR := fun n => by
  unfold wkR
  split <;> omega
theorem wk_out : apO (⟨250, 6, 0, 0, 0, 0, 100, 0, 200, 1, 0, 0⟩ : Qn) wkR ⟨0, 0, false, false, false, 0, 0, 0, 4, 0⟩ 2048 kb2 (List.replicate 1 0) = .go wkR ⟨0, 0, false, false, false, 0, 0, 3, 4, 0⟩ 10 kb3 := by kernel_rfl
theorem work_exec {A g h : Nat} {w : World} (hs : Sto w A g h 2048 1 kb2 (List.replicate 1 0)) (hg : Sg w) : Calls Tryz.prog 15 #[.agg #[.int .i64 250, .int .i64 6, .int .i64 0, .int .i64 0, .int .i64 0, .int .i64 0, .int .i64 100, .int .i64 0, .int .i64 200, .int .i64 1, .int .i64 0, .int .i64 0], .agg #[.int .u32 0, .int .u32 0, .int .u32 0, .int .u32 0, .int .u32 0, .int .u32 1, .int .u32 0, .int .u32 0, .int .u32 0, .int .u32 0, .int .u32 0, .int .u32 0, .int .u32 0, .int .u32 0, .int .u32 0, .int .u32 0], .agg #[.int .i64 0, .int .i64 0, .bool false, .bool false, .bool false, .int .i64 0, .int .i64 0, .int .i64 0, .int .i64 4, .int .i64 0], .pointer (some ⟨A, 0, none⟩)] w fun e w' => e = .returned (.tuple #[.agg #[.int .u32 0, .int .u32 0, .int .u32 0, .int .u32 0, .int .u32 0, .int .u32 1, .int .u32 0, .int .u32 0, .int .u32 0, .int .u32 0, .int .u32 0, .int .u32 0, .int .u32 0, .int .u32 0, .int .u32 0, .int .u32 0], .agg #[.int .i64 0, .int .i64 0, .bool false, .bool false, .bool false, .int .i64 0, .int .i64 0, .int .i64 3, .int .i64 4, .int .i64 0], .int .i64 10]) ∧ Sto w' A g h 2048 1 kb3 (List.replicate 1 0) ∧ Kp w w' [g] := by
  have hq : QOk (⟨250, 6, 0, 0, 0, 0, 100, 0, 200, 1, 0, 0⟩ : Qn) := ⟨by decide, by decide, by decide, by decide, by decide, by decide, by decide, by decide, by decide, by decide, by decide⟩
  have hr := runs_250 (⟨250, 6, 0, 0, 0, 0, 100, 0, 200, 1, 0, 0⟩ : Qn) wkR ⟨0, 0, false, false, false, 0, 0, 0, 4, 0⟩ 2048 kb2 (List.replicate 1 0) wkR_ok hq rfl
  rw [wk_out] at hr
  refine (exec_of hs hg (by kernel_rfl) (by kernel_rfl) hr).mono ?_
  rintro e w' ⟨rfl, h1, h2⟩
  exact ⟨by kernel_rfl, h1, h2⟩
theorem eql_regs (w : World) : (binOp .eql 28 (.agg #[.int .u32 0, .int .u32 0, .int .u32 0, .int .u32 0, .int .u32 0, .int .u32 1, .int .u32 0, .int .u32 0, .int .u32 0, .int .u32 0, .int .u32 0, .int .u32 0, .int .u32 0, .int .u32 0, .int .u32 0, .int .u32 0]) (.agg #[.int .u32 0, .int .u32 0, .int .u32 0, .int .u32 0, .int .u32 0, .int .u32 1, .int .u32 0, .int .u32 0, .int .u32 0, .int .u32 0, .int .u32 0, .int .u32 0, .int .u32 0, .int .u32 0, .int .u32 0, .int .u32 0])).run Tryz.prog w = .ok (.bool true) w := by kernel_rfl
theorem eql_psw (w : World) : (binOp .eql 30 (.agg #[.int .i64 0, .int .i64 0, .bool false, .bool false, .bool false, .int .i64 0, .int .i64 0, .int .i64 3, .int .i64 4, .int .i64 0]) (.agg #[.int .i64 0, .int .i64 0, .bool false, .bool false, .bool false, .int .i64 0, .int .i64 0, .int .i64 3, .int .i64 4, .int .i64 0])).run Tryz.prog w = .ok (.bool true) w := by kernel_rfl
theorem wk_byts (A g h : Nat) (X : World) (hX : Sto X A g h 2048 1 kb3 (List.replicate 1 0)) : Calls Tryz.prog 18 #[.pointer (some ⟨A, 0, none⟩), .int .i64 99, .int .i64 4] X (BytPost X [0, 0, 12, 0]) := by
  have h1 := bytes_any A g h 2048 1 99 4 kb3 (List.replicate 1 0) X (by decide) hX
  rw [show bytL 2048 kb3 99 4 = [0, 0, 12, 0] by kernel_rfl] at h1
  exact h1
attribute [local go_sem 5000] eql_regs eql_psw
set_option maxRecDepth 100000 in
set_option maxHeartbeats 4000000 in
theorem works_any (w : World) (hsg : Sg w) : Calls Tryz.prog 13 #[] w (New w (.bool true)) := by
  have HSG := Lib.hid hsg
  have HN := Lib.hid (new_any 2048 w (by decide))
  have HK1 := Lib.hid (fun X => knows_any 250 X)
  rw [show knB 250 = true by kernel_rfl] at HK1
  have HK2 := Lib.hid (fun X => knows_any 254 X)
  rw [show knB 254 = false by kernel_rfl] at HK2
  clear hsg
  go_enter Tryz.func13, Tryz.ntmps13
  go_wp2_with fail
  refine HN.out.mono ?_
  rintro e w1 ⟨A, g, h, rfl, hst, hA, hg, hh, hb⟩
  have HG := Lib.hid hg
  have HST : Hid (Sto w1 A g h 2048 1 kb0 (List.replicate 1 0)) := Lib.hid hst
  have HB := Lib.hid hb
  clear hst hA hg hh hb HN
  go_wp2_with fail
  obtain ⟨y1, hy1⟩ : ∃ y, y = w1.alloc (.cells #[.int .u8 153, .int .u8 156] 5) := ⟨_, rfl⟩
  have b1 : Below w1.heap.size w1 y1 := by rw [hy1]; exact below_new _ _
  have HV1 : Hid (SvB y1 (.slice (some ⟨w1.heap.size, 0, none⟩) 2 2) [153, 156]) := Lib.hid (by rw [hy1]; exact svb_new w1 [153, 156] (by decide))
  rw [← hy1]
  have HP1 := Lib.hid (put_lit A g h 100 _ _ kb0 kb1 y1 (HST.out.below b1) HV1.out (by decide) rfl)
  have HB1 := Lib.hid (bel0 HB.out b1)
  clear hy1 b1 HB HST HV1
  refine HP1.out.mono ?_
  rintro e w2 ⟨rfl, hst, hk⟩
  have HST := Lib.hid hst
  have HB := Lib.hid (Kp.below HB1.out hk (by simpa using HG.out))
  clear hst hk HP1 HB1
  go_wp2_with fail
  obtain ⟨y2, hy2⟩ : ∃ y, y = w2.alloc (.cells #[.int .u8 28] 5) := ⟨_, rfl⟩
  have b1 : Below w2.heap.size w2 y2 := by rw [hy2]; exact below_new _ _
  have HV1 : Hid (SvB y2 (.slice (some ⟨w2.heap.size, 0, none⟩) 1 1) [28]) := Lib.hid (by rw [hy2]; exact svb_new w2 [28] (by decide))
  rw [← hy2]
  have HP1 := Lib.hid (put_lit A g h 200 _ _ kb1 kb2 y2 (HST.out.below b1) HV1.out (by decide) rfl)
  have HB1 := Lib.hid (bel0 HB.out b1)
  clear hy2 b1 HB HST HV1
  refine HP1.out.mono ?_
  rintro e w3 ⟨rfl, hst, hk⟩
  have HB := Lib.hid (Kp.below HB1.out hk (by simpa using HG.out))
  have HE := Lib.hid (work_exec hst (HSG.out.below HB.out))
  clear hst hk HP1 HB1
  go_wp2_with fail
  refine HE.out.mono ?_
  rintro e w4 ⟨rfl, hst, hk⟩
  have HST := Lib.hid hst
  have HB4 := Lib.hid (Kp.below HB.out hk (by simpa using HG.out))
  clear hst hk HE HB
  go_wp2_with fail
  refine (wk_byts A g h _ (HST.out.below (bel0 (below_new _ _) (below_new _ _)))).mono ?_
  rintro e w5 ⟨v5, rfl, ho, hb⟩
  have HV5 := Lib.hid ho.svb
  have HB5 := Lib.hid (bel0 HB4.out (bel0 (bel0 (below_new _ _) (below_new _ _)) hb))
  clear ho hb HST HB4
  go_wp2_with fail
  refine (same_svb (HV5.out.below (below_new _ _)) (svb_new w5 [0, 0, 12, 0] (by decide))).mono ?_
  rintro e w6 ⟨rfl, rfl⟩
  go_wp2_with fail
  refine (HK1.out _).mono ?_
  rintro e w7 ⟨rfl, rfl⟩
  go_wp2_with fail
  refine (HK2.out _).mono ?_
  rintro e w8 ⟨rfl, rfl⟩
  go_wp2
  go_ret
  exact ⟨rfl, bel0 HB5.out (below_new _ _)⟩

end M
end Go.Proofs.YtbcncohjjnmdcaaGreatDoor
