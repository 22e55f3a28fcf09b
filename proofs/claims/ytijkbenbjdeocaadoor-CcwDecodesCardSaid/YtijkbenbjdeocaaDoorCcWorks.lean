/- The first lines of the statements: the same bytes; the chapter's read command. -/
import Derived.Test.YtijkbenbjdeocaaDoorCcDec
namespace Go.Proofs.YtijkbenbjdeocaaDoor
open Go.RowKit
set_option linter.unusedVariables false
namespace E

/-- SameBytes, of two slices of the same bytes. -/
theorem same_true (p q : Option Addr) (c d : Nat) (l : List UInt8) (w : World) (hn : l.length ≤ 9223372036854775807) (hp : Rd w p l) (hq : Rd w q l) :
    Calls Tryd.prog 14 #[.slice p l.length c, .slice q l.length d] w (New w (.bool true)) := by
  by_cases h0 : l = []
  · subst h0
    clear hq hp
    go_enter Tryd.func14, Tryd.ntmps14
    go_wp2
    go_loop [5] (fun i => i = .int .i64 0) (fun _ => 0)
    case atStart => rfl
    case round =>
      subst hrel
      go_wp2
      go_ret
      exact ⟨rfl, Below.refl _ _⟩
  obtain ⟨B, off, rfl, hc⟩ := hp.resolve_left h0
  obtain ⟨B2, off2, rfl, hd⟩ := hq.resolve_left h0
  obtain ⟨n, hln⟩ : ∃ n, n = l.length := ⟨_, rfl⟩
  have HL := Lib.hid hln
  rw [← hln] at hn hc hd ⊢
  clear hln h0
  go_enter Tryd.func14, Tryd.ntmps14
  go_wp2
  go_loopw [5] (fun i wr => (∃ m, wr = w.drewN m) ∧ ∃ k : Nat, k ≤ n ∧ i = .int .i64 k) (fun i _ => n - (intOf i).toNat)
  case atStart => exact ⟨⟨0, rfl⟩, 0, Nat.zero_le _, rfl⟩
  case round =>
    obtain ⟨⟨m, rfl⟩, k, hk, rfl⟩ := hrel
    by_cases hlt : k < n
    · have hcell := hc k hlt
      have hcell2 := hd k hlt
      clear hc hd
      go_wp2
      go_quiet (fail)
      go_wp2
      go_roundw
      case rel => exact ⟨⟨_, rfl⟩, k + 1, by omega, by go_num⟩
      case measure => simp [intOf]; omega
    · obtain rfl : k = n := by omega
      clear hc hd
      go_wp2
      go_ret
      exact ⟨rfl, belowDraw _ _⟩
theorem same_svb {w : World} {u v : Value} {l : List UInt8} (h1 : SvB w u l) (h2 : SvB w v l) : Calls Tryd.prog 14 #[u, v] w (New w (.bool true)) := by
  obtain ⟨p, c, rfl, r1, h3, h4, _⟩ := h1
  obtain ⟨q, d, rfl, r2, _⟩ := h2
  exact same_true p q c d l w (by omega) r1 r2
def exQ : Cw := ⟨2, 4096, false, true, false, false, false, 80⟩
def exB : List UInt8 := [2, 0, 16, 0, 64, 0, 0, 80]
theorem ex_enc : encC exQ = 0 ∧ encS exQ = exB := by decide +kernel
theorem ex_dec : decR exB = (exQ, true) := by decide +kernel
theorem ex_svb (w : World) : SvB (w.alloc (.cells #[.int .u8 2, .int .u8 0, .int .u8 16, .int .u8 0, .int .u8 64, .int .u8 0, .int .u8 0, .int .u8 80] 5)) (.slice (some ⟨w.heap.size, 0, none⟩) 8 8) exB := svb_new w exB (by decide)
set_option maxRecDepth 100000 in
set_option maxHeartbeats 1000000 in
theorem works_any (w : World) (hf : Fb w) : Calls Tryd.prog 11 #[] w (New w (.bool true)) := by
  have HEn : Hid (∀ W, Fb W → Calls Tryd.prog 12 #[.agg #[.int .i64 2, .int .i64 4096, .bool false, .bool true, .bool false, .bool false, .bool false, .int .i64 80]] W fun e w' => ∃ sv, e = .returned (.tuple #[sv, .int .i64 0]) ∧ SvB w' sv exB ∧ Below W.heap.size W w') := Lib.hid (fun W h => by
    have h1 := encode_any exQ W h
    rw [ex_enc.1, ex_enc.2] at h1
    exact h1)
  have HDe : Hid (∀ W sv, SvB W sv exB → Fb W → Calls Tryd.prog 15 #[sv] W (New W (.tuple #[.agg #[.int .i64 2, .int .i64 4096, .bool false, .bool true, .bool false, .bool false, .bool false, .int .i64 80], .bool true]))) := Lib.hid (fun W sv h hf => by
    have h1 := decode_any h hf
    rw [ex_dec] at h1
    exact h1)
  have HX := Lib.hid (Bx.new w 26 #[.int .i64 2, .int .i64 4096, .bool false, .bool true, .bool false, .bool false, .bool false, .int .i64 80])
  have HB := Lib.hid (below_new w (.cells #[.int .i64 2, .int .i64 4096, .bool false, .bool true, .bool false, .bool false, .bool false, .int .i64 80] 26))
  have HF := Lib.hid hf
  clear hf
  go_enter Tryd.func11, Tryd.ntmps11
  go_wp2_with fail
  obtain ⟨W0, hW⟩ : ∃ W0, W0 = w.alloc (.cells #[.int .i64 2, .int .i64 4096, .bool false, .bool true, .bool false, .bool false, .bool false, .int .i64 80] 26) := ⟨_, rfl⟩
  rw [← hW] at HX HB ⊢
  clear hW
  generalize hE : w.heap.size = E at HX ⊢
  clear hE
  refine (HEn.out _ (HF.out.below HB.out)).mono ?_
  rintro e W1 ⟨sv, rfl, hsv, hb⟩
  have HS1 := Lib.hid hsv
  have HB1 := Lib.hid (bel0 HB.out hb)
  have HX1 := Lib.hid (HX.out.below hb)
  clear hsv hb HB HX HEn
  go_wp2_with fail
  refine (HDe.out _ _ (ex_svb W1) (HF.out.below (bel0 HB1.out (below_new _ _)))).mono ?_
  rintro e W2 ⟨rfl, hb⟩
  have hbb := bel0 (below_new W1 (.cells #[.int .u8 2, .int .u8 0, .int .u8 16, .int .u8 0, .int .u8 64, .int .u8 0, .int .u8 0, .int .u8 80] 5)) hb
  have HB2 := Lib.hid (bel0 HB1.out hbb)
  have HX2 := Lib.hid (HX1.out.below hbb)
  have HS2 := Lib.hid (HS1.out.below hbb)
  clear hb hbb HB1 HX1 HS1 HDe HF
  go_wp2_with fail
  obtain ⟨W3, hW3⟩ : ∃ W3, W3 = W2.alloc (.cells #[.int .i64 2, .int .i64 4096, .bool false, .bool true, .bool false, .bool false, .bool false, .int .i64 80] 26) := ⟨_, rfl⟩
  have hs3 : W3.heap.size = W2.heap.size + 1 := by subst hW3; exact World.size_alloc _ _
  have HD3 : Hid (Bx W3 W2.heap.size 26 #[.int .i64 2, .int .i64 4096, .bool false, .bool true, .bool false, .bool false, .bool false, .int .i64 80]) := Lib.hid (by subst hW3; exact Bx.new _ _ _)
  have HB3 : Hid (Below w.heap.size w W3) := Lib.hid (by subst hW3; exact bel0 HB2.out (below_new _ _))
  have HX3 : Hid (Bx W3 E 26 #[.int .i64 2, .int .i64 4096, .bool false, .bool true, .bool false, .bool false, .bool false, .int .i64 80]) := Lib.hid (by subst hW3; exact HX2.out.below (below_new _ _))
  have HS3 : Hid (SvB W3 sv exB) := Lib.hid (by subst hW3; exact HS2.out.below (below_new _ _))
  rw [← hs3, ← hW3]
  clear hs3 hW3 HB2 HX2 HS2
  generalize hG : W2.heap.size = G at HD3 ⊢
  clear hG
  refine (same_svb (HS3.out.below (below_new _ _)) (ex_svb W3)).mono ?_
  rintro e W4 ⟨rfl, hb⟩
  have hbb := bel0 (below_new W3 (.cells #[.int .u8 2, .int .u8 0, .int .u8 16, .int .u8 0, .int .u8 64, .int .u8 0, .int .u8 0, .int .u8 80] 5)) hb
  have HB4 := Lib.hid (bel0 HB3.out hbb)
  have HX4 := Lib.hid (HX3.out.below hbb)
  have HD4 := Lib.hid (HD3.out.below hbb)
  clear hb hbb HB3 HX3 HD3 HS3
  have c0 := HX4.out.cell 0
  change _ = some (Value.int .i64 2) at c0
  have c1 := HX4.out.cell 1
  change _ = some (Value.int .i64 4096) at c1
  have c2 := HX4.out.cell 2
  change _ = some (Value.bool false) at c2
  have c3 := HX4.out.cell 3
  change _ = some (Value.bool true) at c3
  have c4 := HX4.out.cell 4
  change _ = some (Value.bool false) at c4
  have c5 := HX4.out.cell 5
  change _ = some (Value.bool false) at c5
  have c6 := HX4.out.cell 6
  change _ = some (Value.bool false) at c6
  have c7 := HX4.out.cell 7
  change _ = some (Value.int .i64 80) at c7
  have d0 := HD4.out.cell 0
  change _ = some (Value.int .i64 2) at d0
  have d1 := HD4.out.cell 1
  change _ = some (Value.int .i64 4096) at d1
  have d2 := HD4.out.cell 2
  change _ = some (Value.bool false) at d2
  have d3 := HD4.out.cell 3
  change _ = some (Value.bool true) at d3
  have d4 := HD4.out.cell 4
  change _ = some (Value.bool false) at d4
  have d5 := HD4.out.cell 5
  change _ = some (Value.bool false) at d5
  have d6 := HD4.out.cell 6
  change _ = some (Value.bool false) at d6
  have d7 := HD4.out.cell 7
  change _ = some (Value.int .i64 80) at d7
  go_wp2
  go_ret
  exact ⟨rfl, HB4.out⟩
end E
end Go.Proofs.YtijkbenbjdeocaaDoor
