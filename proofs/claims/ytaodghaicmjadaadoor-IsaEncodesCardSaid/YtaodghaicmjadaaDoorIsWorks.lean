/- The first lines of the statements: the same bytes; the chapter's AR 1,2. -/
import Derived.Test.YtaodghaicmjadaaDoorIsDecode
namespace Go.Proofs.YtaodghaicmjadaaDoor
open Go.RowKit
set_option linter.unusedVariables false
namespace E

/-- SameBytes, of two slices of the same bytes. -/
theorem same_true (p q : Option Addr) (c d : Nat) (l : List UInt8) (w : World) (hn : l.length ≤ 9223372036854775807) (hp : Rd w p l) (hq : Rd w q l) :
    Calls Tryd.prog 19 #[.slice p l.length c, .slice q l.length d] w (New w (.bool true)) := by
  by_cases h0 : l = []
  · subst h0
    clear hq hp
    go_enter Tryd.func19, Tryd.ntmps19
    go_wp2
    go_loop [5] (fun i => i = .int .i64 0) (fun _ => 0)
    case atStart => rfl
    case round =>
      subst hrel
      go_wp2
      go_ret
      exact ⟨rfl, Below.refl _ _⟩
  obtain ⟨B, off, rfl, hc⟩ := hp.resolve_left h0
  obtain ⟨B2, off2, rfl, hd⟩ := hq.resolve_left h0
  obtain ⟨n, hln⟩ : ∃ n, n = l.length := ⟨_, rfl⟩
  have HL := Lib.hid hln
  rw [← hln] at hn hc hd ⊢
  clear hln h0
  go_enter Tryd.func19, Tryd.ntmps19
  go_wp2
  go_loopw [5] (fun i wr => (∃ m, wr = w.drewN m) ∧ ∃ k : Nat, k ≤ n ∧ i = .int .i64 k) (fun i _ => n - (intOf i).toNat)
  case atStart => exact ⟨⟨0, rfl⟩, 0, Nat.zero_le _, rfl⟩
  case round =>
    obtain ⟨⟨m, rfl⟩, k, hk, rfl⟩ := hrel
    by_cases hlt : k < n
    · have hcell := hc k hlt
      have hcell2 := hd k hlt
      clear hc hd
      go_wp2
      go_quiet (fail)
      go_wp2
      go_roundw
      case rel => exact ⟨⟨_, rfl⟩, k + 1, by omega, by go_num⟩
      case measure => simp [intOf]; omega
    · obtain rfl : k = n := by omega
      clear hc hd
      go_wp2
      go_ret
      exact ⟨rfl, belowDraw _ _⟩
def arQ : Ins := ⟨26, 1, 1, 2, 0, 0, 0, 0, 0, 0, 0, 0⟩
theorem ar_chk : chkV arQ = 0 := by decide +kernel
theorem ar_enc : lastB (enW (foO (ixC arQ.op)) arQ) (lenO arQ.op) = [26, 18] := by decide +kernel
theorem ar_dec : decQ [26, 18] = arQ ∧ decB [26, 18] = true := by decide +kernel
theorem ar_name : nmO (ixC 26) = [65, 82] := by decide +kernel
set_option maxRecDepth 100000 in
set_option maxHeartbeats 1000000 in
theorem works_any (w : World) : Calls Tryd.prog 14 #[] w (New w (.bool true)) := by
  have hE : ∀ W, Calls Tryd.prog 15 #[.agg #[.int .i64 26, .int .i64 1, .int .i64 1, .int .i64 2, .int .i64 0, .int .i64 0, .int .i64 0, .int .i64 0, .int .i64 0, .int .i64 0, .int .i64 0, .int .i64 0]] W (EncPost W arQ) := fun W => encode_any arQ W
  have hD : ∀ W p c, Rd W p [26, 18] → 2 ≤ c → c ≤ 9223372036854775807 → Calls Tryd.prog 20 #[.slice p 2 c] W (New W (.tuple #[.agg #[.int .i64 26, .int .i64 1, .int .i64 1, .int .i64 2, .int .i64 0, .int .i64 0, .int .i64 0, .int .i64 0, .int .i64 0, .int .i64 0, .int .i64 0, .int .i64 0], .bool true])) := fun W p c h1 h2 h3 => by
    have := decode_any p c [26, 18] W h1 h2 h3
    unfold decV at this
    rw [ar_dec.1, ar_dec.2] at this
    exact this
  have hN : ∀ W, Calls Tryd.prog 26 #[.int .i64 26] W (New W (.string ⟨#[65, 82]⟩)) := fun W => by
    have := name_any 26 W
    unfold nameV at this
    rw [ar_name] at this
    exact this
  have HE := Lib.hid hE
  have HD := Lib.hid hD
  have HN := Lib.hid hN
  clear hE hD hN
  go_enter Tryd.func14, Tryd.ntmps14
  go_wp2_with fail
  refine (HE.out _).mono ?_
  rintro e w2 (⟨h, _⟩ | ⟨_, sv, rfl, ho2, hb2⟩)
  · exact absurd ar_chk h
  rw [ar_enc] at ho2
  have b1 := (Bx.new w 28 arQ.cs).below hb2
  have hB2 := bel0 (below_new w (.cells arQ.cs 28)) hb2
  obtain ⟨p2, c2, rfl, hr2, hl2, hm2, _⟩ := ho2.full
  have HR2 := Lib.hid hr2
  have HB2 := Lib.hid hB2
  have H1 := Lib.hid b1
  have HM2 := Lib.hid (And.intro hl2 hm2)
  clear ho2 hb2 hr2 hB2 b1 hl2 hm2
  go_wp2_with fail
  have hb3 := below_new w2 (.cells #[.int .u8 26, .int .u8 18] 5)
  refine (HD.out _ _ _ (rd_new w2 [26, 18] 5) (by omega) (by omega)).mono ?_
  rintro e w4 ⟨rfl, hb4⟩
  have hb24 : Below w2.heap.size w2 w4 := bel0 hb3 hb4
  have HB24 := Lib.hid hb24
  clear hb3 hb4 hb24
  go_wp2_with fail
  have bJ := (Bx.new w4 28 arQ.cs).below (below_new _ (.cells #[.int .u8 26, .int .u8 18] 5))
  have hrq := rd_new (w4.alloc (.cells arQ.cs 28)) [26, 18] 5
  obtain ⟨w6, hw6⟩ : ∃ w6, w6 = (w4.alloc (.cells arQ.cs 28)).alloc (.cells #[.int .u8 26, .int .u8 18] 5) := ⟨_, rfl⟩
  rw [World.size_alloc] at hrq
  replace hrq : Rd w6 (some ⟨w4.heap.size + 1, 0, none⟩) [26, 18] := by rw [hw6]; exact hrq
  rw [← hw6] at bJ
  have hb46 : Below w4.heap.size w4 w6 := by rw [hw6]; exact bel0 (below_new w4 _) (below_new _ _)
  have hb26 := bel0 HB24.out hb46
  have hsame := same_true p2 (some ⟨w4.heap.size + 1, 0, none⟩) c2 2 [26, 18] w6 (by simp) (HR2.out.below hb26) hrq
  have bI := H1.out.below hb26
  have hB6 := bel0 HB2.out hb26
  unfold arQ Ins.cs at hw6
  dsimp only at hw6
  rw [← hw6]
  refine hsame.mono ?_
  rintro e w7 ⟨rfl, hb7⟩
  have hB7 := bel0 hB6 hb7
  have bJ7 := bJ.below hb7
  have bI7 := bI.below hb7
  obtain ⟨c0, c1, c2', c3, c4, c5, c6, c7, c8, c9, c10, c11⟩ := bx_cells bJ7
  obtain ⟨d0, d1, d2, d3, d4, d5, d6, d7, d8, d9, d10, d11⟩ := bx_cells bI7
  unfold arQ at c0 c1 c2' c3 c4 c5 c6 c7 c8 c9 c10 c11 d0 d1 d2 d3 d4 d5 d6 d7 d8 d9 d10 d11
  dsimp only at c0 c1 c2' c3 c4 c5 c6 c7 c8 c9 c10 c11 d0 d1 d2 d3 d4 d5 d6 d7 d8 d9 d10 d11
  have HB7 := Lib.hid hB7
  clear hb7 hB7 bJ7 bI7 hsame bI hB6 hrq bJ hw6 hb46 hb26
  go_wp2_with fail
  refine (HN.out _).mono ?_
  rintro e w8 ⟨rfl, hb8⟩
  have HB8 := Lib.hid (bel0 HB7.out hb8)
  clear hb8
  go_wp2
  go_ret
  exact ⟨rfl, HB8.out⟩

end E
end Go.Proofs.YtaodghaicmjadaaDoor
