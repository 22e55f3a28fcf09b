/- The examples of the chapter, which each statement asks for. -/
import Derived.Test.YtbehboajhpppjaaRows
import Derived.WalkKit
import Derived.ProofKit
import Derived.Lib.Hide
import Derived.Deep.Cut
import Derived.Deep.DeepMust
import Derived.Deep.QuietTactic
import Derived.BigQuiet
import Derived.OwnWalk
import Derived.Laws.CopyOwn
import Derived.Laws.AppendOwn
import Derived.Laws.OwnMore
import Derived.Laws.AppendOwnNone
import Derived.Deep.Draws
import Derived.Laws.IdiomStrings
import Derived.Below
import Derived.Test.YtbehboajhpppjaaEbDec
import Derived.Test.YtbehboajhpppjaaEbPad
namespace Go.Proofs.Ytbehboajhpppjaa
open Go.RowKit
set_option linter.unusedVariables false
namespace E

/-- What Encode and Pad leave at a known text: m bytes l. -/
def XPost (w : World) (m : Nat) (l : List UInt8) (e : Ending) (w' : World) : Prop :=
  ∃ p c, e = .returned (.tuple #[.slice p m c, .int .i64 0]) ∧ Rd w' p l ∧ Below w.heap.size w w'
theorem x_hello (w : World) : Calls Try.prog 16 #[.string ⟨#[72, 69, 76, 76, 79, 44, 32, 55]⟩] w (XPost w 8 [200, 197, 211, 211, 214, 107, 64, 247]) := by
  refine (encode_any ⟨#[72, 69, 76, 76, 79, 44, 32, 55]⟩ w (by decide)).mono ?_
  rintro e w' (⟨_, sv, rfl, ho, hb⟩ | ⟨ha, _⟩)
  · obtain ⟨p, c, rfl, hr, _⟩ := ho.rd
    exact ⟨p, c, rfl, hr, hb⟩
  · exact absurd ha (by decide +kernel)
theorem x_lf (w : World) : Calls Try.prog 16 #[.string ⟨#[10]⟩] w (New w (.tuple #[.slice none 0 0, .int .i64 20])) := by
  refine (encode_any ⟨#[10]⟩ w (by decide)).mono ?_
  rintro e w' (⟨ha, _⟩ | ⟨_, h⟩)
  · exact absurd ha (by decide +kernel)
  · exact h
theorem x_pad (w : World) : Calls Try.prog 23 #[.string ⟨#[65]⟩, .int .i64 3] w (XPost w 3 [193, 64, 64]) := by
  refine (pad_yes ⟨#[65]⟩ 3 (by decide) (by decide) (by decide) (by decide +kernel) w).mono ?_
  rintro e w' ⟨sv, rfl, ho, hb⟩
  obtain ⟨p, c, rfl, hr, _⟩ := ho.rd
  exact ⟨p, c, rfl, hr, hb⟩
theorem x_dec (w : World) : Calls Try.prog 19 #[.slice (some ⟨w.heap.size, 0, none⟩) 3 3] (w.alloc (.cells (bsU [64, 75, 255]).toArray 5)) (New (w.alloc (.cells (bsU [64, 75, 255]).toArray 5)) (.string ⟨#[32, 46, 46]⟩)) :=
  (decode_any (some ⟨w.heap.size, 0, none⟩) 3 [64, 75, 255] _ (by decide) (rd_new w _ _)).mono fun e w' ⟨he, hb⟩ => ⟨he.trans (by kernel_rfl), hb⟩
theorem x_trim (w : World) : Calls Try.prog 20 #[.slice (some ⟨w.heap.size, 0, none⟩) 4 4] (w.alloc (.cells (bsU [64, 193, 64, 64]).toArray 5)) (New (w.alloc (.cells (bsU [64, 193, 64, 64]).toArray 5)) (.string ⟨#[32, 65]⟩)) :=
  (trim_any (some ⟨w.heap.size, 0, none⟩) 4 [64, 193, 64, 64] _ (by decide) (by decide) (by decide) (fun h => by cases h) (rd_new w _ _)).mono fun e w' ⟨he, hb⟩ => ⟨he.trans (by kernel_rfl), hb⟩
theorem x_same1 (w : World) (p : Option Addr) (c : Nat) (hr : Rd w p [200, 197, 211, 211, 214, 107, 64, 247]) : Calls Try.prog 18 #[.slice p 8 c, .slice (some ⟨w.heap.size, 0, none⟩) 8 8] (w.alloc (.cells (bsU [200, 197, 211, 211, 214, 107, 64, 247]).toArray 5)) (New (w.alloc (.cells (bsU [200, 197, 211, 211, 214, 107, 64, 247]).toArray 5)) (.bool true)) :=
  same_true p (some ⟨w.heap.size, 0, none⟩) c 8 [200, 197, 211, 211, 214, 107, 64, 247] _ (by decide) (hr.below (below_new w _)) (rd_new w _ _)
theorem x_same2 (w : World) (p : Option Addr) (c : Nat) (hr : Rd w p [193, 64, 64]) : Calls Try.prog 18 #[.slice p 3 c, .slice (some ⟨w.heap.size, 0, none⟩) 3 3] (w.alloc (.cells (bsU [193, 64, 64]).toArray 5)) (New (w.alloc (.cells (bsU [193, 64, 64]).toArray 5)) (.bool true)) :=
  same_true p (some ⟨w.heap.size, 0, none⟩) c 3 [193, 64, 64] _ (by decide) (hr.below (below_new w _)) (rd_new w _ _)
set_option maxRecDepth 100000 in
/-- The examples of the chapter hold. -/
theorem works_any (w : World) : Calls Try.prog 15 #[] w (New w (.bool true)) := by
  go_enter Try.func15, Try.ntmps15
  go_wp2_with fail
  refine (x_hello _).mono ?_
  rintro e w1 ⟨p, c, rfl, hr1, hb1⟩
  have HB1 := Lib.hid hb1
  have HR1 := Lib.hid hr1
  clear hb1 hr1
  go_wp2_with fail
  refine (x_lf _).mono ?_
  rintro e w2 ⟨rfl, hb2⟩
  have HB2 := Lib.hid (HB1.out.trans (hb2.mono HB1.out.size))
  have HR2 := Lib.hid (HR1.out.below hb2)
  clear hb2 HB1 HR1
  go_wp2_with fail
  refine (x_pad _).mono ?_
  rintro e w3 ⟨q, d, rfl, hq, hb3⟩
  have HB3 := Lib.hid (HB2.out.trans (hb3.mono HB2.out.size))
  have HR3 := Lib.hid (HR2.out.below hb3)
  have HQ3 := Lib.hid hq
  clear hb3 hq HB2 HR2
  go_wp2_with fail
  refine (x_same1 w3 p c HR3.out).mono ?_
  rintro e w4 ⟨rfl, hb4⟩
  have hb4' := (below_new w3 _).trans (hb4.mono (below_new w3 _).size)
  have HB4 := Lib.hid (HB3.out.trans (hb4'.mono HB3.out.size))
  have HQ4 := Lib.hid (HQ3.out.below hb4')
  clear hb4 hb4' HB3 HR3 HQ3
  go_wp2_with fail
  refine (x_same2 w4 q d HQ4.out).mono ?_
  rintro e w5 ⟨rfl, hb5⟩
  have hb5' := (below_new w4 _).trans (hb5.mono (below_new w4 _).size)
  have HB5 := Lib.hid (HB4.out.trans (hb5'.mono HB4.out.size))
  clear hb5 hb5' HB4 HQ4
  go_wp2_with fail
  refine (x_dec w5).mono ?_
  rintro e w6 ⟨rfl, hb6⟩
  have hb6' := (below_new w5 _).trans (hb6.mono (below_new w5 _).size)
  have HB6 := Lib.hid (HB5.out.trans (hb6'.mono HB5.out.size))
  clear hb6 hb6' HB5
  go_wp2_with fail
  refine (x_trim w6).mono ?_
  rintro e w7 ⟨rfl, hb7⟩
  have hb7' := (below_new w6 _).trans (hb7.mono (below_new w6 _).size)
  have HB7 := Lib.hid (HB6.out.trans (hb7'.mono HB6.out.size))
  clear hb7 hb7' HB6
  go_wp2
  go_ret
  exact ⟨rfl, HB7.out⟩

end E
end Go.Proofs.Ytbehboajhpppjaa
