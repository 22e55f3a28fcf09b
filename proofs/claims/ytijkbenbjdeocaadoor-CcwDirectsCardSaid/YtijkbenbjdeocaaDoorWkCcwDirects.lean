/- Chapter 12: the direction of every command code. -/
import Derived.Test.YtijkbenbjdeocaaDoorCcWorks
namespace Go.Proofs.YtijkbenbjdeocaaDoor
open Go.RowKit E
set_option linter.unusedVariables false
namespace ccwDirects

theorem walk (o : Int) (w : World) (hf : Fb w) : Calls Tryd.prog 3 #[.int .i64 o] w (New w (.bool true)) := by
  have HD := Lib.hid (fun W => dir_any o W)
  have HR := Lib.hid (fun W => rdir_any o W)
  have HF := Lib.hid hf
  clear hf
  generalize dirI o = d at *
  go_enter Tryd.func3, Tryd.ntmps3
  go_wp2_with fail
  refine (HD.out _).mono ?_
  rintro e W1 ⟨rfl, hb⟩
  have HB := Lib.hid hb
  clear hb
  go_wp2_with fail
  refine (HR.out _).mono ?_
  rintro e W2 ⟨rfl, rfl⟩
  go_wp2_with fail
  refine (works_any _ (HF.out.below HB.out)).mono ?_
  rintro e W2 ⟨rfl, hb⟩
  have HB2 := Lib.hid (bel0 HB.out hb)
  clear hb
  go_wp2
  go_ret
  exact ⟨rfl, HB2.out⟩
end ccwDirects
end Go.Proofs.YtijkbenbjdeocaaDoor
