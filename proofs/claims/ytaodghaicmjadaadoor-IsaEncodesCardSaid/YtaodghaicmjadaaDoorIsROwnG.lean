/- Own of the given answers, of every format. -/
import Derived.Test.YtaodghaicmjadaaDoorIsROwn
import Derived.Test.YtaodghaicmjadaaDoorIsROwnE
import Derived.Test.YtaodghaicmjadaaDoorIsROwnF
namespace Go.Proofs.YtaodghaicmjadaaDoor
open Go.RowKit Go.Shelf
set_option linter.unusedVariables false
namespace E

theorem own_ref (F : Nat) (h1 : 1 ≤ F) (h9 : F ≤ 9) (Q : Ins) (hf : Q.fo = (F : Int)) (w : World) : Calls Tryd.prog 38 #[Q.val] w (New w (ownQ F Q).val) := by
  obtain rfl | rfl | rfl | rfl | rfl | rfl | rfl | rfl | rfl : F = 1 ∨ F = 2 ∨ F = 3 ∨ F = 4 ∨ F = 5 ∨ F = 6 ∨ F = 7 ∨ F = 8 ∨ F = 9 := by omega
  · exact own_1 Q hf w
  · exact own_2 Q hf w
  · exact own_3 Q hf w
  · exact own_4 Q hf w
  · exact own_5 Q hf w
  · exact own_6 Q hf w
  · exact own_7 Q hf w
  · exact own_8 Q hf w
  · exact own_9 Q hf w
end E
end Go.Proofs.YtaodghaicmjadaaDoor
