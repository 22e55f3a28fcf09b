/- Storages: the methods of the given answers. -/
import Derived.Test.YtbcncohjjnmdcaaGreatDoorRows
import Derived.Laws.EntriesVeiled
import Derived.LoopIn
import Derived.LoopNIn
import Derived.OwnWalkIn
import Derived.RegionIn
import Derived.TacticsInMore
import Derived.Test.YtbcncohjjnmdcaaGreatDoorStA
namespace Go.Proofs.YtbcncohjjnmdcaaGreatDoor
open Go.RowKit Go.Shelf
set_option linter.unusedVariables false
namespace E

end E
end Go.Proofs.YtbcncohjjnmdcaaGreatDoor
namespace Go.Proofs.YtbcncohjjnmdcaaGreatDoor
open Go.RowKit Go.Shelf
set_option linter.unusedVariables false
namespace E

end E
end Go.Proofs.YtbcncohjjnmdcaaGreatDoor
namespace Go.Proofs.YtbcncohjjnmdcaaGreatDoor
open Go.RowKit Go.Shelf
set_option linter.unusedVariables false
namespace E

theorem putL_step {bs b : List UInt8} {X j : Nat} (hj : j < b.length) (hl : X + b.length ≤ bs.length) : (putL bs X (b.take j)).set (X + j) (gt b j) = putL bs X (b.take (j + 1)) := by
  have h1 : (b.take j).length = j := by rw [List.length_take]; omega
  have h2 : (b.take (j + 1)).length = j + 1 := by rw [List.length_take]; omega
  have l1 : (putL bs X (b.take j)).length = bs.length := putL_len (by omega)
  have l2 : (putL bs X (b.take (j + 1))).length = bs.length := putL_len (by omega)
  refine ext_gt (by rw [List.length_set, l1, l2]) fun i hi => ?_
  rw [gt_setX (by omega), gt_putL (by omega), gt_putL (by omega), h1, h2]
  have gtake : ∀ k i, i < k → gt (b.take k) i = gt b i := fun k i h => by
    unfold gt
    simp only [List.getD_eq_getElem?_getD]
    rw [List.getElem?_take, if_pos h]
  by_cases e : i = X + j
  · rw [if_pos e, if_pos (by omega), gtake _ _ (by omega)]
    congr 1
    omega
  · rw [if_neg e]
    by_cases e2 : X ≤ i ∧ i < X + j
    · rw [if_pos e2, if_pos (by omega), gtake _ _ (by omega), gtake _ _ (by omega)]
    · rw [if_neg e2, if_neg (by omega)]
theorem Rfs.step {w wr : World} {a g h n m c d X j : Nat} {bs ks b : List UInt8} (s : Rfs wr a g h n m c d (putL bs X (b.take j)) ks) (hg : w.grownBy wr (some g)) (hbs : bs.length = n) (hj : j < b.length) (hl : X + b.length ≤ n) :
    w.grownBy (wr.setCell ⟨g, X + j, none⟩ (.int .u8 ((gt b j).toNat : Int))) (some g) ∧ Rfs (wr.setCell ⟨g, X + j, none⟩ (.int .u8 ((gt b j).toNat : Int))) a g h n m c d (putL bs X (b.take (j + 1))) ks := by
  obtain ⟨h1, h2⟩ := s.2.1.set (X + j) (.int .u8 ((gt b j).toNat : Int))
  rw [bsU_set, putL_step hj (by omega)] at h1
  exact ⟨hg.trans h2, s.spliced h1 (by rw [putL_len (by rw [List.length_take]; omega), hbs]) h2⟩
end E
end Go.Proofs.YtbcncohjjnmdcaaGreatDoor
namespace Go.Proofs.YtbcncohjjnmdcaaGreatDoor
open Go.RowKit Go.Shelf
set_option linter.unusedVariables false
namespace E

theorem own_some {w : World} {base n : Nat} {t : TypeId} {v : Value} {xs : List Value} (h : w.ownsRow base t 1 v n xs) (hn : 0 < n) (hx : xs.length = n) : ∃ g c, v = .slice (some ⟨g, 0, none⟩) n c ∧ base ≤ g ∧ c ≤ 9223372036854775807 ∧ Row w g t xs c := by
  have h' := h
  obtain ⟨_, ⟨_, h2⟩ | ⟨g, cap, cur, hv, hg, hh, hle, hm, hsz, ht⟩⟩ := h
  · omega
  · subst hv
    exact ⟨g, cap, rfl, hg, by unfold maxLen at hm; omega, own_row h' hx⟩
end E
end Go.Proofs.YtbcncohjjnmdcaaGreatDoor
