/- The contracts of setDigit and of the writer of digits. -/
import Derived.Test.YtlpekknhaaddcaaDoorRows
import Derived.WalkKit
import Derived.ProofKit
import Derived.Lib.Hide
import Derived.Deep.Cut
import Derived.Deep.DeepMust
import Derived.Deep.QuietTactic
import Derived.BigQuiet
import Derived.OwnWalk
import Derived.Laws.CopyOwn
import Derived.Laws.AppendOwn
import Derived.Laws.OwnMore
import Derived.Laws.AppendOwnNone
import Derived.Deep.Draws
import Derived.Laws.IdiomStrings
import Derived.Below
import Derived.RangeFuncBox
import Derived.RangeFuncNested
import Derived.Maps.AppendAt
import Derived.Test.YtlpekknhaaddcaaDoorPkMem
namespace Go.Proofs.YtlpekknhaaddcaaDoor
open Go.RowKit
set_option linter.unusedVariables false
namespace E

theorem all4096 {p : UInt8 → Fin 16 → Prop} (h : ∀ n : Nat, n < 256 → ∀ d : Fin 16, p (UInt8.ofNat n) d) (x : UInt8) (d : Fin 16) : p x d := all256 (p := fun x => ∀ d, p x d) h x d
theorem put_lo (x : UInt8) (d : Fin 16) : bits .or .u8 (bits .andNot .u8 (x.toNat : Int) 15) (d.val : Int) = ((mk (hi x) d).toNat : Int) :=
  all4096 (p := fun x d => bits .or .u8 (bits .andNot .u8 (x.toNat : Int) 15) (d.val : Int) = ((mk (hi x) d).toNat : Int)) (by decide +kernel) x d
theorem put_hi (x : UInt8) (d : Fin 16) : bits .or .u8 (bits .andNot .u8 (x.toNat : Int) 240) ((d.val : Int) * 16) = ((mk d (lo x)).toNat : Int) :=
  all4096 (p := fun x d => bits .or .u8 (bits .andNot .u8 (x.toNat : Int) 240) ((d.val : Int) * 16) = ((mk d (lo x)).toNat : Int)) (by decide +kernel) x d
/-- What a store of a digit leaves. -/
def SetPost (w : World) (g pl : Nat) (l : List UInt8) (d : Fin 16) (e : Ending) (w' : World) : Prop :=
  (∃ v, e = .returned v) ∧ ∃ m, w' = (w.setCell ⟨g, l.length - 1 - pl / 2, none⟩ (.int .u8 ((gt (setD l pl d) (l.length - 1 - pl / 2)).toNat : Int))).drewN m
set_option maxRecDepth 100000 in
theorem setDigit_any (g c pl base : Nat) (l : List UInt8) (d : Fin 16) (w : World) (hn : l.length ≤ 1000) (hp : pl < 2 * l.length) (hr : Blk w base g l) :
    Calls Tryd.prog 106 #[.slice (some ⟨g, 0, none⟩) l.length c, .int .i64 (pl : Int), .int .u8 (d.val : Int)] w (SetPost w g pl l d) := by
  have hcell := hr.cell (l.length - 1 - pl / 2) (by omega)
  have hfz := hr.frozen (l.length - 1 - pl / 2)
  clear hr
  have hw := Lib.hid (where_any (some ⟨g, 0, none⟩) l.length c pl w hn hp)
  obtain ⟨x, hx⟩ : ∃ x, x = gt l (l.length - 1 - pl / 2) := ⟨_, rfl⟩
  have hv : gt (setD l pl d) (l.length - 1 - pl / 2) = if pl % 2 = 0 then mk (hi x) d else mk d (lo x) := by
    unfold setD
    rw [gt_set _ _ _ _ (by omega), if_pos rfl, ← hx]
  unfold SetPost
  rw [← hx] at hcell
  rw [hv]
  have hi1 : l.length - 1 - pl / 2 < l.length := by omega
  clear hx hv
  generalize l.length - 1 - pl / 2 = at0 at *
  by_cases h2 : pl % 2 = 0
  · rw [h2] at hw
    rw [if_pos h2]
    have H := Lib.hid (put_lo x d)
    go_enter Tryd.func106, Tryd.ntmps106
    go_wp2_with fail
    refine (hw.out).mono ?_
    rintro e w' ⟨rfl, rfl⟩
    go_wp2
    go_region
    go_wp2
    go_end0
    exact ⟨⟨_, rfl⟩, 1, by rw [H.out]; rfl⟩
  · rw [show pl % 2 = 1 by omega] at hw
    rw [if_neg h2]
    have H := Lib.hid (put_hi x d)
    go_enter Tryd.func106, Tryd.ntmps106
    go_wp2_with fail
    refine (hw.out).mono ?_
    rintro e w' ⟨rfl, rfl⟩
    go_wp2
    go_region
    go_wp2
    go_end0
    exact ⟨⟨_, rfl⟩, 1, by rw [H.out]; rfl⟩

theorem grown_drewN (w : World) (n : Nat) (row : Option Nat) : w.grownBy (w.drewN n) row := ⟨rfl, rfl, rfl, Nat.le_refl _, fun _ _ _ => rfl⟩
theorem Blk.cells {w : World} {base g : Nat} {l : List UInt8} (h : Blk w base g l) : ∀ o, w.heap[g]? = some o → o.isCells = true := by
  obtain ⟨_, cur, hg, _⟩ := h
  intro o ho
  rw [hg] at ho; cases ho; rfl
/-- What a store of a digit leaves in a block of the call's own. -/
theorem SetPost.hold {w w' : World} {g pl base : Nat} {l : List UInt8} {d : Fin 16} {e : Ending} (h : SetPost w g pl l d e w') (hp : pl < 2 * l.length) (hr : Blk w base g l) :
    Blk w' base g (setD l pl d) ∧ w.grownBy w' (some g) := by
  obtain ⟨_, m, rfl⟩ := h
  obtain ⟨h1, h2⟩ := hr.stored (l.length - 1 - pl / 2) (gt (setD l pl d) (l.length - 1 - pl / 2))
  have e1 : l.set (l.length - 1 - pl / 2) (gt (setD l pl d) (l.length - 1 - pl / 2)) = setD l pl d := by
    unfold setD
    rw [gt_set _ _ _ _ (by omega), if_pos rfl]
  rw [e1] at h1
  exact ⟨h1.below (belowDraw _ _), World.grownBy.trans h2 (grown_drewN _ _ _)⟩
theorem Boxed.not_blk {w : World} {B g base : Nat} {t : TypeId} {v : Value} {l : List UInt8} (h : Boxed w B t v) (ht : t ≠ 5) (hr : Blk w base g l) : B ≠ g := by
  obtain ⟨_, cur, hg, _⟩ := hr
  rintro rfl
  have := (show w.heap[B]? = _ from h).symm.trans hg
  simp at this
  exact ht this.2

/-- What the writer leaves: no place is left; or the digit is put, and the place moves on. -/
def PutPost (w : World) (Bn g base nx st : Nat) (l : List UInt8) (d : Fin 16) (e : Ending) (w' : World) : Prop :=
  (2 * l.length ≤ nx ∧ e = .returned (.bool false) ∧ w = w') ∨
  (nx < 2 * l.length ∧ e = .returned (.bool true) ∧ Boxed w' Bn 3 (.int .i64 ((nx + st : Nat) : Int)) ∧ Blk w' base g (setD l nx d) ∧
    (∀ B t v, t ≠ 5 → B ≠ Bn → Boxed w B t v → Boxed w' B t v) ∧ KeepsOthers w w' ∧ Below base w w')
set_option maxRecDepth 100000 in
theorem put_any (Bn Bb Bs g c base nx st : Nat) (l : List UInt8) (d : Fin 16) (w : World) (hn : l.length ≤ 1000) (hnx : nx ≤ 4000) (hst : st ≤ 2)
    (bn : Boxed w Bn 3 (.int .i64 (nx : Int))) (bb : Boxed w Bb 22 (.slice (some ⟨g, 0, none⟩) l.length c)) (bs : Boxed w Bs 3 (.int .i64 (st : Int)))
    (hr : Blk w base g l) (hB : base ≤ Bn) (hne : Bs ≠ Bn) :
    Calls Tryd.prog 112 #[.int .u8 (d.val : Int), .pointer (some ⟨Bn, 0, none⟩), .pointer (some ⟨Bb, 0, none⟩), .pointer (some ⟨Bs, 0, none⟩)] w (PutPost w Bn g base nx st l d) := by
  have c1 := bn.cell
  have c2 := bb.cell
  have c3 := bs.cell
  have f1 := bn.frozen
  by_cases hlt : nx < 2 * l.length
  · have hs := Lib.hid (setDigit_any g c nx base l d w hn hlt hr)
    have HN := Lib.hid bn
    have HB := Lib.hid bb
    have HS := Lib.hid bs
    have HR := Lib.hid hr
    clear bn bb bs hr
    go_enter Tryd.func112, Tryd.ntmps112
    go_wp2_with fail
    refine (hs.out).mono ?_
    rintro e w' hp
    obtain ⟨hh, hg⟩ := hp.hold hlt HR.out
    obtain ⟨⟨v, rfl⟩, _⟩ := hp
    have hk : ∀ B t v, t ≠ 5 → Boxed w B t v → Boxed w' B t v := fun B t v ht hb => hb.kept hg (fun e => E.Boxed.not_blk hb ht HR.out (Option.some.inj e))
    have bn' := hk _ _ _ (by decide) HN.out
    have bs' := hk _ _ _ (by decide) HS.out
    have c1' := bn'.cell
    have c3' := bs'.cell
    have f1' := bn'.frozen
    have HK := Lib.hid hk
    have HH := Lib.hid hh
    have HG := Lib.hid hg
    have HBN := Lib.hid bn'
    clear hk hh hg bn' bs' c1 c2 c3 f1
    go_wp2
    go_ret
    have hgb := HR.out.1
    have hcells := HR.out.cells
    have hBl := HN.out.lt
    have hk2 : KeepsOthers w w' := KeepsOthers.of_grownBy HG.out fun j o ej hj => by
      obtain rfl : g = j := by simpa using ej
      exact hcells o hj
    have hb2 : Below base w w' := (Below.refl base w).grown HG.out (by omega) fun j ej => by
      obtain rfl : g = j := by simpa using ej
      exact hgb
    refine .inr ⟨hlt, rfl, ?_, ?_, ?_, hk2.trans (KeepsOthers.setCell _ _ _), hb2.setCell (p := ⟨Bn, 0, none⟩) hB _⟩
    · have := HBN.out.set (.int .i64 ((nx + st : Nat) : Int))
      simpa using this
    · exact HH.out.kept (grownBy_setCell' w' Bn _) (fun e => E.Boxed.not_blk HBN.out (by decide) HH.out (Option.some.inj e).symm)
    · exact fun B t v ht hB hb => (HK.out B t v ht hb).other hB _
  · clear bn bs hr
    go_enter Tryd.func112, Tryd.ntmps112
    go_wp2
    go_ret
    exact .inl ⟨by omega, rfl, rfl⟩

end E
end Go.Proofs.YtlpekknhaaddcaaDoor
