/- A region that executes an instruction and keeps what it returns: what holds on the way. -/
import Derived.Test.YtfopjnfphlkcgaaGreatRows
import Derived.Deep.WholeRow
import Derived.Test.YtfopjnfphlkcgaaGreatGnExec
namespace Go.Proofs.YtfopjnfphlkcgaaGreat
namespace E
end E
open Go.RowKit Go.Shelf E
set_option linter.unusedVariables false
namespace M

/-- What holds on the way: nothing but storage has changed, the registers' block lies, the storage; blocks for the results, as far as they are made. -/
def FS (w : World) (B A g h n m : Nat) (R : Array Value) (bs ks : List UInt8) (o o' : Option Nat) (W : World) : Prop :=
  Kp w W [g] ∧ Bx W B 28 R ∧ Sto W A g h n m bs ks ∧ (∀ b, o = some b → w.heap.size ≤ b ∧ ∃ x : Array Value, x.size = 16 ∧ Bx W b 28 x) ∧ (∀ b, o' = some b → w.heap.size ≤ b ∧ ∃ x : Array Value, x.size = 10 ∧ Bx W b 30 x)
/-- What a step may count on. -/
def FB (w : World) (B g : Nat) (R : Array Value) (W : World) : Prop := Kp w W [g] ∧ Bx W B 28 R
section
variable {w W W' : World} {B A g h n m : Nat} {R : Array Value} {bs ks : List UInt8} {o o' : Option Nat}
theorem FS.fb (f : FS w B A g h n m R bs ks o o' W) : FB w B g R W := ⟨f.1, f.2.1⟩
theorem FS.below (f : FS w B A g h n m R bs ks o o' W) (hb : Below W.heap.size W W') : FS w B A g h n m R bs ks o o' W' := by
  obtain ⟨a, b, c, d, e⟩ := f
  refine ⟨a.trans (Kp.bel hb), b.below hb, c.below hb, fun k hk => ?_, fun k hk => ?_⟩
  · obtain ⟨h1, x, h2, h3⟩ := d k hk
    exact ⟨h1, x, h2, h3.below hb⟩
  · obtain ⟨h1, x, h2, h3⟩ := e k hk
    exact ⟨h1, x, h2, h3.below hb⟩
theorem FS.drew (f : FS w B A g h n m R bs ks o o' W) : FS w B A g h n m R bs ks o o' W.drew := f.below (bel_drew W)
theorem FS.size (f : FS w B A g h n m R bs ks o o' W) : w.heap.size ≤ W.heap.size := f.1.size
theorem FS.al (f : FS w B A g h n m R bs ks o o' W) : FS w B A g h n m R bs ks (some W.heap.size) o' (W.alloc (.cells #[.int .u32 0, .int .u32 0, .int .u32 0, .int .u32 0, .int .u32 0, .int .u32 0, .int .u32 0, .int .u32 0, .int .u32 0, .int .u32 0, .int .u32 0, .int .u32 0, .int .u32 0, .int .u32 0, .int .u32 0, .int .u32 0] 28)) := by
  obtain ⟨a, b, c, d, e⟩ := f.below (below_new W (.cells #[.int .u32 0, .int .u32 0, .int .u32 0, .int .u32 0, .int .u32 0, .int .u32 0, .int .u32 0, .int .u32 0, .int .u32 0, .int .u32 0, .int .u32 0, .int .u32 0, .int .u32 0, .int .u32 0, .int .u32 0, .int .u32 0] 28))
  exact ⟨a, b, c, fun k hk => by cases hk; exact ⟨f.size, _, rfl, Bx.new W _ _⟩, e⟩
theorem FS.al2 (f : FS w B A g h n m R bs ks o o' W) : FS w B A g h n m R bs ks o (some W.heap.size) (W.alloc (.cells #[.int .i64 0, .int .i64 0, .bool false, .bool false, .bool false, .int .i64 0, .int .i64 0, .int .i64 0, .int .i64 0, .int .i64 0] 30)) := by
  obtain ⟨a, b, c, d, e⟩ := f.below (below_new W (.cells #[.int .i64 0, .int .i64 0, .bool false, .bool false, .bool false, .int .i64 0, .int .i64 0, .int .i64 0, .int .i64 0, .int .i64 0] 30))
  exact ⟨a, b, c, d, fun k hk => by cases hk; exact ⟨f.size, _, rfl, Bx.new W _ _⟩⟩
theorem FS.exec {bs' : List UInt8} (f : FS w B A g h n m R bs ks o o' W) (hs : Sto W' A g h n m bs' ks) (hk : Kp W W' [g]) : FS w B A g h n m R bs' ks o o' W' := by
  obtain ⟨a, b, c, d, e⟩ := f
  have hg := c.2.1
  refine ⟨a.trans hk, b.kp hk (by simpa using Row.ne b.row hg (by decide)), hs, fun k hk2 => ?_, fun k hk2 => ?_⟩
  · obtain ⟨h1, x, h2, h3⟩ := d k hk2
    exact ⟨h1, x, h2, h3.kp hk (by simpa using Row.ne h3.row hg (by decide))⟩
  · obtain ⟨h1, x, h2, h3⟩ := e k hk2
    exact ⟨h1, x, h2, h3.kp hk (by simpa using Row.ne h3.row hg (by decide))⟩
theorem sto_st {b : Nat} {x cs : Array Value} {t : TypeId} (c : Sto W A g h n m bs ks) (hx : Bx W b t x) (h1 : t ≠ 86) (h2 : t ≠ 5) (h3 : t ≠ 87) : Sto (W.setRow b cs) A g h n m bs ks := by
  have n1 := Row.ne c.1.row hx.row (Ne.symm h1)
  have n2 := Row.ne c.2.1 hx.row (Ne.symm h2)
  have n3 := Row.ne c.2.2.1 hx.row (Ne.symm h3)
  have k : Kp W (W.setRow b cs) [b] := ⟨rfl, rfl, rfl, by simp [World.setRow], fun k hk hn => setRow_other W b k _ (fun e => hn (by simp [e]))⟩
  exact c.kp k (by simpa using n1) (by simpa using n2) (by simpa using n3)
/-- The registers are stored in their block. -/
theorem FS.st {b : Nat} (f : FS w B A g h n m R bs ks (some b) o' W) (hb : B < w.heap.size) (R' : Nat → Int) : FS w B A g h n m R bs ks (some b) o' (W.setRow b (regA R')) := by
  obtain ⟨a, r, c, d, e⟩ := f
  obtain ⟨h1, x, h2, h3⟩ := d b rfl
  refine ⟨kp_row a h1 _, bx_row2 r (by omega) _, sto_st c h3 (by decide) (by decide) (by decide), fun k hk => ?_, fun k hk => ?_⟩
  · cases hk
    exact ⟨h1, _, rfl, bx_row3 h3 _⟩
  · obtain ⟨h4, y, h5, h6⟩ := e k hk
    exact ⟨h4, y, h5, bx_row2 h6 (Row.ne h6.row h3.row (by decide)) _⟩
theorem FS.st2 {b : Nat} (f : FS w B A g h n m R bs ks o (some b) W) (p' : Psw) : FS w B A g h n m R bs ks o (some b) (W.setRow b (pswA p')) ∧ Bx (W.setRow b (pswA p')) b 30 (pswA p') := by
  obtain ⟨a, r, c, d, e⟩ := f
  obtain ⟨h1, x, h2, h3⟩ := e b rfl
  refine ⟨⟨kp_row a h1 _, bx_row2 r (Row.ne r.row h3.row (by decide)) _, sto_st c h3 (by decide) (by decide) (by decide), fun k hk => ?_, fun k hk => ?_⟩, bx_row3 h3 _⟩
  · obtain ⟨h4, y, h5, h6⟩ := d k hk
    exact ⟨h4, y, h5, bx_row2 h6 (Row.ne h6.row h3.row (by decide)) _⟩
  · cases hk
    exact ⟨h1, _, rfl, bx_row3 h3 _⟩
end

end M
end Go.Proofs.YtfopjnfphlkcgaaGreat
