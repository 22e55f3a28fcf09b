/- Words: fields. -/
import Derived.Test.YtfopjnfphlkcgaaGreatRows
import Derived.BigQuiet
import Derived.Deep.Cut
import Derived.Deep.DeepMust
import Derived.Deep.Draws
import Derived.Deep.QuietTactic
import Derived.Laws.AppendOwn
import Derived.Laws.AppendOwnNone
import Derived.Laws.CopyOwn
import Derived.Laws.OwnMore
import Derived.OwnWalk
import Derived.Test.YtfopjnfphlkcgaaGreatWordA
namespace Go.Proofs.YtfopjnfphlkcgaaGreat
open Go.RowKit
set_option linter.unusedVariables false
namespace W

/-- The number that the first k bytes represent (the highest first), in 32 bits. -/
def jn (f : Nat → Int) : Nat → Int
  | 0 => 0
  | k + 1 => jn f k * 256 % 4294967296 + f k
/-- The n cells from an address on hold the bytes f 0, f 1 and so on. -/
def Bytes (w : World) (B off n : Nat) (f : Nat → Int) : Prop := ∀ j, j < n → w.cell? ⟨B, off + j, none⟩ = some (.int .u8 (f j))
def IsBytes (f : Nat → Int) (n : Nat) : Prop := ∀ j, j < n → 0 ≤ f j ∧ f j < 256
theorem orB {v x : Int} (h0 : 0 ≤ v) (h1 : v < 4294967296) (l0 : 0 ≤ x) (l1 : x < 256) : bits .or .u32 (v * 256 % 4294967296) x = v * 256 % 4294967296 + x := by
  have h := orByte (v := v % 16777216) (x := x) (by omega) (by omega) l0 l1
  rw [show v % 16777216 * 256 = v * 256 % 4294967296 by omega] at h
  exact h
theorem jn_bd (f : Nat → Int) (n : Nat) (hf : IsBytes f n) : 0 ≤ jn f n ∧ jn f n < 4294967296 := by
  induction n with
  | zero => simp [jn]
  | succ k ih =>
    have h := hf k (by omega)
    have := ih (fun j hj => hf j (by omega))
    simp only [jn]; omega
def wB (at' n size : Int) : Bool := decide (0 ≤ at' ∧ at' ≤ n - size)

theorem within_any (p : Option Addr) (n c : Nat) (at' size : Int) (hn : n ≤ 9223372036854775807) (hs : 0 ≤ size ∧ size ≤ 4) (w : World) :
    Calls Tryz.prog 215 #[.slice p n c, .int .i64 at', .int .i64 size] w fun e w' => e = .returned (.bool (wB at' n size)) ∧ w = w' := by
  by_cases h : 0 ≤ at'
  · have hb : decide (at' ≤ (n : Int) - size) = wB at' n size := by simp [wB, h]
    have H := Lib.hid hb; clear hb
    go_enter Tryz.func215, Tryz.ntmps215
    go_wp2
    go_ret
    exact ⟨ret_bool H.out, rfl⟩
  · have hb : false = wB at' n size := by simp [wB, h]
    have H := Lib.hid hb; clear hb
    go_enter Tryz.func215, Tryz.ntmps215
    go_wp2
    go_ret
    exact ⟨ret_bool H.out, rfl⟩

theorem join_any (B off n c : Nat) (f : Nat → Int) (w : World) (hn : n ≤ 9223372036854775807) (hc : Bytes w B off n f) (hf : IsBytes f n) :
    Calls Tryz.prog 216 #[.slice (some ⟨B, off, none⟩) n c] w fun e w' => e = .returned (.int .u32 (jn f n)) ∧ w = w' := by
  go_enter Tryz.func216, Tryz.ntmps216
  go_wp2
  go_loop [3, 5, 8] (fun v _ i => ∃ k : Nat, k ≤ n ∧ i = .int .i64 k ∧ v = .int .u32 (jn f k)) (fun _ _ i => n - (intOf i).toNat)
  case atStart => exact ⟨0, Nat.zero_le _, rfl, rfl⟩
  case round =>
    obtain ⟨k, hk, rfl, rfl⟩ := hrel
    by_cases hlt : k < n
    · have hb := hf k hlt
      have hcell := hc k hlt
      have hj := jn_bd f k (fun j hj => hf j (by omega))
      have ho : bits .or .u32 (jn f k * 256 % 4294967296) (f k) = jn f (k + 1) := orB hj.1 hj.2 hb.1 hb.2
      have H := Lib.hid ho; clear ho hf hc
      go_wp2
      go_round
      case rel => exact ⟨k + 1, by omega, by go_num, by rw [H.out]⟩
      case measure => simp [intOf]; omega
    · obtain rfl : k = n := by omega
      clear hc hf
      go_wp2
      go_ret
      exact ⟨rfl, rfl⟩

def h16 (v : Int) : Int := if v < 32768 then v else v + 4294901760
theorem h16_eq {v : Int} (h0 : 0 ≤ v) (h1 : v < 65536) : IntKind.i16.wrap v % 4294967296 = h16 v := by
  unfold h16; simp [IntKind.wrap, IntKind.bits, IntKind.signed]; (repeat' split) <;> omega
def sh (f : Nat → Int) (k : Nat) : Nat → Int := fun j => f (k + j)
theorem Bytes.sh {w : World} {B off n k m : Nat} {f : Nat → Int} (h : Bytes w B off n f) (hk : k + m ≤ n) : Bytes w B (off + k) m (W.sh f k) := fun j hj => by
  have := h (k + j) (by omega)
  rw [← Nat.add_assoc] at this; exact this
theorem IsBytes.sh {n k m : Nat} {f : Nat → Int} (h : IsBytes f n) (hk : k + m ≤ n) : IsBytes (W.sh f k) m := fun j hj => h (k + j) (by omega)
theorem ret_2 {a b : Int} {o : Bool} (h : a = b) : Ending.returned (.tuple #[.int .u32 a, .bool o]) = .returned (.tuple #[.int .u32 b, .bool o]) := by rw [h]
theorem jn2 {f : Nat → Int} (h : IsBytes f 2) : 0 ≤ jn f 2 ∧ jn f 2 < 65536 := by
  have h0 := h 0 (by omega); have h1 := h 1 (by omega)
  simp only [jn]; omega

theorem wHalf_yes (B off n c k : Nat) (f : Nat → Int) (w : World) (hn : n ≤ 9223372036854775807) (hnc : n ≤ c) (hc : Bytes w B off n f) (hf : IsBytes f n) (hk : k + 2 ≤ n) :
    Calls Tryz.prog 196 #[.slice (some ⟨B, off, none⟩) n c, .int .i64 k] w fun e w' => e = .returned (.tuple #[.int .u32 (h16 (jn (sh f k) 2)), .bool true]) ∧ w = w' := by
  have hw : wB k n 2 = true := by simp [wB]; omega
  have hj := jn2 (hf.sh hk)
  have hb : (!wB k n 2) = false := by rw [hw]; rfl
  clear hw
  go_enter Tryz.func196, Tryz.ntmps196
  go_wp2_with fail
  refine (within_any _ _ _ _ _ hn (by omega) _).mono ?_
  rintro e w' ⟨rfl, rfl⟩
  go_wp2_with fail
  refine (join_any _ _ _ _ (sh f k) _ (by omega) (hc.sh hk) (hf.sh hk)).mono ?_
  rintro e w' ⟨rfl, rfl⟩
  clear hc hf
  go_wp2
  go_ret2
  exact ⟨ret_2 (h16_eq hj.1 hj.2), rfl⟩
theorem wFull_yes (B off n c k : Nat) (f : Nat → Int) (w : World) (hn : n ≤ 9223372036854775807) (hnc : n ≤ c) (hc : Bytes w B off n f) (hf : IsBytes f n) (hk : k + 4 ≤ n) :
    Calls Tryz.prog 158 #[.slice (some ⟨B, off, none⟩) n c, .int .i64 k] w fun e w' => e = .returned (.tuple #[.int .u32 (jn (sh f k) 4), .bool true]) ∧ w = w' := by
  have hw : wB k n 4 = true := by simp [wB]; omega
  have hb : (!wB k n 4) = false := by rw [hw]; rfl
  clear hw
  go_enter Tryz.func158, Tryz.ntmps158
  go_wp2_with fail
  refine (within_any _ _ _ _ _ hn (by omega) _).mono ?_
  rintro e w' ⟨rfl, rfl⟩
  go_wp2_with fail
  refine (join_any _ _ _ _ (sh f k) _ (by omega) (hc.sh hk) (hf.sh hk)).mono ?_
  rintro e w' ⟨rfl, rfl⟩
  clear hc hf
  go_wp2
  go_ret2
  exact ⟨rfl, rfl⟩
end W
end Go.Proofs.YtfopjnfphlkcgaaGreat
namespace Go.Proofs.YtfopjnfphlkcgaaGreat
open Go.RowKit
set_option linter.unusedVariables false
namespace W

/-- A slice that starts at p and has the length of l reads as the bytes l. -/
def Rd (w : World) (p : Option Addr) (l : List Int) : Prop := l = [] ∨ ∃ B off, p = some ⟨B, off, none⟩ ∧ ∀ j, j < l.length → w.cell? ⟨B, off + j, none⟩ = some (.int .u8 (l.getD j 0))
def IsB (l : List Int) : Prop := ∀ x ∈ l, 0 ≤ x ∧ x < 256
theorem IsB.at {l : List Int} (h : IsB l) (j : Nat) : 0 ≤ l.getD j 0 ∧ l.getD j 0 < 256 := by
  by_cases hj : j < l.length
  · rw [List.getD_eq_getElem?_getD, List.getElem?_eq_getElem hj]
    exact h _ (List.getElem_mem hj)
  · rw [List.getD_eq_getElem?_getD, List.getElem?_eq_none (by omega)]; decide

theorem same_true (p q : Option Addr) (c d : Nat) (l : List Int) (w : World) (hn : l.length ≤ 9223372036854775807) (hp : Rd w p l) (hq : Rd w q l) :
    Calls Tryz.prog 22 #[.slice p l.length c, .slice q l.length d] w fun e w' => e = .returned (.bool true) ∧ ∃ m, w' = w.drewN m := by
  rcases hp with h0 | ⟨B, off, rfl, hc⟩
  · subst h0
    clear hq
    go_enter Tryz.func22, Tryz.ntmps22
    go_wp2
    go_loop [5] (fun i => i = .int .i64 0) (fun _ => 0)
    case atStart => rfl
    case round =>
      subst hrel
      go_wp2
      go_ret
      exact ⟨rfl, 0, rfl⟩
  rcases hq with h0 | ⟨B2, off2, rfl, hd⟩
  · subst h0
    clear hc
    go_enter Tryz.func22, Tryz.ntmps22
    go_wp2
    go_loop [5] (fun i => i = .int .i64 0) (fun _ => 0)
    case atStart => rfl
    case round =>
      subst hrel
      go_wp2
      go_ret
      exact ⟨rfl, 0, rfl⟩
  generalize hln : l.length = n at *
  have HL := Lib.hid hln; clear hln
  go_enter Tryz.func22, Tryz.ntmps22
  go_wp2
  go_loopw [5] (fun i wr => (∃ m, wr = w.drewN m) ∧ ∃ k : Nat, k ≤ n ∧ i = .int .i64 k) (fun i _ => n - (intOf i).toNat)
  case atStart => exact ⟨⟨0, rfl⟩, 0, Nat.zero_le _, rfl⟩
  case round =>
    obtain ⟨⟨m, rfl⟩, k, hk, rfl⟩ := hrel
    by_cases hlt : k < n
    · have hcell := hc k hlt
      have hcell2 := hd k hlt
      clear hc hd
      go_wp2
      go_quiet (fail)
      go_wp2
      go_roundw
      case rel => exact ⟨⟨_, rfl⟩, k + 1, by omega, by go_num⟩
      case measure => simp [intOf]; omega
    · obtain rfl : k = n := by omega
      clear hc hd
      go_wp2
      go_ret
      exact ⟨rfl, _, rfl⟩

/-- The cells of bytes. -/
def bs (l : List Int) : List Value := l.map (Value.int .u8)
/-- Bytes with a field put into them. -/
def putL (l : List Int) (k : Nat) (fs : List Int) : List Int := l.take k ++ (fs ++ l.drop (k + fs.length))
theorem bs_at {l : List Int} {j : Nat} {v : Value} (h : (bs l)[j]? = some v) : j < l.length ∧ v = .int .u8 (l.getD j 0) := by
  have hj : j < l.length := by
    have := (List.getElem?_eq_some_iff.1 h).1
    simpa [bs] using this
  refine ⟨hj, ?_⟩
  simp only [bs, List.getElem?_map, List.getElem?_eq_getElem hj, Option.map_some, Option.some.injEq] at h
  rw [← h, List.getD_eq_getElem?_getD, List.getElem?_eq_getElem hj]; rfl
theorem putL_len {l fs : List Int} {k : Nat} (h : k + fs.length ≤ l.length) : (putL l k fs).length = l.length := by
  simp [putL]; omega
theorem addNone (B off j : Nat) : (⟨B, off, none⟩ : Addr).add j = ⟨B, off + j, none⟩ := by simp [Addr.add]
theorem Rd.below {w w' : World} {p : Option Addr} {l : List Int} (h : Rd w p l) (hb : Below w.heap.size w w') : Rd w' p l := by
  rcases h with h | ⟨B, off, hp, hc⟩
  · exact .inl h
  · refine .inr ⟨B, off, hp, fun j hj => ?_⟩
    have hj' := hc j hj
    rw [hb.cell (World.block_lt_of_cell? w _ hj')]; exact hj'
theorem Rd.src {w : World} {p : Option Addr} {l : List Int} (h : Rd w p l) (hl : 0 < l.length) : ∃ ad, p = some ad ∧ ∀ j v, (bs l)[j]? = some v → w.cell? (ad.add j) = some v := by
  rcases h with h | ⟨B, off, rfl, hc⟩
  · subst h; simp at hl
  · refine ⟨_, rfl, fun j v hv => ?_⟩
    obtain ⟨hj, rfl⟩ := bs_at hv
    rw [addNone]; exact hc j hj
theorem info5 : (Tryz.prog.info? 5).map (fun i => (i.zero, i.size, i.bytes)) = some (some (.int .u8 0), 1, 1) := by kernel_rfl
theorem below_new (w : World) (o : Obj) : Below w.heap.size w (w.alloc o) := (Below.refl _ _).alloc (Nat.le_refl _) _
theorem rd_new (w : World) (l : List Int) : Rd (w.alloc (.cells (bs l).toArray 5)) (some ⟨w.heap.size, 0, none⟩) l := by
  refine .inr ⟨_, _, rfl, fun j hj => ?_⟩
  have h : (bs l)[j]? = some (.int .u8 (l.getD j 0)) := by
    simp [bs, List.getD_eq_getElem?_getD, List.getElem?_eq_getElem hj]
  simp [go_sem, h]

end W
end Go.Proofs.YtfopjnfphlkcgaaGreat
namespace Go.Proofs.YtfopjnfphlkcgaaGreat
open Go.RowKit
set_option linter.unusedVariables false
namespace W

/-- The byte j of the m bytes of a word. -/
def rb (v : Int) (m j : Nat) : Int := v / 2 ^ (8 * (m - 1 - j)) % 256
/-- What lies at j when the m bytes of a word were put at k. -/
def pj (f : Nat → Int) (v : Int) (k m j : Nat) : Int := if k ≤ j ∧ j < k + m then rb v m (j - k) else f j
def pl2 (f : Nat → Int) (v : Int) (k m i : Nat) : List Int := (List.range i).map (pj f v k m)
/-- What the specification's put leaves. -/
def PutPost (w : World) (f : Nat → Int) (v : Int) (k m n : Nat) (e : Ending) (w' : World) : Prop :=
  ∃ sv, e = .returned (.tuple #[sv, .bool true]) ∧ w'.ownsRow w.heap.size 5 1 sv n (bs (pl2 f v k m n)) ∧ Below w.heap.size w w'
end W
end Go.Proofs.YtfopjnfphlkcgaaGreat
