/- Contracts of the functions that read fields. -/
import Derived.Test.YtkbnciekhllcpaaRows
import Derived.WalkKit
import Derived.ProofKit
import Derived.Lib.Hide
import Derived.Test.YtkbnciekhllcpaaWordProds
namespace Go.Proofs.Ytkbnciekhllcpaa
open Go.RowKit
set_option linter.unusedVariables false
namespace W

/-- The number that the first k bytes represent (the highest first), in 32 bits. -/
def jn (f : Nat → Int) : Nat → Int
  | 0 => 0
  | k + 1 => jn f k * 256 % 4294967296 + f k
/-- The n cells from an address on hold the bytes f 0, f 1 and so on. -/
def Bytes (w : World) (B off n : Nat) (f : Nat → Int) : Prop := ∀ j, j < n → w.cell? ⟨B, off + j, none⟩ = some (.int .u8 (f j))
def IsBytes (f : Nat → Int) (n : Nat) : Prop := ∀ j, j < n → 0 ≤ f j ∧ f j < 256
theorem orB {v x : Int} (h0 : 0 ≤ v) (h1 : v < 4294967296) (l0 : 0 ≤ x) (l1 : x < 256) : bits .or .u32 (v * 256 % 4294967296) x = v * 256 % 4294967296 + x := by
  have h := orByte (v := v % 16777216) (x := x) (by omega) (by omega) l0 l1
  rw [show v % 16777216 * 256 = v * 256 % 4294967296 by omega] at h
  exact h
theorem jn_bd (f : Nat → Int) (n : Nat) (hf : IsBytes f n) : 0 ≤ jn f n ∧ jn f n < 4294967296 := by
  induction n with
  | zero => simp [jn]
  | succ k ih =>
    have h := hf k (by omega)
    have := ih (fun j hj => hf j (by omega))
    simp only [jn]; omega
def wB (at' n size : Int) : Bool := decide (0 ≤ at' ∧ at' ≤ n - size)

theorem within_any (p : Option Addr) (n c : Nat) (at' size : Int) (hn : n ≤ 9223372036854775807) (hs : 0 ≤ size ∧ size ≤ 4) (w : World) :
    Calls Try.prog 67 #[.slice p n c, .int .i64 at', .int .i64 size] w fun e w' => e = .returned (.bool (wB at' n size)) ∧ w = w' := by
  by_cases h : 0 ≤ at'
  · have hb : decide (at' ≤ (n : Int) - size) = wB at' n size := by simp [wB, h]
    have H := Lib.hid hb; clear hb
    go_enter Try.func67, Try.ntmps67
    go_wp2
    go_ret
    exact ⟨ret_bool H.out, rfl⟩
  · have hb : false = wB at' n size := by simp [wB, h]
    have H := Lib.hid hb; clear hb
    go_enter Try.func67, Try.ntmps67
    go_wp2
    go_ret
    exact ⟨ret_bool H.out, rfl⟩

theorem join_any (B off n c : Nat) (f : Nat → Int) (w : World) (hn : n ≤ 9223372036854775807) (hc : Bytes w B off n f) (hf : IsBytes f n) :
    Calls Try.prog 68 #[.slice (some ⟨B, off, none⟩) n c] w fun e w' => e = .returned (.int .u32 (jn f n)) ∧ w = w' := by
  go_enter Try.func68, Try.ntmps68
  go_wp2
  go_loop [3, 5, 8] (fun v _ i => ∃ k : Nat, k ≤ n ∧ i = .int .i64 k ∧ v = .int .u32 (jn f k)) (fun _ _ i => n - (intOf i).toNat)
  case atStart => exact ⟨0, Nat.zero_le _, rfl, rfl⟩
  case round =>
    obtain ⟨k, hk, rfl, rfl⟩ := hrel
    by_cases hlt : k < n
    · have hb := hf k hlt
      have hcell := hc k hlt
      have hj := jn_bd f k (fun j hj => hf j (by omega))
      have ho : bits .or .u32 (jn f k * 256 % 4294967296) (f k) = jn f (k + 1) := orB hj.1 hj.2 hb.1 hb.2
      have H := Lib.hid ho; clear ho hf hc
      go_wp2
      go_round
      case rel => exact ⟨k + 1, by omega, by go_num, by rw [H.out]⟩
      case measure => simp [intOf]; omega
    · obtain rfl : k = n := by omega
      clear hc hf
      go_wp2
      go_ret
      exact ⟨rfl, rfl⟩

def h16 (v : Int) : Int := if v < 32768 then v else v + 4294901760
theorem h16_eq {v : Int} (h0 : 0 ≤ v) (h1 : v < 65536) : IntKind.i16.wrap v % 4294967296 = h16 v := by
  unfold h16; simp [IntKind.wrap, IntKind.bits, IntKind.signed]; (repeat' split) <;> omega
def sh (f : Nat → Int) (k : Nat) : Nat → Int := fun j => f (k + j)
theorem Bytes.sh {w : World} {B off n k m : Nat} {f : Nat → Int} (h : Bytes w B off n f) (hk : k + m ≤ n) : Bytes w B (off + k) m (W.sh f k) := fun j hj => by
  have := h (k + j) (by omega)
  rw [← Nat.add_assoc] at this; exact this
theorem IsBytes.sh {n k m : Nat} {f : Nat → Int} (h : IsBytes f n) (hk : k + m ≤ n) : IsBytes (W.sh f k) m := fun j hj => h (k + j) (by omega)
theorem ret_2 {a b : Int} {o : Bool} (h : a = b) : Ending.returned (.tuple #[.int .u32 a, .bool o]) = .returned (.tuple #[.int .u32 b, .bool o]) := by rw [h]
theorem jn2 {f : Nat → Int} (h : IsBytes f 2) : 0 ≤ jn f 2 ∧ jn f 2 < 65536 := by
  have h0 := h 0 (by omega); have h1 := h 1 (by omega)
  simp only [jn]; omega

theorem wHalf_yes (B off n c k : Nat) (f : Nat → Int) (w : World) (hn : n ≤ 9223372036854775807) (hnc : n ≤ c) (hc : Bytes w B off n f) (hf : IsBytes f n) (hk : k + 2 ≤ n) :
    Calls Try.prog 20 #[.slice (some ⟨B, off, none⟩) n c, .int .i64 k] w fun e w' => e = .returned (.tuple #[.int .u32 (h16 (jn (sh f k) 2)), .bool true]) ∧ w = w' := by
  have hw : wB k n 2 = true := by simp [wB]; omega
  have hj := jn2 (hf.sh hk)
  have hb : (!wB k n 2) = false := by rw [hw]; rfl
  clear hw
  go_enter Try.func20, Try.ntmps20
  go_wp2_with fail
  refine (within_any _ _ _ _ _ hn (by omega) _).mono ?_
  rintro e w' ⟨rfl, rfl⟩
  go_wp2_with fail
  refine (join_any _ _ _ _ (sh f k) _ (by omega) (hc.sh hk) (hf.sh hk)).mono ?_
  rintro e w' ⟨rfl, rfl⟩
  clear hc hf
  go_wp2
  go_ret2
  exact ⟨ret_2 (h16_eq hj.1 hj.2), rfl⟩
theorem wHalf_no (p : Option Addr) (n c : Nat) (at' : Int) (w : World) (hn : n ≤ 9223372036854775807) (h : ¬ (0 ≤ at' ∧ at' + 2 ≤ n)) :
    Calls Try.prog 20 #[.slice p n c, .int .i64 at'] w fun e w' => e = .returned (.tuple #[.int .u32 0, .bool false]) ∧ w = w' := by
  have hw : wB at' n 2 = false := by simp [wB]; omega
  have hb : (!wB at' n 2) = true := by rw [hw]; rfl
  clear hw h
  go_enter Try.func20, Try.ntmps20
  go_wp2_with fail
  refine (within_any _ _ _ _ _ hn (by omega) _).mono ?_
  rintro e w' ⟨rfl, rfl⟩
  go_wp2
  go_ret2
  exact ⟨rfl, rfl⟩

theorem wFull_yes (B off n c k : Nat) (f : Nat → Int) (w : World) (hn : n ≤ 9223372036854775807) (hnc : n ≤ c) (hc : Bytes w B off n f) (hf : IsBytes f n) (hk : k + 4 ≤ n) :
    Calls Try.prog 22 #[.slice (some ⟨B, off, none⟩) n c, .int .i64 k] w fun e w' => e = .returned (.tuple #[.int .u32 (jn (sh f k) 4), .bool true]) ∧ w = w' := by
  have hw : wB k n 4 = true := by simp [wB]; omega
  have hb : (!wB k n 4) = false := by rw [hw]; rfl
  clear hw
  go_enter Try.func22, Try.ntmps22
  go_wp2_with fail
  refine (within_any _ _ _ _ _ hn (by omega) _).mono ?_
  rintro e w' ⟨rfl, rfl⟩
  go_wp2_with fail
  refine (join_any _ _ _ _ (sh f k) _ (by omega) (hc.sh hk) (hf.sh hk)).mono ?_
  rintro e w' ⟨rfl, rfl⟩
  clear hc hf
  go_wp2
  go_ret2
  exact ⟨rfl, rfl⟩
theorem wFull_no (p : Option Addr) (n c : Nat) (at' : Int) (w : World) (hn : n ≤ 9223372036854775807) (h : ¬ (0 ≤ at' ∧ at' + 4 ≤ n)) :
    Calls Try.prog 22 #[.slice p n c, .int .i64 at'] w fun e w' => e = .returned (.tuple #[.int .u32 0, .bool false]) ∧ w = w' := by
  have hw : wB at' n 4 = false := by simp [wB]; omega
  have hb : (!wB at' n 4) = true := by rw [hw]; rfl
  clear hw h
  go_enter Try.func22, Try.ntmps22
  go_wp2_with fail
  refine (within_any _ _ _ _ _ hn (by omega) _).mono ?_
  rintro e w' ⟨rfl, rfl⟩
  go_wp2
  go_ret2
  exact ⟨rfl, rfl⟩

def wf4 : Nat → Int := fun j => match j with | 0 => 0 | 1 => 255 | 2 => 254 | _ => 0
theorem wf4_is : IsBytes wf4 4 := fun j hj => by
  match j, hj with
  | 0, _ => decide
  | 1, _ => decide
  | 2, _ => decide
  | 3, _ => decide
theorem add_ex (w : World) : Calls Try.prog 30 #[.int .u32 2147483647, .int .u32 1] w fun e w' => e = .returned (.tuple #[.int .u32 2147483648, .int .i64 3, .bool true]) ∧ w = w' :=
  (wAdd_any 2147483647 1 (by decide) (by decide) (by decide) (by decide) w).mono fun e w' ⟨he, hw⟩ => ⟨he.trans (by simp [sg, ncc, inR]), hw⟩
theorem cmp_ex (w : World) : Calls Try.prog 40 #[.int .u32 4294967295, .int .u32 0] w fun e w' => e = .returned (.int .i64 1) ∧ w = w' :=
  (wCompare_any 4294967295 0 (by decide) (by decide) (by decide) (by decide) w).mono fun e w' ⟨he, hw⟩ => ⟨he.trans (by simp [sg, ord]), hw⟩
theorem wf4_at (w : World) : Bytes (w.alloc (Obj.cells #[Value.int IntKind.u8 0, Value.int IntKind.u8 255, Value.int IntKind.u8 254, Value.int IntKind.u8 0] 5)) w.heap.size 0 4 wf4 := fun j hj => by
  match j, hj with
  | 0, _ => simp [go_sem, wf4]
  | 1, _ => simp [go_sem, wf4]
  | 2, _ => simp [go_sem, wf4]
  | 3, _ => simp [go_sem, wf4]
theorem half_ex (w : World) (B : Nat) (hb : Bytes w B 0 4 wf4) : Calls Try.prog 20 #[.slice (some ⟨B, 0, none⟩) 4 4, .int .i64 1] w fun e w' => e = .returned (.tuple #[.int .u32 4294967294, .bool true]) ∧ w = w' :=
  (wHalf_yes B 0 4 4 1 wf4 w (by decide) (by decide) hb wf4_is (by decide)).mono fun e w' ⟨he, hw⟩ => ⟨he.trans (by simp [jn, sh, wf4, h16]), hw⟩
/-- What has grown and grows again has grown. -/
theorem grownThen {w w1 w2 : World} (h : Grown w w1) (k : Grown w1 w2) : Grown w w2 := by
  obtain ⟨h1, h2, h3⟩ := h
  obtain ⟨k1, k2, k3⟩ := k
  refine ⟨World.keptBut_trans h1 k1, fun x => ?_, by omega⟩
  rw [k2, h2]
theorem works_any (w : World) : Calls Try.prog 18 #[] w fun e w' => e = .returned (.bool true) ∧ Grown w w' ∧ Below w.heap.size w w' := by
  go_enter Try.func18, Try.ntmps18
  go_wp2_with fail
  refine (add_ex _).mono ?_
  rintro e w' ⟨rfl, rfl⟩
  go_wp2_with fail
  refine (half_ex _ _ (wf4_at _)).mono ?_
  rintro e w' ⟨rfl, rfl⟩
  go_wp2_with fail
  refine (cmp_ex _).mono ?_
  rintro e w' ⟨rfl, rfl⟩
  go_wp2
  go_ret
  exact ⟨rfl, (Grown.refl _).alloc _ _, (Below.refl _ _).alloc (Nat.le_refl _) _⟩

end W
end Go.Proofs.Ytkbnciekhllcpaa
