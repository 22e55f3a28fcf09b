/- The contracts of the program's pairs of 64-bit words. -/
import Derived.Test.YtlpekknhaaddcaaDoorDcDiv64
import Derived.Test.YtlpekknhaaddcaaDoorDcBase
namespace Go.Proofs.YtlpekknhaaddcaaDoor
open Go.RowKit Go.Shelf
set_option linter.unusedVariables false
namespace E

/-- A number as a pair of words. -/
def pv (n : Nat) : Value := .agg #[.int .u64 ((n / 18446744073709551616 : Nat) : Int), .int .u64 ((n % 18446744073709551616 : Nat) : Int)]
theorem pv_mk {n a b : Nat} (h : n = a * 18446744073709551616 + b) (hb : b < 18446744073709551616) : pv n = .agg #[.int .u64 (a : Int), .int .u64 (b : Int)] := by
  have h1 : n / 18446744073709551616 = a := by omega
  have h2 : n % 18446744073709551616 = b := by omega
  unfold pv
  rw [h1, h2]
theorem pv_of (n : Nat) (h : n < 340282366920938463463374607431768211456) : ∃ a b : Nat, n = a * 18446744073709551616 + b ∧ a < 18446744073709551616 ∧ b < 18446744073709551616 ∧ pv n = .agg #[.int .u64 (a : Int), .int .u64 (b : Int)] :=
  ⟨n / 18446744073709551616, n % 18446744073709551616, by omega, by omega, by omega, rfl⟩
theorem below2 (w : World) (a b : Obj) : Below w.heap.size w ((w.alloc a).alloc b) := bel0 (below_new w a) (below_new _ b)
theorem below3 (w : World) (a b c : Obj) : Below w.heap.size w (((w.alloc a).alloc b).alloc c) := bel0 (below2 w a b) (below_new _ c)
theorem belowD {w W : World} (h : Below w.heap.size w W) (m : Nat) : Below w.heap.size w (W.drewN m) := bel0 h (belowDraw W m)
set_option maxRecDepth 100000 in
theorem pplus_any (x y : Nat) (w : World) (h : x + y < 340282366920938463463374607431768211456) :
    Calls Tryd.prog 62 #[pv x, pv y] w (New w (pv (x + y))) := by
  obtain ⟨a, b, hx, ha, hb, ex⟩ := pv_of x (by omega)
  obtain ⟨c, d, hy, hc, hd, ey⟩ := pv_of y (by omega)
  rw [ex, ey]
  have A1 : ∀ W, (callFunc 78 #[.int .u64 b, .int .u64 d, .int .u64 0]).run Tryd.prog W = .ok (.value (.tuple #[.int .u64 (((b + d + 0) % 18446744073709551616 : Nat) : Int), .int .u64 (((b + d + 0) / 18446744073709551616 : Nat) : Int)])) W := fun W => add64_run b d 0 (by omega) W
  obtain ⟨l, hl⟩ : ∃ l, l = (b + d + 0) % 18446744073709551616 := ⟨_, rfl⟩
  obtain ⟨k, hk⟩ : ∃ k, k = (b + d + 0) / 18446744073709551616 := ⟨_, rfl⟩
  rw [← hl, ← hk] at A1
  have A2 := fun W => add64_run a c k (by omega) W
  obtain ⟨m, hm⟩ : ∃ m, m = (a + c + k) % 18446744073709551616 := ⟨_, rfl⟩
  obtain ⟨r, hr⟩ : ∃ r, r = (a + c + k) / 18446744073709551616 := ⟨_, rfl⟩
  rw [← hm, ← hr] at A2
  have hv := Lib.hid (pv_mk (n := x + y) (a := m) (b := l) (by omega) (by omega))
  clear ex ey hl hk hm hr hx hy h
  go_enter Tryd.func62, Tryd.ntmps62
  go_wp2
  refine bodyPost_ret (v := pv (x + y)) ?_ rfl ⟨rfl, below3 _ _ _ _⟩
  rw [results_cell1 rfl, hv.out]
  go_simp
set_option maxRecDepth 100000 in
theorem pminus_any (x y : Nat) (w : World) (hx : x < 340282366920938463463374607431768211456) (h : y ≤ x) :
    Calls Tryd.prog 64 #[pv x, pv y] w (New w (pv (x - y))) := by
  obtain ⟨a, b, hx, ha, hb, ex⟩ := pv_of x (by omega)
  obtain ⟨c, d, hy, hc, hd, ey⟩ := pv_of y (by omega)
  rw [ex, ey]
  have A1 : ∀ W, (callFunc 81 #[.int .u64 b, .int .u64 d, .int .u64 0]).run Tryd.prog W = .ok (.value (.tuple #[.int .u64 (((b + 18446744073709551616 - d - 0) % 18446744073709551616 : Nat) : Int), .int .u64 ((if b < d + 0 then 1 else 0 : Nat) : Int)])) W := fun W => sub64_run b d 0 (by omega) W
  obtain ⟨l, hl⟩ : ∃ l, l = (b + 18446744073709551616 - d - 0) % 18446744073709551616 := ⟨_, rfl⟩
  obtain ⟨k, hk⟩ : ∃ k : Nat, k = (if b < d + 0 then 1 else 0) := ⟨_, rfl⟩
  have hk1 : k ≤ 1 := by rw [hk]; split <;> omega
  have hlk : b + k * 18446744073709551616 = l + d := by
    rw [hl, hk]
    split <;> omega
  rw [← hl, ← hk] at A1
  have A2 := fun W => sub64_run a c k hk1 W
  obtain ⟨m, hm⟩ : ∃ m, m = (a + 18446744073709551616 - c - k) % 18446744073709551616 := ⟨_, rfl⟩
  obtain ⟨r, hr⟩ : ∃ r : Nat, r = (if a < c + k then 1 else 0) := ⟨_, rfl⟩
  rw [← hm, ← hr] at A2
  have hlb : l < 18446744073709551616 := by omega
  have hv := Lib.hid (pv_mk (n := x - y) (a := m) (b := l) (by omega) hlb)
  clear ex ey hl hk hm hr hx hy h hk1 hlk
  go_enter Tryd.func64, Tryd.ntmps64
  go_wp2
  refine bodyPost_ret (v := pv (x - y)) ?_ rfl ⟨rfl, below3 _ _ _ _⟩
  rw [results_cell1 rfl, hv.out]
  go_simp
theorem mul_split {a b K y : Nat} : (a * K + b) * y = a * y * K + b * y := by
  rw [Nat.add_mul, Nat.mul_right_comm]
set_option maxRecDepth 100000 in
theorem ptimes_any (x y : Nat) (w : World) (hx : x < 340282366920938463463374607431768211456) (hy : y < 18446744073709551616) (h : x * y < 340282366920938463463374607431768211456) :
    Calls Tryd.prog 50 #[pv x, .int .u64 (y : Int)] w (New w (pv (x * y))) := by
  obtain ⟨a, b, hx, ha, hb, ex⟩ := pv_of x (by omega)
  rw [ex]
  have A1 := fun W => mul64_any b y hb hy W
  obtain ⟨l, hl⟩ : ∃ l, l = b * y % 18446744073709551616 := ⟨_, rfl⟩
  obtain ⟨k, hk⟩ : ∃ k, k = b * y / 18446744073709551616 := ⟨_, rfl⟩
  rw [← hl, ← hk] at A1
  have HA := Lib.hid A1
  have hm := mul_split (a := a) (b := b) (K := 18446744073709551616) (y := y)
  rw [← hx] at hm
  obtain ⟨p, hp⟩ : ∃ p, p = a * y := ⟨_, rfl⟩
  rw [← hp] at hm
  have hpe : (a : Int) * (y : Int) = (p : Int) := by rw [hp]; exact (Int.natCast_mul _ _).symm
  have hlk : b * y = k * 18446744073709551616 + l := by omega
  rw [hlk] at hm
  have hpk : k + p < 18446744073709551616 := Nat.lt_of_not_le fun h' => by omega
  have hv := Lib.hid (pv_mk (n := x * y) (a := k + p) (b := l) (by rw [hm, Nat.add_mul, Nat.add_comm (k * 18446744073709551616) (p * 18446744073709551616), Nat.add_assoc]) (by omega))
  have hc : ((k + p : Nat) : Int) = (k : Int) + (p : Int) := by omega
  have HC := Lib.hid hc
  clear ex hl hk hx hm hlk A1 hp h hc
  go_enter Tryd.func50, Tryd.ntmps50
  go_wp2_with fail
  refine (HA.out _).mono ?_
  rintro e w' ⟨rfl, rfl⟩
  go_wp2
  refine bodyPost_ret (v := pv (x * y)) ?_ rfl ⟨rfl, below2 _ _ _⟩
  rw [results_cell1 rfl, hv.out, HC.out]
  go_simp
theorem one_step (a b K y : Nat) (hy : 0 < y) : (a * K + b) / y = a / y * K + (a % y * K + b) / y ∧ (a * K + b) % y = (a % y * K + b) % y := by
  have h := Nat.div_add_mod a y
  have e : a * K + b = y * (a / y * K) + (a % y * K + b) := by
    rw [← Nat.add_assoc, ← Nat.mul_assoc, ← Nat.add_mul, h]
  have h2 : ∀ q r, (y * (q * K) + r) / y = q * K + r / y ∧ (y * (q * K) + r) % y = r % y := fun q r => ⟨Nat.mul_add_div hy _ _, Nat.mul_add_mod _ _ _⟩
  have h3 := h2 (a / y) (a % y * K + b)
  rw [← e] at h3
  exact h3
/-- A quotient as a pair, and a remainder. -/
def QPost (w : World) (q r : Nat) (e : Ending) (w' : World) : Prop := New w (.tuple #[pv q, .int .u64 (r : Int)]) e w'
set_option maxRecDepth 100000 in
theorem pdiv_any (x y : Nat) (w : World) (hx : x < 340282366920938463463374607431768211456) (h0 : 0 < y) (hy : y < 18446744073709551616) :
    Calls Tryd.prog 55 #[pv x, .int .u64 (y : Int)] w (QPost w (x / y) (x % y)) := by
  obtain ⟨a, b, hx, ha, hb, ex⟩ := pv_of x (by omega)
  rw [ex]
  have A1 := fun W => div64_any 0 a y W hy ha h0
  simp only [Nat.zero_mul, Nat.zero_add] at A1
  have hr := Nat.mod_lt a h0
  obtain ⟨e1, e2⟩ := one_step a b 18446744073709551616 y h0
  rw [← hx] at e1 e2
  have A2 := fun W => div64_any (a % y) b y W hy hb hr
  have hlt : (a % y * 18446744073709551616 + b) / y < 18446744073709551616 := k_lt' hr hb
  have hv := Lib.hid (pv_mk (n := x / y) (a := a / y) (b := (a % y * 18446744073709551616 + b) / y) e1 hlt)
  have HA1 := Lib.hid A1
  have HA2 := Lib.hid A2
  have hr2 := Nat.mod_lt (a % y * 18446744073709551616 + b) h0
  have HE2 := Lib.hid e2
  have h00 : (((0 : Nat)) : Int) = 0 := rfl
  unfold DivPost at HA1 HA2
  rw [h00] at HA1
  generalize (a % y * 18446744073709551616 + b) / y = q2 at *
  generalize (a % y * 18446744073709551616 + b) % y = r2 at *
  generalize a % y = r1 at *
  generalize a / y = q1 at *
  clear ex hx A1 A2 e1 e2 h00
  go_enter Tryd.func55, Tryd.ntmps55
  go_wp2_with fail
  refine (HA1.out _).mono ?_
  rintro e w' ⟨m1, rfl, rfl⟩
  go_wp2_with fail
  refine (HA2.out _).mono ?_
  rintro e w' ⟨m2, rfl, rfl⟩
  go_wp2
  refine bodyPost_ret (v := .tuple #[pv (x / y), .int .u64 ((x % y : Nat) : Int)]) ?_ rfl ⟨rfl, ?_⟩
  · rw [results_cell_tmp rfl, hv.out, HE2.out]
    go_simp
  · exact ((belowD (below2 w _ _) _).setCell (p := ⟨w.heap.size + 1, 0, none⟩) (Nat.le_succ _) _).setCell (p := ⟨w.heap.size + 1, 1, none⟩) (Nat.le_succ _) _

/-! ### The order -/

/-- What the comparison of two words answers. -/
def cmpN (x y : Nat) : Int := if x < y then -1 else if y < x then 1 else 0
theorem isnan_any (x : Nat) (w : World) : Calls Tryd.prog 93 #[.int .u64 (x : Int)] w fun e w' => e = .returned (.bool false) ∧ w = w' := by
  go_enter Tryd.func93, Tryd.ntmps93
  go_wp2
  go_ret
  exact ⟨rfl, rfl⟩
theorem cmp_any (x y : Nat) (w : World) : Calls Tryd.prog 80 #[.int .u64 (x : Int), .int .u64 (y : Int)] w fun e w' => e = .returned (.int .i64 (cmpN x y)) ∧ w = w' := by
  have HN := Lib.hid (fun x W => isnan_any x W)
  unfold cmpN
  by_cases h1 : x < y
  · rw [if_pos h1]
    go_enter Tryd.func80, Tryd.ntmps80
    go_wp2_with fail
    refine (HN.out _ _).mono ?_
    rintro e w' ⟨rfl, rfl⟩
    go_wp2_with fail
    refine (HN.out _ _).mono ?_
    rintro e w' ⟨rfl, rfl⟩
    go_wp2
    go_ret
    exact ⟨rfl, rfl⟩
  · rw [if_neg h1]
    by_cases h2 : y < x
    · rw [if_pos h2]
      go_enter Tryd.func80, Tryd.ntmps80
      go_wp2_with fail
      refine (HN.out _ _).mono ?_
      rintro e w' ⟨rfl, rfl⟩
      go_wp2_with fail
      refine (HN.out _ _).mono ?_
      rintro e w' ⟨rfl, rfl⟩
      go_wp2
      go_ret
      exact ⟨rfl, rfl⟩
    · rw [if_neg h2]
      go_enter Tryd.func80, Tryd.ntmps80
      go_wp2_with fail
      refine (HN.out _ _).mono ?_
      rintro e w' ⟨rfl, rfl⟩
      go_wp2_with fail
      refine (HN.out _ _).mono ?_
      rintro e w' ⟨rfl, rfl⟩
      go_wp2
      go_ret
      exact ⟨rfl, rfl⟩
/-- The first of two numbers that is not zero. -/
def orN (a b : Int) : Int := if a = 0 then b else a
theorem or_any (a b : Int) (g : Nat) (w : World) (h0 : w.cell? ⟨g, 0, none⟩ = some (.int .i64 a)) (h1 : w.cell? ⟨g, 1, none⟩ = some (.int .i64 b)) :
    Calls Tryd.prog 79 #[.slice (some ⟨g, 0, none⟩) 2 2] w fun e w' => e = .returned (.int .i64 (orN a b)) ∧ w = w' := by
  go_enter Tryd.func79, Tryd.ntmps79
  go_wp2
  go_loop [5, 8] (fun v i => ∃ k : Nat, k ≤ 2 ∧ i = .int .i64 k ∧ (1 ≤ k → a = 0) ∧ (2 ≤ k → b = 0)) (fun _ i => 2 - (intOf i).toNat)
  case atStart => exact ⟨0, by omega, rfl, by omega, by omega⟩
  case round =>
    obtain ⟨k, hk, rfl, ha, hb⟩ := hrel
    match k, hk with
    | 0, _ =>
      by_cases hz : a = 0
      · subst hz
        go_wp2
        go_round
        case rel => exact ⟨1, by omega, rfl, fun _ => trivial, by omega⟩
        case measure => simp [intOf]
      · have hzb : (a == 0) = false := by simpa using hz
        have hv : orN a b = a := by unfold orN; rw [if_neg hz]
        have HV := Lib.hid hv
        clear hv hz
        go_wp2
        go_ret
        exact ⟨by rw [HV.out]; rfl, rfl⟩
    | 1, _ =>
      obtain rfl := ha (by omega)
      by_cases hz : b = 0
      · subst hz
        go_wp2
        go_round
        case rel => exact ⟨2, by omega, rfl, fun _ => trivial, fun _ => trivial⟩
        case measure => simp [intOf]
      · have hzb : (b == 0) = false := by simpa using hz
        have hv : orN 0 b = b := by unfold orN; rw [if_pos rfl]
        have HV := Lib.hid hv
        clear hv hz
        go_wp2
        go_ret
        exact ⟨by rw [HV.out]; rfl, rfl⟩
    | 2, _ =>
      obtain rfl := ha (by omega)
      obtain rfl := hb (by omega)
      go_wp2
      go_ret
      exact ⟨rfl, rfl⟩
/-- Does the pair's order say less? -/
theorem cmp_lt {a b c d x y : Nat} (hx : x = a * 18446744073709551616 + b) (hy : y = c * 18446744073709551616 + d) (hb : b < 18446744073709551616) (hd : d < 18446744073709551616) :
    decide (orN (cmpN a c) (cmpN b d) < 0) = decide (x < y) := by
  have e : (orN (cmpN a c) (cmpN b d) < 0) ↔ x < y := by
    unfold orN cmpN
    rcases Nat.lt_trichotomy a c with h | h | h
    · rw [if_pos h, if_neg (by omega)]
      exact ⟨fun _ => Nat.lt_of_not_le fun h' => by omega, fun _ => by omega⟩
    · subst h
      rw [if_neg (Nat.lt_irrefl a), if_neg (Nat.lt_irrefl a), if_pos rfl]
      rcases Nat.lt_trichotomy b d with h | h | h
      · rw [if_pos h]
        exact ⟨fun _ => Nat.lt_of_not_le fun h' => by omega, fun _ => by omega⟩
      · rw [if_neg (by omega), if_neg (by omega)]
        exact ⟨fun h' => by omega, fun h' => by omega⟩
      · rw [if_neg (by omega), if_pos h]
        exact ⟨fun h' => by omega, fun h' => by omega⟩
    · rw [if_neg (by omega), if_pos h, if_neg (by omega)]
      exact ⟨fun h' => by omega, fun h' => by omega⟩
  simp only [e]

end E
end Go.Proofs.YtlpekknhaaddcaaDoor
