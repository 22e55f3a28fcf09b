/- The sizes' statement of PackedKnown: its region, by what holds of each of its states; small contracts. -/
import Derived.Test.YtgnaiolbleadbaaDoorPkRg
import Derived.Test.YtgnaiolbleadbaaDoorPkLaid
import Derived.Test.YtgnaiolbleadbaaDoorPkWorks
namespace Go.Proofs.YtgnaiolbleadbaaDoor
open Go.RowKit Go.Shelf
set_option linter.unusedVariables false
namespace E

set_option maxRecDepth 100000 in
theorem not_no (p : Option Addr) (n c : Nat) (w : World) (hl : ¬ (1 ≤ n ∧ n ≤ 16)) : Calls Tryd.prog 30 #[.slice p n c] w (New w (.bool true)) := by
  have HD := Lib.hid (decode_no p n c w hl)
  clear hl
  go_enter Tryd.func30, Tryd.ntmps30
  go_wp2_with fail
  refine (HD.out).mono ?_
  rintro e w1 ⟨rfl, hb1⟩
  have HB := Lib.hid (hb1.trans ((below_new w1 (.cells #[.bool false, .string ⟨#[]⟩] 26)).mono hb1.size))
  clear hb1
  go_wp2
  go_ret
  exact ⟨rfl, HB.out⟩
theorem conv_no (p : Option Addr) (c m a1 a2 a3 b1 b2 b3 : Nat) (n : Int) (a4 b4 : UInt8) (w : World) (h : szB m n = false) :
    Calls Tryd.prog 41 #[.slice p m c, layV a1 a2 a3 a4, layV b1 b2 b3 b4, .int .i64 n] w (New w (.slice none 0 0)) := by
  by_cases h1 : 1 ≤ m ∧ m ≤ 16
  · refine convert_no2 p c m a1 a2 a3 b1 b2 b3 n a4 b4 w h1 (fun h2 => ?_)
    unfold szB at h
    rw [decide_eq_true h1, decide_eq_true h2] at h
    cases h
  · exact convert_no1 p c m a1 a2 a3 b1 b2 b3 n a4 b4 w h1
theorem pack_no (p : Option Addr) (m c : Nat) (n : Int) (w : World) (h : szB m n = false) : Calls Tryd.prog 18 #[.slice p m c, .int .i64 n] w (New w (.slice none 0 0)) := by
  have HC := Lib.hid (fun W => conv_no p c m 1 0 2 0 1 1 n 240 0 W h)
  clear h
  go_enter Tryd.func18, Tryd.ntmps18
  go_wp2_with fail
  refine (zonedLayout_any _).mono ?_
  rintro e w1 ⟨rfl, hb1⟩
  have HB1 := Lib.hid hb1
  clear hb1
  go_wp2_with fail
  refine (packedLayout_any _).mono ?_
  rintro e w2 ⟨rfl, hb2⟩
  have HB2 := Lib.hid (bel0 HB1.out hb2)
  clear hb2 HB1
  go_wp2_with fail
  refine (HC.out _).mono ?_
  rintro e w3 ⟨rfl, hb3⟩
  have HB3 := Lib.hid (bel0 HB2.out hb3)
  clear hb3
  go_wp2
  go_ret
  exact ⟨rfl, HB3.out⟩
theorem unpack_no (p : Option Addr) (m c : Nat) (n : Int) (w : World) (h : szB m n = false) : Calls Tryd.prog 20 #[.slice p m c, .int .i64 n] w (New w (.slice none 0 0)) := by
  have HC := Lib.hid (fun W => conv_no p c m 0 1 1 1 0 2 n 0 240 W h)
  clear h
  go_enter Tryd.func20, Tryd.ntmps20
  go_wp2_with fail
  refine (packedLayout_any _).mono ?_
  rintro e w1 ⟨rfl, hb1⟩
  have HB1 := Lib.hid hb1
  clear hb1
  go_wp2_with fail
  refine (zonedLayout_any _).mono ?_
  rintro e w2 ⟨rfl, hb2⟩
  have HB2 := Lib.hid (bel0 HB1.out hb2)
  clear hb2 HB1
  go_wp2_with fail
  refine (HC.out _).mono ?_
  rintro e w3 ⟨rfl, hb3⟩
  have HB3 := Lib.hid (bel0 HB2.out hb3)
  clear hb3
  go_wp2
  go_ret
  exact ⟨rfl, HB3.out⟩
theorem off_no (p q : Option Addr) (m k c d : Nat) (w : World) (h : szB m k = false) : Calls Tryd.prog 22 #[.slice p m c, .slice q k d] w (New w (.slice none 0 0)) := by
  by_cases h1 : 1 ≤ m ∧ m ≤ 16
  · refine offset_no2 p q m k c d w h1 (fun h2 => ?_)
    unfold szB at h
    rw [decide_eq_true h1, decide_eq_true (by omega)] at h
    cases h
  · exact offset_no1 p q m k c d w h1
/-- The digit at the place of the sign. -/
theorem sign_x : ∀ k : Nat, k < 16 → dOk [UInt8.ofNat (112 + k)] = decide (9 < k) ∧ dNeg [UInt8.ofNat (112 + k)] = decide (k = 11 ∨ k = 13) ∧ dDig [UInt8.ofNat (112 + k)] = if 9 < k then [55] else [] := by decide +kernel
theorem byte_x : ∀ k : Nat, k < 16 → ((UInt8.ofNat (112 + k)).toNat : Int) = 112 + (k : Int) := by decide +kernel
theorem dec_x (k : Nat) (hk : k < 16) (W : World) (hg : Sg W) : Calls Tryd.prog 25 #[.slice (some ⟨W.heap.size, 0, none⟩) 1 1] (W.alloc (.cells #[.int .u8 (112 + (k : Int))] 5))
    (New (W.alloc (.cells #[.int .u8 (112 + (k : Int))] 5)) (.tuple #[.agg #[.bool (decide (k = 11 ∨ k = 13)), .string (if 9 < k then ⟨#[55]⟩ else ⟨#[]⟩)], .bool (decide (9 < k))])) := by
  have h := decode_any _ 1 [UInt8.ofNat (112 + k)] _ (rd_new W _ 5) (hg.below (below_new _ _))
  obtain ⟨h1, h2, h3⟩ := sign_x k hk
  have e : (bsU [UInt8.ofNat (112 + k)]).toArray = #[.int .u8 (112 + (k : Int))] := by
    unfold bsU
    rw [List.map_cons, List.map_nil, byte_x k hk]
  rw [e] at h
  refine h.mono fun e w' ⟨he, hb⟩ => ⟨?_, hb⟩
  rw [he, h1, h2, h3]
  by_cases h9 : 9 < k
  · rw [if_pos h9, if_pos h9]
  · rw [if_neg h9, if_neg h9]
/-- What is held of each world of the sizes' statement. -/
def KnS (w0 : World) (g : Nat) (W : World) : Prop := Below w0.heap.size w0 W ∧ Rd W (some ⟨g, 0, none⟩) [18, 52, 86, 120, 144, 18, 52, 86, 120, 144, 18, 52, 86, 120, 144, 28]
theorem KnS.next {w0 W W' : World} {g : Nat} (h : KnS w0 g W) (hb : Below W.heap.size W W') : KnS w0 g W' := ⟨bel0 h.1 hb, h.2.below hb⟩
theorem v_0 (w : World) : Calls Tryd.prog 29 #[.agg #[.bool false, .string ⟨#[49, 50, 51, 52, 53, 54, 55, 56, 57, 48, 49, 50, 51, 52, 53, 54, 55, 56, 57, 48, 49, 50, 51, 52, 53, 54, 55, 56, 57, 48, 49]⟩]] w (New w (.bool true)) := (valid_any false _ w).mono fun e w' ⟨he, hb⟩ => ⟨he.trans (by kernel_rfl), hb⟩
theorem v_1 (w : World) : Calls Tryd.prog 29 #[.agg #[.bool false, .string ⟨#[49, 50, 51, 52, 53, 54, 55, 56, 57, 48, 49, 50, 51, 52, 53, 54, 55, 56, 57, 48, 49, 50, 51, 52, 53, 54, 55, 56, 57, 48, 49, 50]⟩]] w (New w (.bool false)) := (valid_any false _ w).mono fun e w' ⟨he, hb⟩ => ⟨he.trans (by kernel_rfl), hb⟩
theorem v_2 (w : World) : Calls Tryd.prog 29 #[.agg #[.bool true, .string ⟨#[48]⟩]] w (New w (.bool true)) := (valid_any true _ w).mono fun e w' ⟨he, hb⟩ => ⟨he.trans (by kernel_rfl), hb⟩
theorem v_3 (w : World) : Calls Tryd.prog 29 #[.agg #[.bool false, .string ⟨#[]⟩]] w (New w (.bool false)) := (valid_any false _ w).mono fun e w' ⟨he, hb⟩ => ⟨he.trans (by kernel_rfl), hb⟩
theorem v_4 (w : World) : Calls Tryd.prog 29 #[.agg #[.bool false, .string ⟨#[48, 48, 55]⟩]] w (New w (.bool false)) := (valid_any false _ w).mono fun e w' ⟨he, hb⟩ => ⟨he.trans (by kernel_rfl), hb⟩
theorem v_5 (w : World) : Calls Tryd.prog 29 #[.agg #[.bool false, .string ⟨#[49, 32]⟩]] w (New w (.bool false)) := (valid_any false _ w).mono fun e w' ⟨he, hb⟩ => ⟨he.trans (by kernel_rfl), hb⟩
theorem v_6 (w : World) : Calls Tryd.prog 29 #[.agg #[.bool false, .string ⟨#[45, 49]⟩]] w (New w (.bool false)) := (valid_any false _ w).mono fun e w' ⟨he, hb⟩ => ⟨he.trans (by kernel_rfl), hb⟩
theorem enc_long (w : World) : Calls Tryd.prog 24 #[.agg #[.bool false, .string ⟨#[49, 50, 51, 52, 53, 54, 55, 56, 57, 48, 49, 50, 51, 52, 53, 54, 55, 56, 57, 48, 49, 50, 51, 52, 53, 54, 55, 56, 57, 48, 49]⟩], .int .i64 16] w (ZPost w 16 false [18, 52, 86, 120, 144, 18, 52, 86, 120, 144, 18, 52, 86, 120, 144, 28]) :=
  EnPost.yes' (n := 16) (penc_any false ⟨#[49, 50, 51, 52, 53, 54, 55, 56, 57, 48, 49, 50, 51, 52, 53, 54, 55, 56, 57, 48, 49, 50, 51, 52, 53, 54, 55, 56, 57, 48, 49]⟩ 16 _ w rfl) (by decide +kernel) (by decide +kernel) (by decide +kernel)
theorem rd_cell {W : World} {g : Nat} {l : List UInt8} (h : Rd W (some ⟨g, 0, none⟩) l) (j : Nat) (hj : j < l.length) : W.cell? ⟨g, j, none⟩ = some (.int .u8 ((gt l j).toNat : Int)) := by
  rcases h with h | ⟨B, off, e, hc⟩
  · subst h; simp at hj
  · cases e
    have := hc j hj
    rwa [Nat.zero_add] at this
theorem z_no (w : World) : Calls Tryd.prog 27 #[.agg #[.bool false, .string ⟨#[48, 48, 55]⟩], .int .i64 3] w (New w (.tuple #[.slice none 0 0, .bool false])) :=
  (pzon_any false ⟨#[48, 48, 55]⟩ 3 _ w rfl).mono fun e w' h => by
    rcases h with ⟨ho, _⟩ | ⟨_, h⟩
    · exact absurd ho (by decide +kernel)
    · exact h

/-- The slots of the sizes' statement, in the order of its operations. -/
def szD : List Nat := [85, 86, 87, 88, 89, 90, 91, 92, 93, 94, 95, 96, 97, 98, 99, 100, 101, 102, 103, 104, 105, 106, 107, 108, 109, 110, 111, 112, 8]
/-- What each of them holds. -/
def szV (j : Nat) (v : Value) : Prop :=
  if j ∈ [0, 3, 7, 11, 15, 19, 24] then v = .slice none 0 0
  else if j ∈ [2, 6, 14, 18, 22] then ∃ b, v = .slice (some ⟨b, 0, none⟩) 1 1
  else if j ∈ [10, 23] then ∃ b, v = .slice (some ⟨b, 0, none⟩) 17 17
  else if j ∈ [27, 28] then v = .bool true
  else v = .int .i64 0
def szOps : Array Oper := #[{ dst := some 85, op := Op.call { callee := Callee.value (Operand.func 18), args := #[Operand.const (Value.slice none 0 0), Operand.const (Value.int IntKind.i64 1)], argTypes := #[22, 3] }, type := 22, pos := "outright.go:152", after := #[], guard := none },
    { dst := some 86, op := Op.call { callee := Callee.builtin Builtin.len, args := #[Operand.tmp 85], argTypes := #[22] }, type := 3, pos := "outright.go:152", after := #[{ on := 0, ground := Ground.data }], guard := none },
    { dst := some 87, op := Op.buildSlice 22 1 #[(0, Operand.const (Value.int IntKind.u8 1))], type := 22, pos := "outright.go:152", after := #[], guard := none },
    { dst := some 88, op := Op.call { callee := Callee.value (Operand.func 18), args := #[Operand.tmp 87, Operand.const (Value.int IntKind.i64 0)], argTypes := #[22, 3] }, type := 22, pos := "outright.go:152", after := #[{ on := 2, ground := Ground.data }, { on := 0, ground := Ground.chain }], guard := none },
    { dst := some 89, op := Op.call { callee := Callee.builtin Builtin.len, args := #[Operand.tmp 88], argTypes := #[22] }, type := 3, pos := "outright.go:152", after := #[{ on := 3, ground := Ground.data }], guard := none },
    { dst := some 90, op := Op.binOp BinOp.add 3 (Operand.tmp 86) (Operand.tmp 89) 3, type := 3, pos := "outright.go:152", after := #[{ on := 1, ground := Ground.data }, { on := 4, ground := Ground.data }], guard := none },
    { dst := some 91, op := Op.buildSlice 22 1 #[(0, Operand.const (Value.int IntKind.u8 1))], type := 22, pos := "outright.go:152", after := #[], guard := none },
    { dst := some 92, op := Op.call { callee := Callee.value (Operand.func 18), args := #[Operand.tmp 91, Operand.const (Value.int IntKind.i64 17)], argTypes := #[22, 3] }, type := 22, pos := "outright.go:152", after := #[{ on := 6, ground := Ground.data }, { on := 3, ground := Ground.chain }], guard := none },
    { dst := some 93, op := Op.call { callee := Callee.builtin Builtin.len, args := #[Operand.tmp 92], argTypes := #[22] }, type := 3, pos := "outright.go:152", after := #[{ on := 7, ground := Ground.data }], guard := none },
    { dst := some 94, op := Op.binOp BinOp.add 3 (Operand.tmp 90) (Operand.tmp 93) 3, type := 3, pos := "outright.go:152", after := #[{ on := 5, ground := Ground.data }, { on := 8, ground := Ground.data }], guard := none },
    { dst := some 95, op := Op.makeSlice 22 (Operand.const (Value.int IntKind.i64 17)) (Operand.const (Value.int IntKind.i64 17)), type := 22, pos := "outright.go:152", after := #[], guard := none },
    { dst := some 96, op := Op.call { callee := Callee.value (Operand.func 20), args := #[Operand.tmp 95, Operand.const (Value.int IntKind.i64 1)], argTypes := #[22, 3] }, type := 22, pos := "outright.go:152", after := #[{ on := 10, ground := Ground.data }, { on := 7, ground := Ground.chain }], guard := none },
    { dst := some 97, op := Op.call { callee := Callee.builtin Builtin.len, args := #[Operand.tmp 96], argTypes := #[22] }, type := 3, pos := "outright.go:152", after := #[{ on := 11, ground := Ground.data }], guard := none },
    { dst := some 98, op := Op.binOp BinOp.add 3 (Operand.tmp 94) (Operand.tmp 97) 3, type := 3, pos := "outright.go:152", after := #[{ on := 9, ground := Ground.data }, { on := 12, ground := Ground.data }], guard := none },
    { dst := some 99, op := Op.buildSlice 22 1 #[(0, Operand.const (Value.int IntKind.u8 1))], type := 22, pos := "outright.go:152", after := #[], guard := none },
    { dst := some 100, op := Op.call { callee := Callee.value (Operand.func 20), args := #[Operand.tmp 99, Operand.const (Value.int IntKind.i64 (-1))], argTypes := #[22, 3] }, type := 22, pos := "outright.go:152", after := #[{ on := 14, ground := Ground.data }, { on := 11, ground := Ground.chain }], guard := none },
    { dst := some 101, op := Op.call { callee := Callee.builtin Builtin.len, args := #[Operand.tmp 100], argTypes := #[22] }, type := 3, pos := "outright.go:152", after := #[{ on := 15, ground := Ground.data }], guard := none },
    { dst := some 102, op := Op.binOp BinOp.add 3 (Operand.tmp 98) (Operand.tmp 101) 3, type := 3, pos := "outright.go:152", after := #[{ on := 13, ground := Ground.data }, { on := 16, ground := Ground.data }], guard := none },
    { dst := some 103, op := Op.buildSlice 22 1 #[(0, Operand.const (Value.int IntKind.u8 1))], type := 22, pos := "outright.go:152", after := #[], guard := none },
    { dst := some 104, op := Op.call { callee := Callee.value (Operand.func 22), args := #[Operand.const (Value.slice none 0 0), Operand.tmp 103], argTypes := #[22, 22] }, type := 22, pos := "outright.go:152", after := #[{ on := 18, ground := Ground.data }, { on := 15, ground := Ground.chain }], guard := none },
    { dst := some 105, op := Op.call { callee := Callee.builtin Builtin.len, args := #[Operand.tmp 104], argTypes := #[22] }, type := 3, pos := "outright.go:152", after := #[{ on := 19, ground := Ground.data }], guard := none },
    { dst := some 106, op := Op.binOp BinOp.add 3 (Operand.tmp 102) (Operand.tmp 105) 3, type := 3, pos := "outright.go:152", after := #[{ on := 17, ground := Ground.data }, { on := 20, ground := Ground.data }], guard := none },
    { dst := some 107, op := Op.buildSlice 22 1 #[(0, Operand.const (Value.int IntKind.u8 1))], type := 22, pos := "outright.go:152", after := #[], guard := none },
    { dst := some 108, op := Op.makeSlice 22 (Operand.const (Value.int IntKind.i64 17)) (Operand.const (Value.int IntKind.i64 17)), type := 22, pos := "outright.go:152", after := #[], guard := none },
    { dst := some 109, op := Op.call { callee := Callee.value (Operand.func 22), args := #[Operand.tmp 107, Operand.tmp 108], argTypes := #[22, 22] }, type := 22, pos := "outright.go:152", after := #[{ on := 22, ground := Ground.data }, { on := 23, ground := Ground.data }, { on := 19, ground := Ground.chain }], guard := none },
    { dst := some 110, op := Op.call { callee := Callee.builtin Builtin.len, args := #[Operand.tmp 109], argTypes := #[22] }, type := 3, pos := "outright.go:152", after := #[{ on := 24, ground := Ground.data }], guard := none },
    { dst := some 111, op := Op.binOp BinOp.add 3 (Operand.tmp 106) (Operand.tmp 110) 3, type := 3, pos := "outright.go:152", after := #[{ on := 21, ground := Ground.data }, { on := 25, ground := Ground.data }], guard := none },
    { dst := some 112, op := Op.binOp BinOp.eql 3 (Operand.tmp 111) (Operand.const (Value.int IntKind.i64 0)) 3, type := 4, pos := "outright.go:152", after := #[{ on := 26, ground := Ground.data }], guard := none },
    { dst := some 8, op := Op.assign (Operand.tmp 112), type := 4, pos := "outright.go:152", after := #[{ on := 27, ground := Ground.data }, { on := 24, ground := Ground.chain }, { on := 0, ground := Ground.phase }, { on := 1, ground := Ground.phase }, { on := 2, ground := Ground.phase }, { on := 3, ground := Ground.phase }, { on := 4, ground := Ground.phase }, { on := 5, ground := Ground.phase }, { on := 6, ground := Ground.phase }, { on := 7, ground := Ground.phase }, { on := 8, ground := Ground.phase }, { on := 9, ground := Ground.phase }, { on := 10, ground := Ground.phase }, { on := 11, ground := Ground.phase }, { on := 12, ground := Ground.phase }, { on := 13, ground := Ground.phase }, { on := 14, ground := Ground.phase }, { on := 15, ground := Ground.phase }, { on := 16, ground := Ground.phase }, { on := 17, ground := Ground.phase }, { on := 18, ground := Ground.phase }, { on := 19, ground := Ground.phase }, { on := 20, ground := Ground.phase }, { on := 21, ground := Ground.phase }, { on := 22, ground := Ground.phase }, { on := 23, ground := Ground.phase }, { on := 24, ground := Ground.phase }, { on := 25, ground := Ground.phase }, { on := 26, ground := Ground.phase }, { on := 27, ground := Ground.phase }], guard := none }]
theorem make17 (W : World) : (Instr.makeSlice 22 (.int .i64 17) (.int .i64 17)).run Tryd.prog W = .ok (.slice (some ⟨W.heap.size, 0, none⟩) 17 17) (W.alloc (.cells (madeCells (Value.int .u8 0).cells 17) 5)) := by
  obtain ⟨i0, hi, hz0, hz1, hz2⟩ := info_parts info5
  have h := run_make (P := Tryd.prog) W 22 5 i0 (.int .u8 0) Tryd.underlying22 hi hz0 .i64 .i64 17 17 (by omega) (by omega) (by rw [hz2]; omega) (by omega)
  rw [hz1] at h
  exact h
theorem szD_nodup : szD.Nodup := by decide
theorem step_plain {P : Program} {ops : Array Oper} {Q : Exit → Act → World → Prop} {i : Nat} {o : Oper} {K : Act → World → Prop} {a : Act} {w : World} (ho : ops[i]? = some o) (hg : o.guard = none)
    (h : ∀ K' : Act → World → Prop, (∀ a w, K a w → K' a w) → Oper.wp P o a w K' Q) : wpOp P ops Q i K a w :=
  wpOp_step ho fun K' hK => by
    rw [if_pos (by unfold Region.wanted; rw [hg])]
    exact h K' hK
theorem szOp_0 : szOps[0]? = some { dst := some 85, op := Op.call { callee := Callee.value (Operand.func 18), args := #[Operand.const (Value.slice none 0 0), Operand.const (Value.int IntKind.i64 1)], argTypes := #[22, 3] }, type := 22, pos := "outright.go:152", after := #[], guard := none } := rfl
set_option maxRecDepth 100000 in
theorem szStep_0 (a0 a : Act) (w w0 : World) (g : Nat) (Q : Exit → Act → World → Prop) (listed : Array Bool) (hsz : 112 < a0.tmps.size) (hI : RI szV (KnS w0 g) 29 szD a0 listed a w)
    (hd : ∀ e ∈ (#[] : Array Edge), Region.binds .any e = true → listed.getD e.on false = true) : wpOp Tryd.prog szOps Q 0 (RI szV (KnS w0 g) 29 szD a0 (listed.setIfInBounds 0 true)) a w := by
  have hg : ∀ k d, szD[k]? = some d → d < a0.tmps.size → listed.getD k false = true → szV k (a.tmps.getD d undef) := fun k d h1 h2 h3 => hI.get szD_nodup h1 h2 h3
  have HK := Lib.hid (fun v w' (hS : KnS w0 g w') (hv : szV 0 v) => hI.next (d := 85) (v := v) szD_nodup rfl hS hv)
  have HS := Lib.hid hI.2.1
  clear hg hd hI hsz
  refine step_plain szOp_0 rfl (fun K' hK => ?_)
  have HKK := Lib.hid hK
  clear hK
  go_simp
  refine (pack_no _ _ _ _ _ (by decide)).mono ?_
  rintro e u ⟨rfl, hb⟩
  exact HKK.out _ _ (HK.out _ _ (HS.out.next hb) (by simp [szV]))
theorem szOp_1 : szOps[1]? = some { dst := some 86, op := Op.call { callee := Callee.builtin Builtin.len, args := #[Operand.tmp 85], argTypes := #[22] }, type := 3, pos := "outright.go:152", after := #[{ on := 0, ground := Ground.data }], guard := none } := rfl
set_option maxRecDepth 100000 in
theorem szStep_1 (a0 a : Act) (w w0 : World) (g : Nat) (Q : Exit → Act → World → Prop) (listed : Array Bool) (hsz : 112 < a0.tmps.size) (hI : RI szV (KnS w0 g) 29 szD a0 listed a w)
    (hd : ∀ e ∈ (#[{ on := 0, ground := Ground.data }] : Array Edge), Region.binds .any e = true → listed.getD e.on false = true) : wpOp Tryd.prog szOps Q 1 (RI szV (KnS w0 g) 29 szD a0 (listed.setIfInBounds 1 true)) a w := by
  have hg : ∀ k d, szD[k]? = some d → d < a0.tmps.size → listed.getD k false = true → szV k (a.tmps.getD d undef) := fun k d h1 h2 h3 => hI.get szD_nodup h1 h2 h3
  have t0 : a.tmps.getD 85 undef = .slice none 0 0 := hg 0 85 rfl (by omega) (hd ⟨0, .data⟩ (by simp) rfl)
  have HK := Lib.hid (fun v w' (hS : KnS w0 g w') (hv : szV 1 v) => hI.next (d := 86) (v := v) szD_nodup rfl hS hv)
  have HS := Lib.hid hI.2.1
  clear hg hd hI hsz
  refine step_plain szOp_1 rfl (fun K' hK => ?_)
  have HKK := Lib.hid hK
  clear hK
  go_simp
  exact HKK.out _ _ (HK.out _ _ HS.out (by simp [szV]))
theorem szOp_2 : szOps[2]? = some { dst := some 87, op := Op.buildSlice 22 1 #[(0, Operand.const (Value.int IntKind.u8 1))], type := 22, pos := "outright.go:152", after := #[], guard := none } := rfl
set_option maxRecDepth 100000 in
theorem szStep_2 (a0 a : Act) (w w0 : World) (g : Nat) (Q : Exit → Act → World → Prop) (listed : Array Bool) (hsz : 112 < a0.tmps.size) (hI : RI szV (KnS w0 g) 29 szD a0 listed a w)
    (hd : ∀ e ∈ (#[] : Array Edge), Region.binds .any e = true → listed.getD e.on false = true) : wpOp Tryd.prog szOps Q 2 (RI szV (KnS w0 g) 29 szD a0 (listed.setIfInBounds 2 true)) a w := by
  have hg : ∀ k d, szD[k]? = some d → d < a0.tmps.size → listed.getD k false = true → szV k (a.tmps.getD d undef) := fun k d h1 h2 h3 => hI.get szD_nodup h1 h2 h3
  have HK := Lib.hid (fun v w' (hS : KnS w0 g w') (hv : szV 2 v) => hI.next (d := 87) (v := v) szD_nodup rfl hS hv)
  have HS := Lib.hid hI.2.1
  clear hg hd hI hsz
  refine step_plain szOp_2 rfl (fun K' hK => ?_)
  have HKK := Lib.hid hK
  clear hK
  go_simp
  exact HKK.out _ _ (HK.out _ _ (HS.out.next (below_new _ _)) (by simp [szV]))
theorem szOp_3 : szOps[3]? = some { dst := some 88, op := Op.call { callee := Callee.value (Operand.func 18), args := #[Operand.tmp 87, Operand.const (Value.int IntKind.i64 0)], argTypes := #[22, 3] }, type := 22, pos := "outright.go:152", after := #[{ on := 2, ground := Ground.data }, { on := 0, ground := Ground.chain }], guard := none } := rfl
set_option maxRecDepth 100000 in
theorem szStep_3 (a0 a : Act) (w w0 : World) (g : Nat) (Q : Exit → Act → World → Prop) (listed : Array Bool) (hsz : 112 < a0.tmps.size) (hI : RI szV (KnS w0 g) 29 szD a0 listed a w)
    (hd : ∀ e ∈ (#[{ on := 2, ground := Ground.data }, { on := 0, ground := Ground.chain }] : Array Edge), Region.binds .any e = true → listed.getD e.on false = true) : wpOp Tryd.prog szOps Q 3 (RI szV (KnS w0 g) 29 szD a0 (listed.setIfInBounds 3 true)) a w := by
  have hg : ∀ k d, szD[k]? = some d → d < a0.tmps.size → listed.getD k false = true → szV k (a.tmps.getD d undef) := fun k d h1 h2 h3 => hI.get szD_nodup h1 h2 h3
  obtain ⟨b2, t2⟩ : ∃ b, a.tmps.getD 87 undef = .slice (some ⟨b, 0, none⟩) 1 1 := hg 2 87 rfl (by omega) (hd ⟨2, .data⟩ (by simp) rfl)
  have HK := Lib.hid (fun v w' (hS : KnS w0 g w') (hv : szV 3 v) => hI.next (d := 88) (v := v) szD_nodup rfl hS hv)
  have HS := Lib.hid hI.2.1
  clear hg hd hI hsz
  refine step_plain szOp_3 rfl (fun K' hK => ?_)
  have HKK := Lib.hid hK
  clear hK
  go_simp
  refine (pack_no _ _ _ _ _ (by decide)).mono ?_
  rintro e u ⟨rfl, hb⟩
  exact HKK.out _ _ (HK.out _ _ (HS.out.next hb) (by simp [szV]))
theorem szOp_4 : szOps[4]? = some { dst := some 89, op := Op.call { callee := Callee.builtin Builtin.len, args := #[Operand.tmp 88], argTypes := #[22] }, type := 3, pos := "outright.go:152", after := #[{ on := 3, ground := Ground.data }], guard := none } := rfl
set_option maxRecDepth 100000 in
theorem szStep_4 (a0 a : Act) (w w0 : World) (g : Nat) (Q : Exit → Act → World → Prop) (listed : Array Bool) (hsz : 112 < a0.tmps.size) (hI : RI szV (KnS w0 g) 29 szD a0 listed a w)
    (hd : ∀ e ∈ (#[{ on := 3, ground := Ground.data }] : Array Edge), Region.binds .any e = true → listed.getD e.on false = true) : wpOp Tryd.prog szOps Q 4 (RI szV (KnS w0 g) 29 szD a0 (listed.setIfInBounds 4 true)) a w := by
  have hg : ∀ k d, szD[k]? = some d → d < a0.tmps.size → listed.getD k false = true → szV k (a.tmps.getD d undef) := fun k d h1 h2 h3 => hI.get szD_nodup h1 h2 h3
  have t3 : a.tmps.getD 88 undef = .slice none 0 0 := hg 3 88 rfl (by omega) (hd ⟨3, .data⟩ (by simp) rfl)
  have HK := Lib.hid (fun v w' (hS : KnS w0 g w') (hv : szV 4 v) => hI.next (d := 89) (v := v) szD_nodup rfl hS hv)
  have HS := Lib.hid hI.2.1
  clear hg hd hI hsz
  refine step_plain szOp_4 rfl (fun K' hK => ?_)
  have HKK := Lib.hid hK
  clear hK
  go_simp
  exact HKK.out _ _ (HK.out _ _ HS.out (by simp [szV]))
theorem szOp_5 : szOps[5]? = some { dst := some 90, op := Op.binOp BinOp.add 3 (Operand.tmp 86) (Operand.tmp 89) 3, type := 3, pos := "outright.go:152", after := #[{ on := 1, ground := Ground.data }, { on := 4, ground := Ground.data }], guard := none } := rfl
set_option maxRecDepth 100000 in
theorem szStep_5 (a0 a : Act) (w w0 : World) (g : Nat) (Q : Exit → Act → World → Prop) (listed : Array Bool) (hsz : 112 < a0.tmps.size) (hI : RI szV (KnS w0 g) 29 szD a0 listed a w)
    (hd : ∀ e ∈ (#[{ on := 1, ground := Ground.data }, { on := 4, ground := Ground.data }] : Array Edge), Region.binds .any e = true → listed.getD e.on false = true) : wpOp Tryd.prog szOps Q 5 (RI szV (KnS w0 g) 29 szD a0 (listed.setIfInBounds 5 true)) a w := by
  have hg : ∀ k d, szD[k]? = some d → d < a0.tmps.size → listed.getD k false = true → szV k (a.tmps.getD d undef) := fun k d h1 h2 h3 => hI.get szD_nodup h1 h2 h3
  have t1 : a.tmps.getD 86 undef = .int .i64 0 := hg 1 86 rfl (by omega) (hd ⟨1, .data⟩ (by simp) rfl)
  have t4 : a.tmps.getD 89 undef = .int .i64 0 := hg 4 89 rfl (by omega) (hd ⟨4, .data⟩ (by simp) rfl)
  have HK := Lib.hid (fun v w' (hS : KnS w0 g w') (hv : szV 5 v) => hI.next (d := 90) (v := v) szD_nodup rfl hS hv)
  have HS := Lib.hid hI.2.1
  clear hg hd hI hsz
  refine step_plain szOp_5 rfl (fun K' hK => ?_)
  have HKK := Lib.hid hK
  clear hK
  go_simp
  exact HKK.out _ _ (HK.out _ _ HS.out (by simp [szV]; decide))
theorem szOp_6 : szOps[6]? = some { dst := some 91, op := Op.buildSlice 22 1 #[(0, Operand.const (Value.int IntKind.u8 1))], type := 22, pos := "outright.go:152", after := #[], guard := none } := rfl
set_option maxRecDepth 100000 in
theorem szStep_6 (a0 a : Act) (w w0 : World) (g : Nat) (Q : Exit → Act → World → Prop) (listed : Array Bool) (hsz : 112 < a0.tmps.size) (hI : RI szV (KnS w0 g) 29 szD a0 listed a w)
    (hd : ∀ e ∈ (#[] : Array Edge), Region.binds .any e = true → listed.getD e.on false = true) : wpOp Tryd.prog szOps Q 6 (RI szV (KnS w0 g) 29 szD a0 (listed.setIfInBounds 6 true)) a w := by
  have hg : ∀ k d, szD[k]? = some d → d < a0.tmps.size → listed.getD k false = true → szV k (a.tmps.getD d undef) := fun k d h1 h2 h3 => hI.get szD_nodup h1 h2 h3
  have HK := Lib.hid (fun v w' (hS : KnS w0 g w') (hv : szV 6 v) => hI.next (d := 91) (v := v) szD_nodup rfl hS hv)
  have HS := Lib.hid hI.2.1
  clear hg hd hI hsz
  refine step_plain szOp_6 rfl (fun K' hK => ?_)
  have HKK := Lib.hid hK
  clear hK
  go_simp
  exact HKK.out _ _ (HK.out _ _ (HS.out.next (below_new _ _)) (by simp [szV]))
theorem szOp_7 : szOps[7]? = some { dst := some 92, op := Op.call { callee := Callee.value (Operand.func 18), args := #[Operand.tmp 91, Operand.const (Value.int IntKind.i64 17)], argTypes := #[22, 3] }, type := 22, pos := "outright.go:152", after := #[{ on := 6, ground := Ground.data }, { on := 3, ground := Ground.chain }], guard := none } := rfl
set_option maxRecDepth 100000 in
theorem szStep_7 (a0 a : Act) (w w0 : World) (g : Nat) (Q : Exit → Act → World → Prop) (listed : Array Bool) (hsz : 112 < a0.tmps.size) (hI : RI szV (KnS w0 g) 29 szD a0 listed a w)
    (hd : ∀ e ∈ (#[{ on := 6, ground := Ground.data }, { on := 3, ground := Ground.chain }] : Array Edge), Region.binds .any e = true → listed.getD e.on false = true) : wpOp Tryd.prog szOps Q 7 (RI szV (KnS w0 g) 29 szD a0 (listed.setIfInBounds 7 true)) a w := by
  have hg : ∀ k d, szD[k]? = some d → d < a0.tmps.size → listed.getD k false = true → szV k (a.tmps.getD d undef) := fun k d h1 h2 h3 => hI.get szD_nodup h1 h2 h3
  obtain ⟨b6, t6⟩ : ∃ b, a.tmps.getD 91 undef = .slice (some ⟨b, 0, none⟩) 1 1 := hg 6 91 rfl (by omega) (hd ⟨6, .data⟩ (by simp) rfl)
  have HK := Lib.hid (fun v w' (hS : KnS w0 g w') (hv : szV 7 v) => hI.next (d := 92) (v := v) szD_nodup rfl hS hv)
  have HS := Lib.hid hI.2.1
  clear hg hd hI hsz
  refine step_plain szOp_7 rfl (fun K' hK => ?_)
  have HKK := Lib.hid hK
  clear hK
  go_simp
  refine (pack_no _ _ _ _ _ (by decide)).mono ?_
  rintro e u ⟨rfl, hb⟩
  exact HKK.out _ _ (HK.out _ _ (HS.out.next hb) (by simp [szV]))
theorem szOp_8 : szOps[8]? = some { dst := some 93, op := Op.call { callee := Callee.builtin Builtin.len, args := #[Operand.tmp 92], argTypes := #[22] }, type := 3, pos := "outright.go:152", after := #[{ on := 7, ground := Ground.data }], guard := none } := rfl
set_option maxRecDepth 100000 in
theorem szStep_8 (a0 a : Act) (w w0 : World) (g : Nat) (Q : Exit → Act → World → Prop) (listed : Array Bool) (hsz : 112 < a0.tmps.size) (hI : RI szV (KnS w0 g) 29 szD a0 listed a w)
    (hd : ∀ e ∈ (#[{ on := 7, ground := Ground.data }] : Array Edge), Region.binds .any e = true → listed.getD e.on false = true) : wpOp Tryd.prog szOps Q 8 (RI szV (KnS w0 g) 29 szD a0 (listed.setIfInBounds 8 true)) a w := by
  have hg : ∀ k d, szD[k]? = some d → d < a0.tmps.size → listed.getD k false = true → szV k (a.tmps.getD d undef) := fun k d h1 h2 h3 => hI.get szD_nodup h1 h2 h3
  have t7 : a.tmps.getD 92 undef = .slice none 0 0 := hg 7 92 rfl (by omega) (hd ⟨7, .data⟩ (by simp) rfl)
  have HK := Lib.hid (fun v w' (hS : KnS w0 g w') (hv : szV 8 v) => hI.next (d := 93) (v := v) szD_nodup rfl hS hv)
  have HS := Lib.hid hI.2.1
  clear hg hd hI hsz
  refine step_plain szOp_8 rfl (fun K' hK => ?_)
  have HKK := Lib.hid hK
  clear hK
  go_simp
  exact HKK.out _ _ (HK.out _ _ HS.out (by simp [szV]))
theorem szOp_9 : szOps[9]? = some { dst := some 94, op := Op.binOp BinOp.add 3 (Operand.tmp 90) (Operand.tmp 93) 3, type := 3, pos := "outright.go:152", after := #[{ on := 5, ground := Ground.data }, { on := 8, ground := Ground.data }], guard := none } := rfl
set_option maxRecDepth 100000 in
theorem szStep_9 (a0 a : Act) (w w0 : World) (g : Nat) (Q : Exit → Act → World → Prop) (listed : Array Bool) (hsz : 112 < a0.tmps.size) (hI : RI szV (KnS w0 g) 29 szD a0 listed a w)
    (hd : ∀ e ∈ (#[{ on := 5, ground := Ground.data }, { on := 8, ground := Ground.data }] : Array Edge), Region.binds .any e = true → listed.getD e.on false = true) : wpOp Tryd.prog szOps Q 9 (RI szV (KnS w0 g) 29 szD a0 (listed.setIfInBounds 9 true)) a w := by
  have hg : ∀ k d, szD[k]? = some d → d < a0.tmps.size → listed.getD k false = true → szV k (a.tmps.getD d undef) := fun k d h1 h2 h3 => hI.get szD_nodup h1 h2 h3
  have t5 : a.tmps.getD 90 undef = .int .i64 0 := hg 5 90 rfl (by omega) (hd ⟨5, .data⟩ (by simp) rfl)
  have t8 : a.tmps.getD 93 undef = .int .i64 0 := hg 8 93 rfl (by omega) (hd ⟨8, .data⟩ (by simp) rfl)
  have HK := Lib.hid (fun v w' (hS : KnS w0 g w') (hv : szV 9 v) => hI.next (d := 94) (v := v) szD_nodup rfl hS hv)
  have HS := Lib.hid hI.2.1
  clear hg hd hI hsz
  refine step_plain szOp_9 rfl (fun K' hK => ?_)
  have HKK := Lib.hid hK
  clear hK
  go_simp
  exact HKK.out _ _ (HK.out _ _ HS.out (by simp [szV]; decide))
theorem szOp_10 : szOps[10]? = some { dst := some 95, op := Op.makeSlice 22 (Operand.const (Value.int IntKind.i64 17)) (Operand.const (Value.int IntKind.i64 17)), type := 22, pos := "outright.go:152", after := #[], guard := none } := rfl
set_option maxRecDepth 100000 in
theorem szStep_10 (a0 a : Act) (w w0 : World) (g : Nat) (Q : Exit → Act → World → Prop) (listed : Array Bool) (hsz : 112 < a0.tmps.size) (hI : RI szV (KnS w0 g) 29 szD a0 listed a w)
    (hd : ∀ e ∈ (#[] : Array Edge), Region.binds .any e = true → listed.getD e.on false = true) : wpOp Tryd.prog szOps Q 10 (RI szV (KnS w0 g) 29 szD a0 (listed.setIfInBounds 10 true)) a w := by
  have hg : ∀ k d, szD[k]? = some d → d < a0.tmps.size → listed.getD k false = true → szV k (a.tmps.getD d undef) := fun k d h1 h2 h3 => hI.get szD_nodup h1 h2 h3
  have HK := Lib.hid (fun v w' (hS : KnS w0 g w') (hv : szV 10 v) => hI.next (d := 95) (v := v) szD_nodup rfl hS hv)
  have HS := Lib.hid hI.2.1
  clear hg hd hI hsz
  refine step_plain szOp_10 rfl (fun K' hK => ?_)
  have HKK := Lib.hid hK
  clear hK
  have hmk := make17
  go_simp
  exact HKK.out _ _ (HK.out _ _ (HS.out.next (below_new _ _)) (by simp [szV]))
theorem szOp_11 : szOps[11]? = some { dst := some 96, op := Op.call { callee := Callee.value (Operand.func 20), args := #[Operand.tmp 95, Operand.const (Value.int IntKind.i64 1)], argTypes := #[22, 3] }, type := 22, pos := "outright.go:152", after := #[{ on := 10, ground := Ground.data }, { on := 7, ground := Ground.chain }], guard := none } := rfl
set_option maxRecDepth 100000 in
theorem szStep_11 (a0 a : Act) (w w0 : World) (g : Nat) (Q : Exit → Act → World → Prop) (listed : Array Bool) (hsz : 112 < a0.tmps.size) (hI : RI szV (KnS w0 g) 29 szD a0 listed a w)
    (hd : ∀ e ∈ (#[{ on := 10, ground := Ground.data }, { on := 7, ground := Ground.chain }] : Array Edge), Region.binds .any e = true → listed.getD e.on false = true) : wpOp Tryd.prog szOps Q 11 (RI szV (KnS w0 g) 29 szD a0 (listed.setIfInBounds 11 true)) a w := by
  have hg : ∀ k d, szD[k]? = some d → d < a0.tmps.size → listed.getD k false = true → szV k (a.tmps.getD d undef) := fun k d h1 h2 h3 => hI.get szD_nodup h1 h2 h3
  obtain ⟨b10, t10⟩ : ∃ b, a.tmps.getD 95 undef = .slice (some ⟨b, 0, none⟩) 17 17 := hg 10 95 rfl (by omega) (hd ⟨10, .data⟩ (by simp) rfl)
  have HK := Lib.hid (fun v w' (hS : KnS w0 g w') (hv : szV 11 v) => hI.next (d := 96) (v := v) szD_nodup rfl hS hv)
  have HS := Lib.hid hI.2.1
  clear hg hd hI hsz
  refine step_plain szOp_11 rfl (fun K' hK => ?_)
  have HKK := Lib.hid hK
  clear hK
  go_simp
  refine (unpack_no _ _ _ _ _ (by decide)).mono ?_
  rintro e u ⟨rfl, hb⟩
  exact HKK.out _ _ (HK.out _ _ (HS.out.next hb) (by simp [szV]))
theorem szOp_12 : szOps[12]? = some { dst := some 97, op := Op.call { callee := Callee.builtin Builtin.len, args := #[Operand.tmp 96], argTypes := #[22] }, type := 3, pos := "outright.go:152", after := #[{ on := 11, ground := Ground.data }], guard := none } := rfl
set_option maxRecDepth 100000 in
theorem szStep_12 (a0 a : Act) (w w0 : World) (g : Nat) (Q : Exit → Act → World → Prop) (listed : Array Bool) (hsz : 112 < a0.tmps.size) (hI : RI szV (KnS w0 g) 29 szD a0 listed a w)
    (hd : ∀ e ∈ (#[{ on := 11, ground := Ground.data }] : Array Edge), Region.binds .any e = true → listed.getD e.on false = true) : wpOp Tryd.prog szOps Q 12 (RI szV (KnS w0 g) 29 szD a0 (listed.setIfInBounds 12 true)) a w := by
  have hg : ∀ k d, szD[k]? = some d → d < a0.tmps.size → listed.getD k false = true → szV k (a.tmps.getD d undef) := fun k d h1 h2 h3 => hI.get szD_nodup h1 h2 h3
  have t11 : a.tmps.getD 96 undef = .slice none 0 0 := hg 11 96 rfl (by omega) (hd ⟨11, .data⟩ (by simp) rfl)
  have HK := Lib.hid (fun v w' (hS : KnS w0 g w') (hv : szV 12 v) => hI.next (d := 97) (v := v) szD_nodup rfl hS hv)
  have HS := Lib.hid hI.2.1
  clear hg hd hI hsz
  refine step_plain szOp_12 rfl (fun K' hK => ?_)
  have HKK := Lib.hid hK
  clear hK
  go_simp
  exact HKK.out _ _ (HK.out _ _ HS.out (by simp [szV]))
theorem szOp_13 : szOps[13]? = some { dst := some 98, op := Op.binOp BinOp.add 3 (Operand.tmp 94) (Operand.tmp 97) 3, type := 3, pos := "outright.go:152", after := #[{ on := 9, ground := Ground.data }, { on := 12, ground := Ground.data }], guard := none } := rfl
set_option maxRecDepth 100000 in
theorem szStep_13 (a0 a : Act) (w w0 : World) (g : Nat) (Q : Exit → Act → World → Prop) (listed : Array Bool) (hsz : 112 < a0.tmps.size) (hI : RI szV (KnS w0 g) 29 szD a0 listed a w)
    (hd : ∀ e ∈ (#[{ on := 9, ground := Ground.data }, { on := 12, ground := Ground.data }] : Array Edge), Region.binds .any e = true → listed.getD e.on false = true) : wpOp Tryd.prog szOps Q 13 (RI szV (KnS w0 g) 29 szD a0 (listed.setIfInBounds 13 true)) a w := by
  have hg : ∀ k d, szD[k]? = some d → d < a0.tmps.size → listed.getD k false = true → szV k (a.tmps.getD d undef) := fun k d h1 h2 h3 => hI.get szD_nodup h1 h2 h3
  have t9 : a.tmps.getD 94 undef = .int .i64 0 := hg 9 94 rfl (by omega) (hd ⟨9, .data⟩ (by simp) rfl)
  have t12 : a.tmps.getD 97 undef = .int .i64 0 := hg 12 97 rfl (by omega) (hd ⟨12, .data⟩ (by simp) rfl)
  have HK := Lib.hid (fun v w' (hS : KnS w0 g w') (hv : szV 13 v) => hI.next (d := 98) (v := v) szD_nodup rfl hS hv)
  have HS := Lib.hid hI.2.1
  clear hg hd hI hsz
  refine step_plain szOp_13 rfl (fun K' hK => ?_)
  have HKK := Lib.hid hK
  clear hK
  go_simp
  exact HKK.out _ _ (HK.out _ _ HS.out (by simp [szV]; decide))
theorem szOp_14 : szOps[14]? = some { dst := some 99, op := Op.buildSlice 22 1 #[(0, Operand.const (Value.int IntKind.u8 1))], type := 22, pos := "outright.go:152", after := #[], guard := none } := rfl
set_option maxRecDepth 100000 in
theorem szStep_14 (a0 a : Act) (w w0 : World) (g : Nat) (Q : Exit → Act → World → Prop) (listed : Array Bool) (hsz : 112 < a0.tmps.size) (hI : RI szV (KnS w0 g) 29 szD a0 listed a w)
    (hd : ∀ e ∈ (#[] : Array Edge), Region.binds .any e = true → listed.getD e.on false = true) : wpOp Tryd.prog szOps Q 14 (RI szV (KnS w0 g) 29 szD a0 (listed.setIfInBounds 14 true)) a w := by
  have hg : ∀ k d, szD[k]? = some d → d < a0.tmps.size → listed.getD k false = true → szV k (a.tmps.getD d undef) := fun k d h1 h2 h3 => hI.get szD_nodup h1 h2 h3
  have HK := Lib.hid (fun v w' (hS : KnS w0 g w') (hv : szV 14 v) => hI.next (d := 99) (v := v) szD_nodup rfl hS hv)
  have HS := Lib.hid hI.2.1
  clear hg hd hI hsz
  refine step_plain szOp_14 rfl (fun K' hK => ?_)
  have HKK := Lib.hid hK
  clear hK
  go_simp
  exact HKK.out _ _ (HK.out _ _ (HS.out.next (below_new _ _)) (by simp [szV]))
theorem szOp_15 : szOps[15]? = some { dst := some 100, op := Op.call { callee := Callee.value (Operand.func 20), args := #[Operand.tmp 99, Operand.const (Value.int IntKind.i64 (-1))], argTypes := #[22, 3] }, type := 22, pos := "outright.go:152", after := #[{ on := 14, ground := Ground.data }, { on := 11, ground := Ground.chain }], guard := none } := rfl
set_option maxRecDepth 100000 in
theorem szStep_15 (a0 a : Act) (w w0 : World) (g : Nat) (Q : Exit → Act → World → Prop) (listed : Array Bool) (hsz : 112 < a0.tmps.size) (hI : RI szV (KnS w0 g) 29 szD a0 listed a w)
    (hd : ∀ e ∈ (#[{ on := 14, ground := Ground.data }, { on := 11, ground := Ground.chain }] : Array Edge), Region.binds .any e = true → listed.getD e.on false = true) : wpOp Tryd.prog szOps Q 15 (RI szV (KnS w0 g) 29 szD a0 (listed.setIfInBounds 15 true)) a w := by
  have hg : ∀ k d, szD[k]? = some d → d < a0.tmps.size → listed.getD k false = true → szV k (a.tmps.getD d undef) := fun k d h1 h2 h3 => hI.get szD_nodup h1 h2 h3
  obtain ⟨b14, t14⟩ : ∃ b, a.tmps.getD 99 undef = .slice (some ⟨b, 0, none⟩) 1 1 := hg 14 99 rfl (by omega) (hd ⟨14, .data⟩ (by simp) rfl)
  have HK := Lib.hid (fun v w' (hS : KnS w0 g w') (hv : szV 15 v) => hI.next (d := 100) (v := v) szD_nodup rfl hS hv)
  have HS := Lib.hid hI.2.1
  clear hg hd hI hsz
  refine step_plain szOp_15 rfl (fun K' hK => ?_)
  have HKK := Lib.hid hK
  clear hK
  go_simp
  refine (unpack_no _ _ _ _ _ (by decide)).mono ?_
  rintro e u ⟨rfl, hb⟩
  exact HKK.out _ _ (HK.out _ _ (HS.out.next hb) (by simp [szV]))
theorem szOp_16 : szOps[16]? = some { dst := some 101, op := Op.call { callee := Callee.builtin Builtin.len, args := #[Operand.tmp 100], argTypes := #[22] }, type := 3, pos := "outright.go:152", after := #[{ on := 15, ground := Ground.data }], guard := none } := rfl
set_option maxRecDepth 100000 in
theorem szStep_16 (a0 a : Act) (w w0 : World) (g : Nat) (Q : Exit → Act → World → Prop) (listed : Array Bool) (hsz : 112 < a0.tmps.size) (hI : RI szV (KnS w0 g) 29 szD a0 listed a w)
    (hd : ∀ e ∈ (#[{ on := 15, ground := Ground.data }] : Array Edge), Region.binds .any e = true → listed.getD e.on false = true) : wpOp Tryd.prog szOps Q 16 (RI szV (KnS w0 g) 29 szD a0 (listed.setIfInBounds 16 true)) a w := by
  have hg : ∀ k d, szD[k]? = some d → d < a0.tmps.size → listed.getD k false = true → szV k (a.tmps.getD d undef) := fun k d h1 h2 h3 => hI.get szD_nodup h1 h2 h3
  have t15 : a.tmps.getD 100 undef = .slice none 0 0 := hg 15 100 rfl (by omega) (hd ⟨15, .data⟩ (by simp) rfl)
  have HK := Lib.hid (fun v w' (hS : KnS w0 g w') (hv : szV 16 v) => hI.next (d := 101) (v := v) szD_nodup rfl hS hv)
  have HS := Lib.hid hI.2.1
  clear hg hd hI hsz
  refine step_plain szOp_16 rfl (fun K' hK => ?_)
  have HKK := Lib.hid hK
  clear hK
  go_simp
  exact HKK.out _ _ (HK.out _ _ HS.out (by simp [szV]))
theorem szOp_17 : szOps[17]? = some { dst := some 102, op := Op.binOp BinOp.add 3 (Operand.tmp 98) (Operand.tmp 101) 3, type := 3, pos := "outright.go:152", after := #[{ on := 13, ground := Ground.data }, { on := 16, ground := Ground.data }], guard := none } := rfl
set_option maxRecDepth 100000 in
theorem szStep_17 (a0 a : Act) (w w0 : World) (g : Nat) (Q : Exit → Act → World → Prop) (listed : Array Bool) (hsz : 112 < a0.tmps.size) (hI : RI szV (KnS w0 g) 29 szD a0 listed a w)
    (hd : ∀ e ∈ (#[{ on := 13, ground := Ground.data }, { on := 16, ground := Ground.data }] : Array Edge), Region.binds .any e = true → listed.getD e.on false = true) : wpOp Tryd.prog szOps Q 17 (RI szV (KnS w0 g) 29 szD a0 (listed.setIfInBounds 17 true)) a w := by
  have hg : ∀ k d, szD[k]? = some d → d < a0.tmps.size → listed.getD k false = true → szV k (a.tmps.getD d undef) := fun k d h1 h2 h3 => hI.get szD_nodup h1 h2 h3
  have t13 : a.tmps.getD 98 undef = .int .i64 0 := hg 13 98 rfl (by omega) (hd ⟨13, .data⟩ (by simp) rfl)
  have t16 : a.tmps.getD 101 undef = .int .i64 0 := hg 16 101 rfl (by omega) (hd ⟨16, .data⟩ (by simp) rfl)
  have HK := Lib.hid (fun v w' (hS : KnS w0 g w') (hv : szV 17 v) => hI.next (d := 102) (v := v) szD_nodup rfl hS hv)
  have HS := Lib.hid hI.2.1
  clear hg hd hI hsz
  refine step_plain szOp_17 rfl (fun K' hK => ?_)
  have HKK := Lib.hid hK
  clear hK
  go_simp
  exact HKK.out _ _ (HK.out _ _ HS.out (by simp [szV]; decide))
theorem szOp_18 : szOps[18]? = some { dst := some 103, op := Op.buildSlice 22 1 #[(0, Operand.const (Value.int IntKind.u8 1))], type := 22, pos := "outright.go:152", after := #[], guard := none } := rfl
set_option maxRecDepth 100000 in
theorem szStep_18 (a0 a : Act) (w w0 : World) (g : Nat) (Q : Exit → Act → World → Prop) (listed : Array Bool) (hsz : 112 < a0.tmps.size) (hI : RI szV (KnS w0 g) 29 szD a0 listed a w)
    (hd : ∀ e ∈ (#[] : Array Edge), Region.binds .any e = true → listed.getD e.on false = true) : wpOp Tryd.prog szOps Q 18 (RI szV (KnS w0 g) 29 szD a0 (listed.setIfInBounds 18 true)) a w := by
  have hg : ∀ k d, szD[k]? = some d → d < a0.tmps.size → listed.getD k false = true → szV k (a.tmps.getD d undef) := fun k d h1 h2 h3 => hI.get szD_nodup h1 h2 h3
  have HK := Lib.hid (fun v w' (hS : KnS w0 g w') (hv : szV 18 v) => hI.next (d := 103) (v := v) szD_nodup rfl hS hv)
  have HS := Lib.hid hI.2.1
  clear hg hd hI hsz
  refine step_plain szOp_18 rfl (fun K' hK => ?_)
  have HKK := Lib.hid hK
  clear hK
  go_simp
  exact HKK.out _ _ (HK.out _ _ (HS.out.next (below_new _ _)) (by simp [szV]))
theorem szOp_19 : szOps[19]? = some { dst := some 104, op := Op.call { callee := Callee.value (Operand.func 22), args := #[Operand.const (Value.slice none 0 0), Operand.tmp 103], argTypes := #[22, 22] }, type := 22, pos := "outright.go:152", after := #[{ on := 18, ground := Ground.data }, { on := 15, ground := Ground.chain }], guard := none } := rfl
set_option maxRecDepth 100000 in
theorem szStep_19 (a0 a : Act) (w w0 : World) (g : Nat) (Q : Exit → Act → World → Prop) (listed : Array Bool) (hsz : 112 < a0.tmps.size) (hI : RI szV (KnS w0 g) 29 szD a0 listed a w)
    (hd : ∀ e ∈ (#[{ on := 18, ground := Ground.data }, { on := 15, ground := Ground.chain }] : Array Edge), Region.binds .any e = true → listed.getD e.on false = true) : wpOp Tryd.prog szOps Q 19 (RI szV (KnS w0 g) 29 szD a0 (listed.setIfInBounds 19 true)) a w := by
  have hg : ∀ k d, szD[k]? = some d → d < a0.tmps.size → listed.getD k false = true → szV k (a.tmps.getD d undef) := fun k d h1 h2 h3 => hI.get szD_nodup h1 h2 h3
  obtain ⟨b18, t18⟩ : ∃ b, a.tmps.getD 103 undef = .slice (some ⟨b, 0, none⟩) 1 1 := hg 18 103 rfl (by omega) (hd ⟨18, .data⟩ (by simp) rfl)
  have HK := Lib.hid (fun v w' (hS : KnS w0 g w') (hv : szV 19 v) => hI.next (d := 104) (v := v) szD_nodup rfl hS hv)
  have HS := Lib.hid hI.2.1
  clear hg hd hI hsz
  refine step_plain szOp_19 rfl (fun K' hK => ?_)
  have HKK := Lib.hid hK
  clear hK
  go_simp
  refine (off_no _ _ _ _ _ _ _ (by decide)).mono ?_
  rintro e u ⟨rfl, hb⟩
  exact HKK.out _ _ (HK.out _ _ (HS.out.next hb) (by simp [szV]))
theorem szOp_20 : szOps[20]? = some { dst := some 105, op := Op.call { callee := Callee.builtin Builtin.len, args := #[Operand.tmp 104], argTypes := #[22] }, type := 3, pos := "outright.go:152", after := #[{ on := 19, ground := Ground.data }], guard := none } := rfl
set_option maxRecDepth 100000 in
theorem szStep_20 (a0 a : Act) (w w0 : World) (g : Nat) (Q : Exit → Act → World → Prop) (listed : Array Bool) (hsz : 112 < a0.tmps.size) (hI : RI szV (KnS w0 g) 29 szD a0 listed a w)
    (hd : ∀ e ∈ (#[{ on := 19, ground := Ground.data }] : Array Edge), Region.binds .any e = true → listed.getD e.on false = true) : wpOp Tryd.prog szOps Q 20 (RI szV (KnS w0 g) 29 szD a0 (listed.setIfInBounds 20 true)) a w := by
  have hg : ∀ k d, szD[k]? = some d → d < a0.tmps.size → listed.getD k false = true → szV k (a.tmps.getD d undef) := fun k d h1 h2 h3 => hI.get szD_nodup h1 h2 h3
  have t19 : a.tmps.getD 104 undef = .slice none 0 0 := hg 19 104 rfl (by omega) (hd ⟨19, .data⟩ (by simp) rfl)
  have HK := Lib.hid (fun v w' (hS : KnS w0 g w') (hv : szV 20 v) => hI.next (d := 105) (v := v) szD_nodup rfl hS hv)
  have HS := Lib.hid hI.2.1
  clear hg hd hI hsz
  refine step_plain szOp_20 rfl (fun K' hK => ?_)
  have HKK := Lib.hid hK
  clear hK
  go_simp
  exact HKK.out _ _ (HK.out _ _ HS.out (by simp [szV]))
theorem szOp_21 : szOps[21]? = some { dst := some 106, op := Op.binOp BinOp.add 3 (Operand.tmp 102) (Operand.tmp 105) 3, type := 3, pos := "outright.go:152", after := #[{ on := 17, ground := Ground.data }, { on := 20, ground := Ground.data }], guard := none } := rfl
set_option maxRecDepth 100000 in
theorem szStep_21 (a0 a : Act) (w w0 : World) (g : Nat) (Q : Exit → Act → World → Prop) (listed : Array Bool) (hsz : 112 < a0.tmps.size) (hI : RI szV (KnS w0 g) 29 szD a0 listed a w)
    (hd : ∀ e ∈ (#[{ on := 17, ground := Ground.data }, { on := 20, ground := Ground.data }] : Array Edge), Region.binds .any e = true → listed.getD e.on false = true) : wpOp Tryd.prog szOps Q 21 (RI szV (KnS w0 g) 29 szD a0 (listed.setIfInBounds 21 true)) a w := by
  have hg : ∀ k d, szD[k]? = some d → d < a0.tmps.size → listed.getD k false = true → szV k (a.tmps.getD d undef) := fun k d h1 h2 h3 => hI.get szD_nodup h1 h2 h3
  have t17 : a.tmps.getD 102 undef = .int .i64 0 := hg 17 102 rfl (by omega) (hd ⟨17, .data⟩ (by simp) rfl)
  have t20 : a.tmps.getD 105 undef = .int .i64 0 := hg 20 105 rfl (by omega) (hd ⟨20, .data⟩ (by simp) rfl)
  have HK := Lib.hid (fun v w' (hS : KnS w0 g w') (hv : szV 21 v) => hI.next (d := 106) (v := v) szD_nodup rfl hS hv)
  have HS := Lib.hid hI.2.1
  clear hg hd hI hsz
  refine step_plain szOp_21 rfl (fun K' hK => ?_)
  have HKK := Lib.hid hK
  clear hK
  go_simp
  exact HKK.out _ _ (HK.out _ _ HS.out (by simp [szV]; decide))
theorem szOp_22 : szOps[22]? = some { dst := some 107, op := Op.buildSlice 22 1 #[(0, Operand.const (Value.int IntKind.u8 1))], type := 22, pos := "outright.go:152", after := #[], guard := none } := rfl
set_option maxRecDepth 100000 in
theorem szStep_22 (a0 a : Act) (w w0 : World) (g : Nat) (Q : Exit → Act → World → Prop) (listed : Array Bool) (hsz : 112 < a0.tmps.size) (hI : RI szV (KnS w0 g) 29 szD a0 listed a w)
    (hd : ∀ e ∈ (#[] : Array Edge), Region.binds .any e = true → listed.getD e.on false = true) : wpOp Tryd.prog szOps Q 22 (RI szV (KnS w0 g) 29 szD a0 (listed.setIfInBounds 22 true)) a w := by
  have hg : ∀ k d, szD[k]? = some d → d < a0.tmps.size → listed.getD k false = true → szV k (a.tmps.getD d undef) := fun k d h1 h2 h3 => hI.get szD_nodup h1 h2 h3
  have HK := Lib.hid (fun v w' (hS : KnS w0 g w') (hv : szV 22 v) => hI.next (d := 107) (v := v) szD_nodup rfl hS hv)
  have HS := Lib.hid hI.2.1
  clear hg hd hI hsz
  refine step_plain szOp_22 rfl (fun K' hK => ?_)
  have HKK := Lib.hid hK
  clear hK
  go_simp
  exact HKK.out _ _ (HK.out _ _ (HS.out.next (below_new _ _)) (by simp [szV]))
theorem szOp_23 : szOps[23]? = some { dst := some 108, op := Op.makeSlice 22 (Operand.const (Value.int IntKind.i64 17)) (Operand.const (Value.int IntKind.i64 17)), type := 22, pos := "outright.go:152", after := #[], guard := none } := rfl
set_option maxRecDepth 100000 in
theorem szStep_23 (a0 a : Act) (w w0 : World) (g : Nat) (Q : Exit → Act → World → Prop) (listed : Array Bool) (hsz : 112 < a0.tmps.size) (hI : RI szV (KnS w0 g) 29 szD a0 listed a w)
    (hd : ∀ e ∈ (#[] : Array Edge), Region.binds .any e = true → listed.getD e.on false = true) : wpOp Tryd.prog szOps Q 23 (RI szV (KnS w0 g) 29 szD a0 (listed.setIfInBounds 23 true)) a w := by
  have hg : ∀ k d, szD[k]? = some d → d < a0.tmps.size → listed.getD k false = true → szV k (a.tmps.getD d undef) := fun k d h1 h2 h3 => hI.get szD_nodup h1 h2 h3
  have HK := Lib.hid (fun v w' (hS : KnS w0 g w') (hv : szV 23 v) => hI.next (d := 108) (v := v) szD_nodup rfl hS hv)
  have HS := Lib.hid hI.2.1
  clear hg hd hI hsz
  refine step_plain szOp_23 rfl (fun K' hK => ?_)
  have HKK := Lib.hid hK
  clear hK
  have hmk := make17
  go_simp
  exact HKK.out _ _ (HK.out _ _ (HS.out.next (below_new _ _)) (by simp [szV]))
theorem szOp_24 : szOps[24]? = some { dst := some 109, op := Op.call { callee := Callee.value (Operand.func 22), args := #[Operand.tmp 107, Operand.tmp 108], argTypes := #[22, 22] }, type := 22, pos := "outright.go:152", after := #[{ on := 22, ground := Ground.data }, { on := 23, ground := Ground.data }, { on := 19, ground := Ground.chain }], guard := none } := rfl
set_option maxRecDepth 100000 in
theorem szStep_24 (a0 a : Act) (w w0 : World) (g : Nat) (Q : Exit → Act → World → Prop) (listed : Array Bool) (hsz : 112 < a0.tmps.size) (hI : RI szV (KnS w0 g) 29 szD a0 listed a w)
    (hd : ∀ e ∈ (#[{ on := 22, ground := Ground.data }, { on := 23, ground := Ground.data }, { on := 19, ground := Ground.chain }] : Array Edge), Region.binds .any e = true → listed.getD e.on false = true) : wpOp Tryd.prog szOps Q 24 (RI szV (KnS w0 g) 29 szD a0 (listed.setIfInBounds 24 true)) a w := by
  have hg : ∀ k d, szD[k]? = some d → d < a0.tmps.size → listed.getD k false = true → szV k (a.tmps.getD d undef) := fun k d h1 h2 h3 => hI.get szD_nodup h1 h2 h3
  obtain ⟨b22, t22⟩ : ∃ b, a.tmps.getD 107 undef = .slice (some ⟨b, 0, none⟩) 1 1 := hg 22 107 rfl (by omega) (hd ⟨22, .data⟩ (by simp) rfl)
  obtain ⟨b23, t23⟩ : ∃ b, a.tmps.getD 108 undef = .slice (some ⟨b, 0, none⟩) 17 17 := hg 23 108 rfl (by omega) (hd ⟨23, .data⟩ (by simp) rfl)
  have HK := Lib.hid (fun v w' (hS : KnS w0 g w') (hv : szV 24 v) => hI.next (d := 109) (v := v) szD_nodup rfl hS hv)
  have HS := Lib.hid hI.2.1
  clear hg hd hI hsz
  refine step_plain szOp_24 rfl (fun K' hK => ?_)
  have HKK := Lib.hid hK
  clear hK
  go_simp
  refine (off_no _ _ _ _ _ _ _ (by decide)).mono ?_
  rintro e u ⟨rfl, hb⟩
  exact HKK.out _ _ (HK.out _ _ (HS.out.next hb) (by simp [szV]))
theorem szOp_25 : szOps[25]? = some { dst := some 110, op := Op.call { callee := Callee.builtin Builtin.len, args := #[Operand.tmp 109], argTypes := #[22] }, type := 3, pos := "outright.go:152", after := #[{ on := 24, ground := Ground.data }], guard := none } := rfl
set_option maxRecDepth 100000 in
theorem szStep_25 (a0 a : Act) (w w0 : World) (g : Nat) (Q : Exit → Act → World → Prop) (listed : Array Bool) (hsz : 112 < a0.tmps.size) (hI : RI szV (KnS w0 g) 29 szD a0 listed a w)
    (hd : ∀ e ∈ (#[{ on := 24, ground := Ground.data }] : Array Edge), Region.binds .any e = true → listed.getD e.on false = true) : wpOp Tryd.prog szOps Q 25 (RI szV (KnS w0 g) 29 szD a0 (listed.setIfInBounds 25 true)) a w := by
  have hg : ∀ k d, szD[k]? = some d → d < a0.tmps.size → listed.getD k false = true → szV k (a.tmps.getD d undef) := fun k d h1 h2 h3 => hI.get szD_nodup h1 h2 h3
  have t24 : a.tmps.getD 109 undef = .slice none 0 0 := hg 24 109 rfl (by omega) (hd ⟨24, .data⟩ (by simp) rfl)
  have HK := Lib.hid (fun v w' (hS : KnS w0 g w') (hv : szV 25 v) => hI.next (d := 110) (v := v) szD_nodup rfl hS hv)
  have HS := Lib.hid hI.2.1
  clear hg hd hI hsz
  refine step_plain szOp_25 rfl (fun K' hK => ?_)
  have HKK := Lib.hid hK
  clear hK
  go_simp
  exact HKK.out _ _ (HK.out _ _ HS.out (by simp [szV]))
theorem szOp_26 : szOps[26]? = some { dst := some 111, op := Op.binOp BinOp.add 3 (Operand.tmp 106) (Operand.tmp 110) 3, type := 3, pos := "outright.go:152", after := #[{ on := 21, ground := Ground.data }, { on := 25, ground := Ground.data }], guard := none } := rfl
set_option maxRecDepth 100000 in
theorem szStep_26 (a0 a : Act) (w w0 : World) (g : Nat) (Q : Exit → Act → World → Prop) (listed : Array Bool) (hsz : 112 < a0.tmps.size) (hI : RI szV (KnS w0 g) 29 szD a0 listed a w)
    (hd : ∀ e ∈ (#[{ on := 21, ground := Ground.data }, { on := 25, ground := Ground.data }] : Array Edge), Region.binds .any e = true → listed.getD e.on false = true) : wpOp Tryd.prog szOps Q 26 (RI szV (KnS w0 g) 29 szD a0 (listed.setIfInBounds 26 true)) a w := by
  have hg : ∀ k d, szD[k]? = some d → d < a0.tmps.size → listed.getD k false = true → szV k (a.tmps.getD d undef) := fun k d h1 h2 h3 => hI.get szD_nodup h1 h2 h3
  have t21 : a.tmps.getD 106 undef = .int .i64 0 := hg 21 106 rfl (by omega) (hd ⟨21, .data⟩ (by simp) rfl)
  have t25 : a.tmps.getD 110 undef = .int .i64 0 := hg 25 110 rfl (by omega) (hd ⟨25, .data⟩ (by simp) rfl)
  have HK := Lib.hid (fun v w' (hS : KnS w0 g w') (hv : szV 26 v) => hI.next (d := 111) (v := v) szD_nodup rfl hS hv)
  have HS := Lib.hid hI.2.1
  clear hg hd hI hsz
  refine step_plain szOp_26 rfl (fun K' hK => ?_)
  have HKK := Lib.hid hK
  clear hK
  go_simp
  exact HKK.out _ _ (HK.out _ _ HS.out (by simp [szV]; decide))
theorem szOp_27 : szOps[27]? = some { dst := some 112, op := Op.binOp BinOp.eql 3 (Operand.tmp 111) (Operand.const (Value.int IntKind.i64 0)) 3, type := 4, pos := "outright.go:152", after := #[{ on := 26, ground := Ground.data }], guard := none } := rfl
set_option maxRecDepth 100000 in
theorem szStep_27 (a0 a : Act) (w w0 : World) (g : Nat) (Q : Exit → Act → World → Prop) (listed : Array Bool) (hsz : 112 < a0.tmps.size) (hI : RI szV (KnS w0 g) 29 szD a0 listed a w)
    (hd : ∀ e ∈ (#[{ on := 26, ground := Ground.data }] : Array Edge), Region.binds .any e = true → listed.getD e.on false = true) : wpOp Tryd.prog szOps Q 27 (RI szV (KnS w0 g) 29 szD a0 (listed.setIfInBounds 27 true)) a w := by
  have hg : ∀ k d, szD[k]? = some d → d < a0.tmps.size → listed.getD k false = true → szV k (a.tmps.getD d undef) := fun k d h1 h2 h3 => hI.get szD_nodup h1 h2 h3
  have t26 : a.tmps.getD 111 undef = .int .i64 0 := hg 26 111 rfl (by omega) (hd ⟨26, .data⟩ (by simp) rfl)
  have HK := Lib.hid (fun v w' (hS : KnS w0 g w') (hv : szV 27 v) => hI.next (d := 112) (v := v) szD_nodup rfl hS hv)
  have HS := Lib.hid hI.2.1
  clear hg hd hI hsz
  refine step_plain szOp_27 rfl (fun K' hK => ?_)
  have HKK := Lib.hid hK
  clear hK
  go_simp
  exact HKK.out _ _ (HK.out _ _ HS.out (by simp [szV]))
theorem szOp_28 : szOps[28]? = some { dst := some 8, op := Op.assign (Operand.tmp 112), type := 4, pos := "outright.go:152", after := #[{ on := 27, ground := Ground.data }, { on := 24, ground := Ground.chain }, { on := 0, ground := Ground.phase }, { on := 1, ground := Ground.phase }, { on := 2, ground := Ground.phase }, { on := 3, ground := Ground.phase }, { on := 4, ground := Ground.phase }, { on := 5, ground := Ground.phase }, { on := 6, ground := Ground.phase }, { on := 7, ground := Ground.phase }, { on := 8, ground := Ground.phase }, { on := 9, ground := Ground.phase }, { on := 10, ground := Ground.phase }, { on := 11, ground := Ground.phase }, { on := 12, ground := Ground.phase }, { on := 13, ground := Ground.phase }, { on := 14, ground := Ground.phase }, { on := 15, ground := Ground.phase }, { on := 16, ground := Ground.phase }, { on := 17, ground := Ground.phase }, { on := 18, ground := Ground.phase }, { on := 19, ground := Ground.phase }, { on := 20, ground := Ground.phase }, { on := 21, ground := Ground.phase }, { on := 22, ground := Ground.phase }, { on := 23, ground := Ground.phase }, { on := 24, ground := Ground.phase }, { on := 25, ground := Ground.phase }, { on := 26, ground := Ground.phase }, { on := 27, ground := Ground.phase }], guard := none } := rfl
set_option maxRecDepth 100000 in
theorem szStep_28 (a0 a : Act) (w w0 : World) (g : Nat) (Q : Exit → Act → World → Prop) (listed : Array Bool) (hsz : 112 < a0.tmps.size) (hI : RI szV (KnS w0 g) 29 szD a0 listed a w)
    (hd : ∀ e ∈ (#[{ on := 27, ground := Ground.data }, { on := 24, ground := Ground.chain }, { on := 0, ground := Ground.phase }, { on := 1, ground := Ground.phase }, { on := 2, ground := Ground.phase }, { on := 3, ground := Ground.phase }, { on := 4, ground := Ground.phase }, { on := 5, ground := Ground.phase }, { on := 6, ground := Ground.phase }, { on := 7, ground := Ground.phase }, { on := 8, ground := Ground.phase }, { on := 9, ground := Ground.phase }, { on := 10, ground := Ground.phase }, { on := 11, ground := Ground.phase }, { on := 12, ground := Ground.phase }, { on := 13, ground := Ground.phase }, { on := 14, ground := Ground.phase }, { on := 15, ground := Ground.phase }, { on := 16, ground := Ground.phase }, { on := 17, ground := Ground.phase }, { on := 18, ground := Ground.phase }, { on := 19, ground := Ground.phase }, { on := 20, ground := Ground.phase }, { on := 21, ground := Ground.phase }, { on := 22, ground := Ground.phase }, { on := 23, ground := Ground.phase }, { on := 24, ground := Ground.phase }, { on := 25, ground := Ground.phase }, { on := 26, ground := Ground.phase }, { on := 27, ground := Ground.phase }] : Array Edge), Region.binds .any e = true → listed.getD e.on false = true) : wpOp Tryd.prog szOps Q 28 (RI szV (KnS w0 g) 29 szD a0 (listed.setIfInBounds 28 true)) a w := by
  have hg : ∀ k d, szD[k]? = some d → d < a0.tmps.size → listed.getD k false = true → szV k (a.tmps.getD d undef) := fun k d h1 h2 h3 => hI.get szD_nodup h1 h2 h3
  have t27 : a.tmps.getD 112 undef = .bool true := hg 27 112 rfl (by omega) (hd ⟨27, .data⟩ (by simp) rfl)
  have HK := Lib.hid (fun v w' (hS : KnS w0 g w') (hv : szV 28 v) => hI.next (d := 8) (v := v) szD_nodup rfl hS hv)
  have HS := Lib.hid hI.2.1
  clear hg hd hI hsz
  refine step_plain szOp_28 rfl (fun K' hK => ?_)
  have HKK := Lib.hid hK
  clear hK
  go_simp
  exact HKK.out _ _ (HK.out _ _ HS.out (by simp [szV]))
theorem szOps_dep : ∀ (j : Nat) (o : Oper), szOps[j]? = some o → ∀ e ∈ o.after, e.on < j := by
  have h : ∀ j : Nat, j < 29 → ((szOps[j]?).map fun o => o.after.all fun e => decide (e.on < j)) = some true := by decide +kernel
  intro j o ho
  have hj : j < 29 := (Array.getElem?_eq_some_iff.1 ho).1
  have h2 := h j hj
  rw [ho] at h2
  simp only [Option.map_some, Option.some.injEq, Array.all_eq_true_iff_forall_mem, decide_eq_true_eq] at h2
  exact h2
theorem szStep (a0 a : Act) (w w0 : World) (g : Nat) (Q : Exit → Act → World → Prop) (listed : Array Bool) (hsz : 112 < a0.tmps.size) (hI : RI szV (KnS w0 g) 29 szD a0 listed a w) (j : Nat) (hj : j ∈ Region.ready .any szOps listed) :
    wpOp Tryd.prog szOps Q j (RI szV (KnS w0 g) 29 szD a0 (listed.setIfInBounds j true)) a w := by
  obtain ⟨_, o, ho, hd⟩ := mem_ready.1 hj
  have hj29 : j < 29 := (Array.getElem?_eq_some_iff.1 ho).1
  rcases Nat.lt_succ_iff_lt_or_eq.1 hj29 with hj29 | rfl
  rotate_left
  · rw [szOp_28] at ho
    obtain rfl := Option.some.inj ho
    exact szStep_28 a0 a w w0 g Q listed hsz hI hd
  rcases Nat.lt_succ_iff_lt_or_eq.1 hj29 with hj29 | rfl
  rotate_left
  · rw [szOp_27] at ho
    obtain rfl := Option.some.inj ho
    exact szStep_27 a0 a w w0 g Q listed hsz hI hd
  rcases Nat.lt_succ_iff_lt_or_eq.1 hj29 with hj29 | rfl
  rotate_left
  · rw [szOp_26] at ho
    obtain rfl := Option.some.inj ho
    exact szStep_26 a0 a w w0 g Q listed hsz hI hd
  rcases Nat.lt_succ_iff_lt_or_eq.1 hj29 with hj29 | rfl
  rotate_left
  · rw [szOp_25] at ho
    obtain rfl := Option.some.inj ho
    exact szStep_25 a0 a w w0 g Q listed hsz hI hd
  rcases Nat.lt_succ_iff_lt_or_eq.1 hj29 with hj29 | rfl
  rotate_left
  · rw [szOp_24] at ho
    obtain rfl := Option.some.inj ho
    exact szStep_24 a0 a w w0 g Q listed hsz hI hd
  rcases Nat.lt_succ_iff_lt_or_eq.1 hj29 with hj29 | rfl
  rotate_left
  · rw [szOp_23] at ho
    obtain rfl := Option.some.inj ho
    exact szStep_23 a0 a w w0 g Q listed hsz hI hd
  rcases Nat.lt_succ_iff_lt_or_eq.1 hj29 with hj29 | rfl
  rotate_left
  · rw [szOp_22] at ho
    obtain rfl := Option.some.inj ho
    exact szStep_22 a0 a w w0 g Q listed hsz hI hd
  rcases Nat.lt_succ_iff_lt_or_eq.1 hj29 with hj29 | rfl
  rotate_left
  · rw [szOp_21] at ho
    obtain rfl := Option.some.inj ho
    exact szStep_21 a0 a w w0 g Q listed hsz hI hd
  rcases Nat.lt_succ_iff_lt_or_eq.1 hj29 with hj29 | rfl
  rotate_left
  · rw [szOp_20] at ho
    obtain rfl := Option.some.inj ho
    exact szStep_20 a0 a w w0 g Q listed hsz hI hd
  rcases Nat.lt_succ_iff_lt_or_eq.1 hj29 with hj29 | rfl
  rotate_left
  · rw [szOp_19] at ho
    obtain rfl := Option.some.inj ho
    exact szStep_19 a0 a w w0 g Q listed hsz hI hd
  rcases Nat.lt_succ_iff_lt_or_eq.1 hj29 with hj29 | rfl
  rotate_left
  · rw [szOp_18] at ho
    obtain rfl := Option.some.inj ho
    exact szStep_18 a0 a w w0 g Q listed hsz hI hd
  rcases Nat.lt_succ_iff_lt_or_eq.1 hj29 with hj29 | rfl
  rotate_left
  · rw [szOp_17] at ho
    obtain rfl := Option.some.inj ho
    exact szStep_17 a0 a w w0 g Q listed hsz hI hd
  rcases Nat.lt_succ_iff_lt_or_eq.1 hj29 with hj29 | rfl
  rotate_left
  · rw [szOp_16] at ho
    obtain rfl := Option.some.inj ho
    exact szStep_16 a0 a w w0 g Q listed hsz hI hd
  rcases Nat.lt_succ_iff_lt_or_eq.1 hj29 with hj29 | rfl
  rotate_left
  · rw [szOp_15] at ho
    obtain rfl := Option.some.inj ho
    exact szStep_15 a0 a w w0 g Q listed hsz hI hd
  rcases Nat.lt_succ_iff_lt_or_eq.1 hj29 with hj29 | rfl
  rotate_left
  · rw [szOp_14] at ho
    obtain rfl := Option.some.inj ho
    exact szStep_14 a0 a w w0 g Q listed hsz hI hd
  rcases Nat.lt_succ_iff_lt_or_eq.1 hj29 with hj29 | rfl
  rotate_left
  · rw [szOp_13] at ho
    obtain rfl := Option.some.inj ho
    exact szStep_13 a0 a w w0 g Q listed hsz hI hd
  rcases Nat.lt_succ_iff_lt_or_eq.1 hj29 with hj29 | rfl
  rotate_left
  · rw [szOp_12] at ho
    obtain rfl := Option.some.inj ho
    exact szStep_12 a0 a w w0 g Q listed hsz hI hd
  rcases Nat.lt_succ_iff_lt_or_eq.1 hj29 with hj29 | rfl
  rotate_left
  · rw [szOp_11] at ho
    obtain rfl := Option.some.inj ho
    exact szStep_11 a0 a w w0 g Q listed hsz hI hd
  rcases Nat.lt_succ_iff_lt_or_eq.1 hj29 with hj29 | rfl
  rotate_left
  · rw [szOp_10] at ho
    obtain rfl := Option.some.inj ho
    exact szStep_10 a0 a w w0 g Q listed hsz hI hd
  rcases Nat.lt_succ_iff_lt_or_eq.1 hj29 with hj29 | rfl
  rotate_left
  · rw [szOp_9] at ho
    obtain rfl := Option.some.inj ho
    exact szStep_9 a0 a w w0 g Q listed hsz hI hd
  rcases Nat.lt_succ_iff_lt_or_eq.1 hj29 with hj29 | rfl
  rotate_left
  · rw [szOp_8] at ho
    obtain rfl := Option.some.inj ho
    exact szStep_8 a0 a w w0 g Q listed hsz hI hd
  rcases Nat.lt_succ_iff_lt_or_eq.1 hj29 with hj29 | rfl
  rotate_left
  · rw [szOp_7] at ho
    obtain rfl := Option.some.inj ho
    exact szStep_7 a0 a w w0 g Q listed hsz hI hd
  rcases Nat.lt_succ_iff_lt_or_eq.1 hj29 with hj29 | rfl
  rotate_left
  · rw [szOp_6] at ho
    obtain rfl := Option.some.inj ho
    exact szStep_6 a0 a w w0 g Q listed hsz hI hd
  rcases Nat.lt_succ_iff_lt_or_eq.1 hj29 with hj29 | rfl
  rotate_left
  · rw [szOp_5] at ho
    obtain rfl := Option.some.inj ho
    exact szStep_5 a0 a w w0 g Q listed hsz hI hd
  rcases Nat.lt_succ_iff_lt_or_eq.1 hj29 with hj29 | rfl
  rotate_left
  · rw [szOp_4] at ho
    obtain rfl := Option.some.inj ho
    exact szStep_4 a0 a w w0 g Q listed hsz hI hd
  rcases Nat.lt_succ_iff_lt_or_eq.1 hj29 with hj29 | rfl
  rotate_left
  · rw [szOp_3] at ho
    obtain rfl := Option.some.inj ho
    exact szStep_3 a0 a w w0 g Q listed hsz hI hd
  rcases Nat.lt_succ_iff_lt_or_eq.1 hj29 with hj29 | rfl
  rotate_left
  · rw [szOp_2] at ho
    obtain rfl := Option.some.inj ho
    exact szStep_2 a0 a w w0 g Q listed hsz hI hd
  rcases Nat.lt_succ_iff_lt_or_eq.1 hj29 with hj29 | rfl
  rotate_left
  · rw [szOp_1] at ho
    obtain rfl := Option.some.inj ho
    exact szStep_1 a0 a w w0 g Q listed hsz hI hd
  rcases Nat.lt_succ_iff_lt_or_eq.1 hj29 with hj29 | rfl
  rotate_left
  · rw [szOp_0] at ho
    obtain rfl := Option.some.inj ho
    exact szStep_0 a0 a w w0 g Q listed hsz hI hd
  exact absurd hj29 (Nat.not_lt_zero _)
/-- The sizes' region: whatever order is drawn, its slots hold what they should at its end. -/
theorem sizes_region (id : Nat) (a0 : Act) (w w0 : World) (g : Nat) (Q : Exit → Act → World → Prop) (hsz : 112 < a0.tmps.size) (hk0 : KnS w0 g w.drew)
    (h : ∀ x w', KnS w0 g w' → (∀ j, j < 29 → szV j (x j)) → Q .normal { a0 with tmps := pts x szD 0 a0.tmps } w') : (Code.region id szOps true).wp Tryd.prog Q a0 w := by
  refine wp_region_any (by kernel_rfl) ?_
  refine wpAny_inv (RI szV (KnS w0 g) 29 szD a0) (fun listed a w' j hI hj => szStep a0 a w' w0 g Q listed hsz hI j hj) ?_ szOps.size _ _ _ (RI.start hk0) ?_
  · rintro listed a w' ⟨hs, hk, x, rfl, hv⟩ hr
    exact h x w' hk (fun j hj => hv j (ready_nil (hs.trans rfl) szOps_dep hr j hj))
  · rw [Array.toList_replicate, List.count_replicate]
    exact Nat.le_refl _

end E
end Go.Proofs.YtgnaiolbleadbaaDoor
