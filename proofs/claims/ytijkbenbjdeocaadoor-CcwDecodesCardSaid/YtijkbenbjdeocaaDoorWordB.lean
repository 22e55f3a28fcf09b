/- Words: fields. -/
import Derived.Test.YtijkbenbjdeocaaDoorRows
import Derived.WalkKit
import Derived.ProofKit
import Derived.Lib.Hide
import Derived.Test.YtijkbenbjdeocaaDoorWordA
import Derived.Deep.Cut
import Derived.Deep.DeepMust
import Derived.Deep.QuietTactic
import Derived.BigQuiet
import Derived.OwnWalk
import Derived.Laws.CopyOwn
import Derived.Laws.AppendOwn
import Derived.Laws.OwnMore
import Derived.Laws.AppendOwnNone
import Derived.Deep.Draws
namespace Go.Proofs.YtijkbenbjdeocaaDoor
open Go.RowKit
set_option linter.unusedVariables false
namespace W

/-- The number that the first k bytes represent (the highest first), in 32 bits. -/
def jn (f : Nat → Int) : Nat → Int
  | 0 => 0
  | k + 1 => jn f k * 256 % 4294967296 + f k
/-- The n cells from an address on hold the bytes f 0, f 1 and so on. -/
def Bytes (w : World) (B off n : Nat) (f : Nat → Int) : Prop := ∀ j, j < n → w.cell? ⟨B, off + j, none⟩ = some (.int .u8 (f j))
def IsBytes (f : Nat → Int) (n : Nat) : Prop := ∀ j, j < n → 0 ≤ f j ∧ f j < 256
theorem orB {v x : Int} (h0 : 0 ≤ v) (h1 : v < 4294967296) (l0 : 0 ≤ x) (l1 : x < 256) : bits .or .u32 (v * 256 % 4294967296) x = v * 256 % 4294967296 + x := by
  have h := orByte (v := v % 16777216) (x := x) (by omega) (by omega) l0 l1
  rw [show v % 16777216 * 256 = v * 256 % 4294967296 by omega] at h
  exact h
theorem jn_bd (f : Nat → Int) (n : Nat) (hf : IsBytes f n) : 0 ≤ jn f n ∧ jn f n < 4294967296 := by
  induction n with
  | zero => simp [jn]
  | succ k ih =>
    have h := hf k (by omega)
    have := ih (fun j hj => hf j (by omega))
    simp only [jn]; omega
def wB (at' n size : Int) : Bool := decide (0 ≤ at' ∧ at' ≤ n - size)

theorem within_any (p : Option Addr) (n c : Nat) (at' size : Int) (hn : n ≤ 9223372036854775807) (hs : 0 ≤ size ∧ size ≤ 4) (w : World) :
    Calls Tryd.prog 42 #[.slice p n c, .int .i64 at', .int .i64 size] w fun e w' => e = .returned (.bool (wB at' n size)) ∧ w = w' := by
  by_cases h : 0 ≤ at'
  · have hb : decide (at' ≤ (n : Int) - size) = wB at' n size := by simp [wB, h]
    have H := Lib.hid hb; clear hb
    go_enter Tryd.func42, Tryd.ntmps42
    go_wp2
    go_ret
    exact ⟨ret_bool H.out, rfl⟩
  · have hb : false = wB at' n size := by simp [wB, h]
    have H := Lib.hid hb; clear hb
    go_enter Tryd.func42, Tryd.ntmps42
    go_wp2
    go_ret
    exact ⟨ret_bool H.out, rfl⟩

theorem join_any (B off n c : Nat) (f : Nat → Int) (w : World) (hn : n ≤ 9223372036854775807) (hc : Bytes w B off n f) (hf : IsBytes f n) :
    Calls Tryd.prog 43 #[.slice (some ⟨B, off, none⟩) n c] w fun e w' => e = .returned (.int .u32 (jn f n)) ∧ w = w' := by
  go_enter Tryd.func43, Tryd.ntmps43
  go_wp2
  go_loop [3, 5, 8] (fun v _ i => ∃ k : Nat, k ≤ n ∧ i = .int .i64 k ∧ v = .int .u32 (jn f k)) (fun _ _ i => n - (intOf i).toNat)
  case atStart => exact ⟨0, Nat.zero_le _, rfl, rfl⟩
  case round =>
    obtain ⟨k, hk, rfl, rfl⟩ := hrel
    by_cases hlt : k < n
    · have hb := hf k hlt
      have hcell := hc k hlt
      have hj := jn_bd f k (fun j hj => hf j (by omega))
      have ho : bits .or .u32 (jn f k * 256 % 4294967296) (f k) = jn f (k + 1) := orB hj.1 hj.2 hb.1 hb.2
      have H := Lib.hid ho; clear ho hf hc
      go_wp2
      go_round
      case rel => exact ⟨k + 1, by omega, by go_num, by rw [H.out]⟩
      case measure => simp [intOf]; omega
    · obtain rfl : k = n := by omega
      clear hc hf
      go_wp2
      go_ret
      exact ⟨rfl, rfl⟩

def h16 (v : Int) : Int := if v < 32768 then v else v + 4294901760
theorem h16_eq {v : Int} (h0 : 0 ≤ v) (h1 : v < 65536) : IntKind.i16.wrap v % 4294967296 = h16 v := by
  unfold h16; simp [IntKind.wrap, IntKind.bits, IntKind.signed]; (repeat' split) <;> omega
def sh (f : Nat → Int) (k : Nat) : Nat → Int := fun j => f (k + j)
theorem Bytes.sh {w : World} {B off n k m : Nat} {f : Nat → Int} (h : Bytes w B off n f) (hk : k + m ≤ n) : Bytes w B (off + k) m (W.sh f k) := fun j hj => by
  have := h (k + j) (by omega)
  rw [← Nat.add_assoc] at this; exact this
theorem IsBytes.sh {n k m : Nat} {f : Nat → Int} (h : IsBytes f n) (hk : k + m ≤ n) : IsBytes (W.sh f k) m := fun j hj => h (k + j) (by omega)
theorem ret_2 {a b : Int} {o : Bool} (h : a = b) : Ending.returned (.tuple #[.int .u32 a, .bool o]) = .returned (.tuple #[.int .u32 b, .bool o]) := by rw [h]
theorem jn2 {f : Nat → Int} (h : IsBytes f 2) : 0 ≤ jn f 2 ∧ jn f 2 < 65536 := by
  have h0 := h 0 (by omega); have h1 := h 1 (by omega)
  simp only [jn]; omega

theorem wFull_yes (B off n c k : Nat) (f : Nat → Int) (w : World) (hn : n ≤ 9223372036854775807) (hnc : n ≤ c) (hc : Bytes w B off n f) (hf : IsBytes f n) (hk : k + 4 ≤ n) :
    Calls Tryd.prog 40 #[.slice (some ⟨B, off, none⟩) n c, .int .i64 k] w fun e w' => e = .returned (.tuple #[.int .u32 (jn (sh f k) 4), .bool true]) ∧ w = w' := by
  have hw : wB k n 4 = true := by simp [wB]; omega
  have hb : (!wB k n 4) = false := by rw [hw]; rfl
  clear hw
  go_enter Tryd.func40, Tryd.ntmps40
  go_wp2_with fail
  refine (within_any _ _ _ _ _ hn (by omega) _).mono ?_
  rintro e w' ⟨rfl, rfl⟩
  go_wp2_with fail
  refine (join_any _ _ _ _ (sh f k) _ (by omega) (hc.sh hk) (hf.sh hk)).mono ?_
  rintro e w' ⟨rfl, rfl⟩
  clear hc hf
  go_wp2
  go_ret2
  exact ⟨rfl, rfl⟩
theorem wFull_no (p : Option Addr) (n c : Nat) (at' : Int) (w : World) (hn : n ≤ 9223372036854775807) (h : ¬ (0 ≤ at' ∧ at' + 4 ≤ n)) :
    Calls Tryd.prog 40 #[.slice p n c, .int .i64 at'] w fun e w' => e = .returned (.tuple #[.int .u32 0, .bool false]) ∧ w = w' := by
  have hw : wB at' n 4 = false := by simp [wB]; omega
  have hb : (!wB at' n 4) = true := by rw [hw]; rfl
  clear hw h
  go_enter Tryd.func40, Tryd.ntmps40
  go_wp2_with fail
  refine (within_any _ _ _ _ _ hn (by omega) _).mono ?_
  rintro e w' ⟨rfl, rfl⟩
  go_wp2
  go_ret2
  exact ⟨rfl, rfl⟩

def wf4 : Nat → Int := fun j => match j with | 0 => 0 | 1 => 255 | 2 => 254 | _ => 0
theorem wf4_is : IsBytes wf4 4 := fun j hj => by
  match j, hj with
  | 0, _ => decide
  | 1, _ => decide
  | 2, _ => decide
  | 3, _ => decide
theorem wf4_at (w : World) : Bytes (w.alloc (Obj.cells #[Value.int IntKind.u8 0, Value.int IntKind.u8 255, Value.int IntKind.u8 254, Value.int IntKind.u8 0] 5)) w.heap.size 0 4 wf4 := fun j hj => by
  match j, hj with
  | 0, _ => simp [go_sem, wf4]
  | 1, _ => simp [go_sem, wf4]
  | 2, _ => simp [go_sem, wf4]
  | 3, _ => simp [go_sem, wf4]
/-- What has grown and grows again has grown. -/
theorem grownThen {w w1 w2 : World} (h : Grown w w1) (k : Grown w1 w2) : Grown w w2 := by
  obtain ⟨h1, h2, h3⟩ := h
  obtain ⟨k1, k2, k3⟩ := k
  refine ⟨World.keptBut_trans h1 k1, fun x => ?_, by omega⟩
  rw [k2, h2]
end W
end Go.Proofs.YtijkbenbjdeocaaDoor
namespace Go.Proofs.YtijkbenbjdeocaaDoor
open Go.RowKit
set_option linter.unusedVariables false
namespace W

/-- A slice that starts at p and has the length of l reads as the bytes l. -/
def Rd (w : World) (p : Option Addr) (l : List Int) : Prop := l = [] ∨ ∃ B off, p = some ⟨B, off, none⟩ ∧ ∀ j, j < l.length → w.cell? ⟨B, off + j, none⟩ = some (.int .u8 (l.getD j 0))
def IsB (l : List Int) : Prop := ∀ x ∈ l, 0 ≤ x ∧ x < 256
theorem IsB.at {l : List Int} (h : IsB l) (j : Nat) : 0 ≤ l.getD j 0 ∧ l.getD j 0 < 256 := by
  by_cases hj : j < l.length
  · rw [List.getD_eq_getElem?_getD, List.getElem?_eq_getElem hj]
    exact h _ (List.getElem_mem hj)
  · rw [List.getD_eq_getElem?_getD, List.getElem?_eq_none (by omega)]; decide

/-- The cells of bytes. -/
def bs (l : List Int) : List Value := l.map (Value.int .u8)
/-- Bytes with a field put into them. -/
def putL (l : List Int) (k : Nat) (fs : List Int) : List Int := l.take k ++ (fs ++ l.drop (k + fs.length))
theorem bs_len (l : List Int) : (bs l).length = l.length := by simp [bs]
theorem bs_at {l : List Int} {j : Nat} {v : Value} (h : (bs l)[j]? = some v) : j < l.length ∧ v = .int .u8 (l.getD j 0) := by
  have hj : j < l.length := by
    have := (List.getElem?_eq_some_iff.1 h).1
    simpa [bs] using this
  refine ⟨hj, ?_⟩
  simp only [bs, List.getElem?_map, List.getElem?_eq_getElem hj, Option.map_some, Option.some.injEq] at h
  rw [← h, List.getD_eq_getElem?_getD, List.getElem?_eq_getElem hj]; rfl
theorem bs_one (l : List Int) : ∀ v ∈ bs l, v.oneCell' = true := by
  intro v hv
  obtain ⟨x, _, rfl⟩ := List.mem_map.1 hv
  rfl
theorem putL_len {l fs : List Int} {k : Nat} (h : k + fs.length ≤ l.length) : (putL l k fs).length = l.length := by
  simp [putL]; omega
theorem addNone (B off j : Nat) : (⟨B, off, none⟩ : Addr).add j = ⟨B, off + j, none⟩ := by simp [Addr.add]
theorem Rd.below {w w' : World} {p : Option Addr} {l : List Int} (h : Rd w p l) (hb : Below w.heap.size w w') : Rd w' p l := by
  rcases h with h | ⟨B, off, hp, hc⟩
  · exact .inl h
  · refine .inr ⟨B, off, hp, fun j hj => ?_⟩
    have hj' := hc j hj
    rw [hb.cell (World.block_lt_of_cell? w _ hj')]; exact hj'
theorem Rd.src {w : World} {p : Option Addr} {l : List Int} (h : Rd w p l) (hl : 0 < l.length) : ∃ ad, p = some ad ∧ ∀ j v, (bs l)[j]? = some v → w.cell? (ad.add j) = some v := by
  rcases h with h | ⟨B, off, rfl, hc⟩
  · subst h; simp at hl
  · refine ⟨_, rfl, fun j v hv => ?_⟩
    obtain ⟨hj, rfl⟩ := bs_at hv
    rw [addNone]; exact hc j hj
theorem row_of {w : World} {base : Nat} {g n cap : Nat} {xs : List Value} (h : w.ownsRow base 5 1 (.slice (some ⟨g, 0, none⟩) n cap) n xs) : ∃ cur : List Value, w.heap[g]? = some (.cells cur.toArray 5 (0, 0)) ∧ cur.length = cap ∧ cur.take n = xs ∧ n ≤ cap := by
  obtain ⟨_, h | ⟨g', cap', cur, hv, _, hh, hle, _, hsz, ht⟩⟩ := h
  · simp at h
  · simp at hv
    obtain ⟨rfl, rfl⟩ := hv
    exact ⟨cur.toList, by simpa using hh, by simpa using hsz, by simpa using ht, hle⟩
theorem splice_bs (l : List Int) (k : Nat) (fs : List Int) : splice (bs l) k (bs fs) = bs (putL l k fs) := by
  simp [splice, putL, bs, List.map_take, List.map_drop]
theorem splice_all {L cs : List Value} (h : L.length = cs.length) : splice L 0 cs = cs := by
  simp [splice, ← h]

theorem info5 : (Tryd.prog.info? 5).map (fun i => (i.zero, i.size, i.bytes)) = some (some (.int .u8 0), 1, 1) := by kernel_rfl
theorem put_yes (p : Option Addr) (n c k fB m : Nat) (l fs : List Int) (w : World) (hn : n ≤ 9223372036854775807) (hb : n ≤ 140737488355328) (hl : l.length = n) (hm : fs.length = m) (hm4 : m ≤ 4) (hm0 : 0 < m) (hp : Rd w p l) (hf : Rd w (some ⟨fB, 0, none⟩) fs) (hk : k + m ≤ n) :
    Calls Tryd.prog 41 #[.slice p n c, .int .i64 k, .slice (some ⟨fB, 0, none⟩) m m] w fun e w' => e = .returned (.tuple #[.slice (some ⟨w.heap.size, 0, none⟩) n n, .bool true]) ∧ Below w.heap.size w w' ∧ w'.heap[w.heap.size]? = some (.cells (bs (putL l k fs)).toArray 5 (0, 0)) := by
  obtain ⟨i0, hi, hz0, hz1, hz2⟩ := info_parts info5
  have hw : wB k n m = true := by simp [wB]; omega
  have hbb : (!wB k n m) = false := by rw [hw]; rfl
  clear hw
  go_enter Tryd.func41, Tryd.ntmps41
  go_wp2_with fail
  refine (within_any _ _ _ _ _ hn (by omega) _).mono ?_
  rintro e w' ⟨rfl, rfl⟩
  go_wp2_with (first
    | (at_make; refine wpList_make_full _ rfl _ _ 27 rfl w.heap.size 5 i0 (.int .u8 0) 1 Tryd.underlying27 hi hz0 hz1 .i64 .i64 n n n rfl rfl rfl rfl (by rw [hz2]; omega) (by unfold maxLen; omega) (Nat.le_refl _) ?_; intro w1 hown hgrow; obtain ⟨cur, hcur, hlen, _, _⟩ := row_of hown; have hb1 : Below w.heap.size w w1 := (Below.refl _ _).grown hgrow (Nat.le_refl _) (by simp); have hp1 := hp.below hb1; clear hown hgrow)
    | ((with_reducible refine wpList_copy_splice (o := ⟨some 20, _, _, _, _, _⟩) ?_ (.tmp 18) (.tmp 19) 27 27 ?_ 5 ?_ ?_ (some ⟨w.heap.size, 0, none⟩) p n n n c ?_ ?_ w.heap.size 0 cur 5 hcur (bs l) ?_ ?_ ?_ (bs_one l) w.heap.size w hb1 (Nat.le_refl _) ?_); (rfl); (rfl); (exact Tryd.underlying27); (kernel_rfl); (rfl); (rfl); (rw [bs_len, hl]; exact (Nat.min_self n).symm); (exact fun _ => ⟨rfl, hp1.src (by omega)⟩); (rw [bs_len]; omega); intro w2 h2 hb2; rw [splice_all (by rw [bs_len]; omega)] at h2; have hf2 := hf.below hb2; clear hcur hp1)
    | ((with_reducible refine wpList_copy_splice (o := ⟨some 25, _, _, _, _, _⟩) ?_ (.tmp 23) (.tmp 24) 27 27 ?_ 5 ?_ ?_ (some ⟨w.heap.size, k, none⟩) (some ⟨fB, 0, none⟩) (n - k) (n - k) m m ?_ ?_ w.heap.size k (bs l) 5 h2.out (bs fs) ?_ ?_ ?_ (bs_one fs) w.heap.size w hb2 (Nat.le_refl _) ?_); (rfl); (rfl); (exact Tryd.underlying27); (kernel_rfl); (rfl); (rfl); (rw [bs_len, hm]; show m = min m (n - k); omega); (exact fun _ => ⟨rfl, hf2.src (by omega)⟩); (rw [bs_len, bs_len]; omega); intro w3 h3 hb3; rw [splice_bs] at h3))
  go_ret2
  exact ⟨rfl, hb3, h3.out⟩

theorem put_no (p : Option Addr) (n c m : Nat) (q : Option Addr) (at' : Int) (w : World) (hn : n ≤ 9223372036854775807) (hm4 : m ≤ 4) (h : ¬ (0 ≤ at' ∧ at' + m ≤ n)) :
    Calls Tryd.prog 41 #[.slice p n c, .int .i64 at', .slice q m m] w fun e w' => e = .returned (.tuple #[.slice none 0 0, .bool false]) ∧ w = w' := by
  have hw : wB at' n m = false := by simp [wB]; omega
  have hbb : (!wB at' n m) = true := by rw [hw]; rfl
  clear hw h
  go_enter Tryd.func41, Tryd.ntmps41
  go_wp2_with fail
  refine (within_any _ _ _ _ _ hn (by omega) _).mono ?_
  rintro e w' ⟨rfl, rfl⟩
  go_wp2
  go_ret2
  exact ⟨rfl, rfl⟩

theorem below_new (w : World) (o : Obj) : Below w.heap.size w (w.alloc o) := (Below.refl _ _).alloc (Nat.le_refl _) _
theorem rd_new (w : World) (l : List Int) : Rd (w.alloc (.cells (bs l).toArray 5)) (some ⟨w.heap.size, 0, none⟩) l := by
  refine .inr ⟨_, _, rfl, fun j hj => ?_⟩
  have h : (bs l)[j]? = some (.int .u8 (l.getD j 0)) := by
    simp [bs, List.getD_eq_getElem?_getD, List.getElem?_eq_getElem hj]
  simp [go_sem, h]

theorem wPutFull_yes (p : Option Addr) (n c k : Nat) (l : List Int) (v : Int) (w : World) (v0 : 0 ≤ v) (v1 : v < 4294967296) (hn : n ≤ 9223372036854775807) (hb : n ≤ 140737488355328) (hl : l.length = n) (hp : Rd w p l) (hk : k + 4 ≤ n) :
    Calls Tryd.prog 37 #[.slice p n c, .int .i64 k, .int .u32 v] w fun e w' => e = .returned (.tuple #[.slice (some ⟨w.heap.size + 1, 0, none⟩) n n, .bool true]) ∧ Below w.heap.size w w' ∧ w'.heap[w.heap.size + 1]? = some (.cells (bs (putL l k [v / 16777216, v / 65536 % 256, v / 256 % 256, v % 256])).toArray 5 (0, 0)) := by
  go_enter Tryd.func37, Tryd.ntmps37
  go_wp2_with fail
  refine (put_yes p n c k w.heap.size 4 l [v / 16777216, v / 65536 % 256, v / 256 % 256, v % 256] _ hn hb hl rfl (by decide) (by decide) (hp.below (below_new _ _)) (rd_new w [v / 16777216, v / 65536 % 256, v / 256 % 256, v % 256]) hk).mono ?_
  rintro e w' ⟨rfl, hb, hc⟩
  go_wp2
  go_ret2
  exact ⟨rfl, (below_new w _).trans (hb.mono (by simp)), by simpa using hc⟩
theorem wPutFull_no (p : Option Addr) (n c : Nat) (at' v : Int) (w : World) (v0 : 0 ≤ v) (v1 : v < 4294967296) (hn : n ≤ 9223372036854775807) (h : ¬ (0 ≤ at' ∧ at' + 4 ≤ n)) :
    Calls Tryd.prog 37 #[.slice p n c, .int .i64 at', .int .u32 v] w fun e w' => e = .returned (.tuple #[.slice none 0 0, .bool false]) ∧ Below w.heap.size w w' ∧ w.heap.size ≤ w'.heap.size := by
  go_enter Tryd.func37, Tryd.ntmps37
  go_wp2_with fail
  refine (put_no p n c 4 _ at' _ hn (by decide) h).mono ?_
  rintro e w' ⟨rfl, rfl⟩
  go_wp2
  go_ret2
  exact ⟨rfl, below_new w _, by simp⟩

end W
end Go.Proofs.YtijkbenbjdeocaaDoor
namespace Go.Proofs.YtijkbenbjdeocaaDoor
open Go.RowKit
set_option linter.unusedVariables false
namespace W

/-- The byte j of the m bytes of a word. -/
def rb (v : Int) (m j : Nat) : Int := v / 2 ^ (8 * (m - 1 - j)) % 256
/-- What lies at j when the m bytes of a word were put at k. -/
def pj (f : Nat → Int) (v : Int) (k m j : Nat) : Int := if k ≤ j ∧ j < k + m then rb v m (j - k) else f j
def pl2 (f : Nat → Int) (v : Int) (k m i : Nat) : List Int := (List.range i).map (pj f v k m)
theorem pl2_succ (f : Nat → Int) (v : Int) (k m i : Nat) : bs (pl2 f v k m (i + 1)) = bs (pl2 f v k m i) ++ [.int .u8 (pj f v k m i)] := by
  simp [bs, pl2, List.range_succ]
theorem cellNew (w : World) (v : Value) (t : TypeId) : ∀ j u, [v][j]? = some u → (w.alloc (.cells #[v] t)).cell? ((⟨w.heap.size, 0, none⟩ : Addr).add j) = some u := by
  intro j u h
  match j, h with
  | 0, h => simp at h; subst h; rw [addNone]; simp [go_sem]
/-- What the specification's put leaves. -/
def PutPost (w : World) (f : Nat → Int) (v : Int) (k m n : Nat) (e : Ending) (w' : World) : Prop :=
  ∃ sv, e = .returned (.tuple #[sv, .bool true]) ∧ w'.ownsRow w.heap.size 5 1 sv n (bs (pl2 f v k m n)) ∧ Below w.heap.size w w'
/-- What lent leaves: a row of its own with the bytes and eight 7s. -/
def LentPost (w : World) (l : List Int) (e : Ending) (w' : World) : Prop :=
  ∃ sv, e = .returned sv ∧ w'.ownsRow w.heap.size 5 1 sv (l.length + 8) (bs (l ++ List.replicate 8 7)) ∧ Below w.heap.size w w'
theorem ownsEmpty (w : World) : (w.alloc (.cells #[] 5)).ownsRow w.heap.size 5 1 (.slice (some ⟨w.heap.size, 0, none⟩) 0 0) 0 [] :=
  ⟨rfl, .inr ⟨w.heap.size, 0, #[], rfl, Nat.le_refl _, by show (w.heap.push _)[w.heap.size]? = _; simp, Nat.le_refl _, by unfold maxLen; omega, rfl, rfl⟩⟩
end W
end Go.Proofs.YtijkbenbjdeocaaDoor
