/- Contracts of the functions that compare and copy bytes. -/
import Derived.Test.YtkbnciekhllcpaaRows
import Derived.WalkKit
import Derived.ProofKit
import Derived.Deep.Cut
import Derived.Deep.DeepMust
import Derived.Deep.QuietTactic
import Derived.BigQuiet
import Derived.OwnWalk
import Derived.Laws.CopyOwn
import Derived.Laws.AppendOwn
import Derived.Laws.OwnMore
import Derived.Laws.AppendOwnNone
import Derived.Deep.Draws
import Derived.Lib.Hide
import Derived.Test.YtkbnciekhllcpaaWordRead
namespace Go.Proofs.Ytkbnciekhllcpaa
open Go.RowKit
set_option linter.unusedVariables false
namespace W

/-- A slice that starts at p and has the length of l reads as the bytes l. -/
def Rd (w : World) (p : Option Addr) (l : List Int) : Prop := l = [] ∨ ∃ B off, p = some ⟨B, off, none⟩ ∧ ∀ j, j < l.length → w.cell? ⟨B, off + j, none⟩ = some (.int .u8 (l.getD j 0))
def IsB (l : List Int) : Prop := ∀ x ∈ l, 0 ≤ x ∧ x < 256
theorem IsB.at {l : List Int} (h : IsB l) (j : Nat) : 0 ≤ l.getD j 0 ∧ l.getD j 0 < 256 := by
  by_cases hj : j < l.length
  · rw [List.getD_eq_getElem?_getD, List.getElem?_eq_getElem hj]
    exact h _ (List.getElem_mem hj)
  · rw [List.getD_eq_getElem?_getD, List.getElem?_eq_none (by omega)]; decide

theorem same_true (p q : Option Addr) (c d : Nat) (l : List Int) (w : World) (hn : l.length ≤ 9223372036854775807) (hp : Rd w p l) (hq : Rd w q l) :
    Calls Try.prog 28 #[.slice p l.length c, .slice q l.length d] w fun e w' => e = .returned (.bool true) ∧ ∃ m, w' = w.drewN m := by
  rcases hp with h0 | ⟨B, off, rfl, hc⟩
  · subst h0
    clear hq
    go_enter Try.func28, Try.ntmps28
    go_wp2
    go_loop [5] (fun i => i = .int .i64 0) (fun _ => 0)
    case atStart => rfl
    case round =>
      subst hrel
      go_wp2
      go_ret
      exact ⟨rfl, 0, rfl⟩
  rcases hq with h0 | ⟨B2, off2, rfl, hd⟩
  · subst h0
    clear hc
    go_enter Try.func28, Try.ntmps28
    go_wp2
    go_loop [5] (fun i => i = .int .i64 0) (fun _ => 0)
    case atStart => rfl
    case round =>
      subst hrel
      go_wp2
      go_ret
      exact ⟨rfl, 0, rfl⟩
  generalize hln : l.length = n at *
  have HL := Lib.hid hln; clear hln
  go_enter Try.func28, Try.ntmps28
  go_wp2
  go_loopw [5] (fun i wr => (∃ m, wr = w.drewN m) ∧ ∃ k : Nat, k ≤ n ∧ i = .int .i64 k) (fun i _ => n - (intOf i).toNat)
  case atStart => exact ⟨⟨0, rfl⟩, 0, Nat.zero_le _, rfl⟩
  case round =>
    obtain ⟨⟨m, rfl⟩, k, hk, rfl⟩ := hrel
    by_cases hlt : k < n
    · have hcell := hc k hlt
      have hcell2 := hd k hlt
      clear hc hd
      go_wp2
      go_quiet (fail)
      go_wp2
      go_roundw
      case rel => exact ⟨⟨_, rfl⟩, k + 1, by omega, by go_num⟩
      case measure => simp [intOf]; omega
    · obtain rfl : k = n := by omega
      clear hc hd
      go_wp2
      go_ret
      exact ⟨rfl, _, rfl⟩

/-- The cells of bytes. -/
def bs (l : List Int) : List Value := l.map (Value.int .u8)
/-- Bytes with a field put into them. -/
def putL (l : List Int) (k : Nat) (fs : List Int) : List Int := l.take k ++ (fs ++ l.drop (k + fs.length))
theorem bs_len (l : List Int) : (bs l).length = l.length := by simp [bs]
theorem bs_at {l : List Int} {j : Nat} {v : Value} (h : (bs l)[j]? = some v) : j < l.length ∧ v = .int .u8 (l.getD j 0) := by
  have hj : j < l.length := by
    have := (List.getElem?_eq_some_iff.1 h).1
    simpa [bs] using this
  refine ⟨hj, ?_⟩
  simp only [bs, List.getElem?_map, List.getElem?_eq_getElem hj, Option.map_some, Option.some.injEq] at h
  rw [← h, List.getD_eq_getElem?_getD, List.getElem?_eq_getElem hj]; rfl
theorem bs_one (l : List Int) : ∀ v ∈ bs l, v.oneCell' = true := by
  intro v hv
  obtain ⟨x, _, rfl⟩ := List.mem_map.1 hv
  rfl
theorem putL_len {l fs : List Int} {k : Nat} (h : k + fs.length ≤ l.length) : (putL l k fs).length = l.length := by
  simp [putL]; omega
theorem addNone (B off j : Nat) : (⟨B, off, none⟩ : Addr).add j = ⟨B, off + j, none⟩ := by simp [Addr.add]
theorem Rd.below {w w' : World} {p : Option Addr} {l : List Int} (h : Rd w p l) (hb : Below w.heap.size w w') : Rd w' p l := by
  rcases h with h | ⟨B, off, hp, hc⟩
  · exact .inl h
  · refine .inr ⟨B, off, hp, fun j hj => ?_⟩
    have hj' := hc j hj
    rw [hb.cell (World.block_lt_of_cell? w _ hj')]; exact hj'
theorem Rd.src {w : World} {p : Option Addr} {l : List Int} (h : Rd w p l) (hl : 0 < l.length) : ∃ ad, p = some ad ∧ ∀ j v, (bs l)[j]? = some v → w.cell? (ad.add j) = some v := by
  rcases h with h | ⟨B, off, rfl, hc⟩
  · subst h; simp at hl
  · refine ⟨_, rfl, fun j v hv => ?_⟩
    obtain ⟨hj, rfl⟩ := bs_at hv
    rw [addNone]; exact hc j hj
theorem row_of {w : World} {base : Nat} {g n cap : Nat} {xs : List Value} (h : w.ownsRow base 5 1 (.slice (some ⟨g, 0, none⟩) n cap) n xs) : ∃ cur : List Value, w.heap[g]? = some (.cells cur.toArray 5 (0, 0)) ∧ cur.length = cap ∧ cur.take n = xs ∧ n ≤ cap := by
  obtain ⟨_, h | ⟨g', cap', cur, hv, _, hh, hle, _, hsz, ht⟩⟩ := h
  · simp at h
  · simp at hv
    obtain ⟨rfl, rfl⟩ := hv
    exact ⟨cur.toList, by simpa using hh, by simpa using hsz, by simpa using ht, hle⟩
theorem splice_bs (l : List Int) (k : Nat) (fs : List Int) : splice (bs l) k (bs fs) = bs (putL l k fs) := by
  simp [splice, putL, bs, List.map_take, List.map_drop]
theorem splice_all {L cs : List Value} (h : L.length = cs.length) : splice L 0 cs = cs := by
  simp [splice, ← h]

theorem info5 : (Try.prog.info? 5).map (fun i => (i.zero, i.size, i.bytes)) = some (some (.int .u8 0), 1, 1) := by kernel_rfl
theorem put_yes (p : Option Addr) (n c k fB m : Nat) (l fs : List Int) (w : World) (hn : n ≤ 9223372036854775807) (hb : n ≤ 140737488355328) (hl : l.length = n) (hm : fs.length = m) (hm4 : m ≤ 4) (hm0 : 0 < m) (hp : Rd w p l) (hf : Rd w (some ⟨fB, 0, none⟩) fs) (hk : k + m ≤ n) :
    Calls Try.prog 70 #[.slice p n c, .int .i64 k, .slice (some ⟨fB, 0, none⟩) m m] w fun e w' => e = .returned (.tuple #[.slice (some ⟨w.heap.size, 0, none⟩) n n, .bool true]) ∧ Below w.heap.size w w' ∧ w'.heap[w.heap.size]? = some (.cells (bs (putL l k fs)).toArray 5 (0, 0)) := by
  obtain ⟨i0, hi, hz0, hz1, hz2⟩ := info_parts info5
  have hw : wB k n m = true := by simp [wB]; omega
  have hbb : (!wB k n m) = false := by rw [hw]; rfl
  clear hw
  go_enter Try.func70, Try.ntmps70
  go_wp2_with fail
  refine (within_any _ _ _ _ _ hn (by omega) _).mono ?_
  rintro e w' ⟨rfl, rfl⟩
  go_wp2_with (first
    | (at_make; refine wpList_make_full _ rfl _ _ 22 rfl w.heap.size 5 i0 (.int .u8 0) 1 Try.underlying22 hi hz0 hz1 .i64 .i64 n n n rfl rfl rfl rfl (by rw [hz2]; omega) (by unfold maxLen; omega) (Nat.le_refl _) ?_; intro w1 hown hgrow; obtain ⟨cur, hcur, hlen, _, _⟩ := row_of hown; have hb1 : Below w.heap.size w w1 := (Below.refl _ _).grown hgrow (Nat.le_refl _) (by simp); have hp1 := hp.below hb1; clear hown hgrow)
    | ((with_reducible refine wpList_copy_splice (o := ⟨some 20, _, _, _, _, _⟩) ?_ (.tmp 18) (.tmp 19) 22 22 ?_ 5 ?_ ?_ (some ⟨w.heap.size, 0, none⟩) p n n n c ?_ ?_ w.heap.size 0 cur 5 hcur (bs l) ?_ ?_ ?_ (bs_one l) w.heap.size w hb1 (Nat.le_refl _) ?_); (rfl); (rfl); (exact Try.underlying22); (kernel_rfl); (rfl); (rfl); (rw [bs_len, hl]; exact (Nat.min_self n).symm); (exact fun _ => ⟨rfl, hp1.src (by omega)⟩); (rw [bs_len]; omega); intro w2 h2 hb2; rw [splice_all (by rw [bs_len]; omega)] at h2; have hf2 := hf.below hb2; clear hcur hp1)
    | ((with_reducible refine wpList_copy_splice (o := ⟨some 25, _, _, _, _, _⟩) ?_ (.tmp 23) (.tmp 24) 22 22 ?_ 5 ?_ ?_ (some ⟨w.heap.size, k, none⟩) (some ⟨fB, 0, none⟩) (n - k) (n - k) m m ?_ ?_ w.heap.size k (bs l) 5 h2.out (bs fs) ?_ ?_ ?_ (bs_one fs) w.heap.size w hb2 (Nat.le_refl _) ?_); (rfl); (rfl); (exact Try.underlying22); (kernel_rfl); (rfl); (rfl); (rw [bs_len, hm]; show m = min m (n - k); omega); (exact fun _ => ⟨rfl, hf2.src (by omega)⟩); (rw [bs_len, bs_len]; omega); intro w3 h3 hb3; rw [splice_bs] at h3))
  go_ret2
  exact ⟨rfl, hb3, h3.out⟩

theorem put_no (p : Option Addr) (n c m : Nat) (q : Option Addr) (at' : Int) (w : World) (hn : n ≤ 9223372036854775807) (hm4 : m ≤ 4) (h : ¬ (0 ≤ at' ∧ at' + m ≤ n)) :
    Calls Try.prog 70 #[.slice p n c, .int .i64 at', .slice q m m] w fun e w' => e = .returned (.tuple #[.slice none 0 0, .bool false]) ∧ w = w' := by
  have hw : wB at' n m = false := by simp [wB]; omega
  have hbb : (!wB at' n m) = true := by rw [hw]; rfl
  clear hw h
  go_enter Try.func70, Try.ntmps70
  go_wp2_with fail
  refine (within_any _ _ _ _ _ hn (by omega) _).mono ?_
  rintro e w' ⟨rfl, rfl⟩
  go_wp2
  go_ret2
  exact ⟨rfl, rfl⟩

theorem below_new (w : World) (o : Obj) : Below w.heap.size w (w.alloc o) := (Below.refl _ _).alloc (Nat.le_refl _) _
theorem rd_new (w : World) (l : List Int) : Rd (w.alloc (.cells (bs l).toArray 5)) (some ⟨w.heap.size, 0, none⟩) l := by
  refine .inr ⟨_, _, rfl, fun j hj => ?_⟩
  have h : (bs l)[j]? = some (.int .u8 (l.getD j 0)) := by
    simp [bs, List.getD_eq_getElem?_getD, List.getElem?_eq_getElem hj]
  simp [go_sem, h]

theorem wPutHalf_yes (p : Option Addr) (n c k : Nat) (l : List Int) (v : Int) (w : World) (v0 : 0 ≤ v) (v1 : v < 4294967296) (hn : n ≤ 9223372036854775807) (hb : n ≤ 140737488355328) (hl : l.length = n) (hp : Rd w p l) (hk : k + 2 ≤ n) :
    Calls Try.prog 24 #[.slice p n c, .int .i64 k, .int .u32 v] w fun e w' => e = .returned (.tuple #[.slice (some ⟨w.heap.size + 1, 0, none⟩) n n, .bool true]) ∧ Below w.heap.size w w' ∧ w'.heap[w.heap.size + 1]? = some (.cells (bs (putL l k [v / 256 % 256, v % 256])).toArray 5 (0, 0)) := by
  go_enter Try.func24, Try.ntmps24
  go_wp2_with fail
  refine (put_yes p n c k w.heap.size 2 l [v / 256 % 256, v % 256] _ hn hb hl rfl (by decide) (by decide) (hp.below (below_new _ _)) (rd_new w [v / 256 % 256, v % 256]) hk).mono ?_
  rintro e w' ⟨rfl, hb, hc⟩
  go_wp2
  go_ret2
  exact ⟨rfl, (below_new w _).trans (hb.mono (by simp)), by simpa using hc⟩
theorem wPutHalf_no (p : Option Addr) (n c : Nat) (at' v : Int) (w : World) (v0 : 0 ≤ v) (v1 : v < 4294967296) (hn : n ≤ 9223372036854775807) (h : ¬ (0 ≤ at' ∧ at' + 2 ≤ n)) :
    Calls Try.prog 24 #[.slice p n c, .int .i64 at', .int .u32 v] w fun e w' => e = .returned (.tuple #[.slice none 0 0, .bool false]) ∧ Below w.heap.size w w' ∧ w.heap.size ≤ w'.heap.size := by
  go_enter Try.func24, Try.ntmps24
  go_wp2_with fail
  refine (put_no p n c 2 _ at' _ hn (by decide) h).mono ?_
  rintro e w' ⟨rfl, rfl⟩
  go_wp2
  go_ret2
  exact ⟨rfl, below_new w _, by simp⟩

theorem wPutFull_yes (p : Option Addr) (n c k : Nat) (l : List Int) (v : Int) (w : World) (v0 : 0 ≤ v) (v1 : v < 4294967296) (hn : n ≤ 9223372036854775807) (hb : n ≤ 140737488355328) (hl : l.length = n) (hp : Rd w p l) (hk : k + 4 ≤ n) :
    Calls Try.prog 26 #[.slice p n c, .int .i64 k, .int .u32 v] w fun e w' => e = .returned (.tuple #[.slice (some ⟨w.heap.size + 1, 0, none⟩) n n, .bool true]) ∧ Below w.heap.size w w' ∧ w'.heap[w.heap.size + 1]? = some (.cells (bs (putL l k [v / 16777216, v / 65536 % 256, v / 256 % 256, v % 256])).toArray 5 (0, 0)) := by
  go_enter Try.func26, Try.ntmps26
  go_wp2_with fail
  refine (put_yes p n c k w.heap.size 4 l [v / 16777216, v / 65536 % 256, v / 256 % 256, v % 256] _ hn hb hl rfl (by decide) (by decide) (hp.below (below_new _ _)) (rd_new w [v / 16777216, v / 65536 % 256, v / 256 % 256, v % 256]) hk).mono ?_
  rintro e w' ⟨rfl, hb, hc⟩
  go_wp2
  go_ret2
  exact ⟨rfl, (below_new w _).trans (hb.mono (by simp)), by simpa using hc⟩
theorem wPutFull_no (p : Option Addr) (n c : Nat) (at' v : Int) (w : World) (v0 : 0 ≤ v) (v1 : v < 4294967296) (hn : n ≤ 9223372036854775807) (h : ¬ (0 ≤ at' ∧ at' + 4 ≤ n)) :
    Calls Try.prog 26 #[.slice p n c, .int .i64 at', .int .u32 v] w fun e w' => e = .returned (.tuple #[.slice none 0 0, .bool false]) ∧ Below w.heap.size w w' ∧ w.heap.size ≤ w'.heap.size := by
  go_enter Try.func26, Try.ntmps26
  go_wp2_with fail
  refine (put_no p n c 4 _ at' _ hn (by decide) h).mono ?_
  rintro e w' ⟨rfl, rfl⟩
  go_wp2
  go_ret2
  exact ⟨rfl, below_new w _, by simp⟩

theorem rfield_yes (B off n c k m : Nat) (f : Nat → Int) (w : World) (hn : n ≤ 9223372036854775807) (hc : Bytes w B off n f) (hf : IsBytes f n) (hk : k + m ≤ n) (hm : m ≤ 4) :
    Calls Try.prog 69 #[.slice (some ⟨B, off, none⟩) n c, .int .i64 k, .int .i64 m] w fun e w' => e = .returned (.tuple #[.int .u32 (jn (sh f k) m), .bool true]) ∧ w = w' := by
  have hs : ¬ (k : Int) > n := by omega
  go_enter Try.func69, Try.ntmps69
  go_wp2
  go_loop [8, 9] (fun v i => ∃ j : Nat, j ≤ m ∧ i = .int .i64 j ∧ v = .int .u32 (jn (sh f k) j)) (fun _ i => m - (intOf i).toNat)
  case atStart => exact ⟨0, Nat.zero_le _, rfl, rfl⟩
  case round =>
    obtain ⟨j, hj, rfl, rfl⟩ := hrel
    by_cases hlt : j < m
    · have hb := hf (k + j) (by omega)
      have hcell := hc (k + j) (by omega)
      have hbd := jn_bd (sh f k) j (fun i hi => hf (k + i) (by omega))
      clear hf hc hs
      go_wp2
      go_round
      case rel => exact ⟨j + 1, by omega, by go_num, rfl⟩
      case measure => simp [intOf]; omega
    · obtain rfl : j = m := by omega
      clear hc hf hs
      go_wp2
      go_ret2
      exact ⟨rfl, rfl⟩

theorem rfield_no (p : Option Addr) (n c m : Nat) (at' : Int) (w : World) (a0 : -9223372036854775808 ≤ at') (a1 : at' < 9223372036854775808) (hn : n ≤ 9223372036854775807) (hm : m ≤ 4) (h : ¬ (0 ≤ at' ∧ at' + m ≤ n)) :
    Calls Try.prog 69 #[.slice p n c, .int .i64 at', .int .i64 m] w fun e w' => e = .returned (.tuple #[.int .u32 0, .bool false]) ∧ w = w' := by
  by_cases h1 : at' < 0
  · go_enter Try.func69, Try.ntmps69
    go_wp2
    go_ret2
    exact ⟨rfl, rfl⟩
  by_cases h2 : (n : Int) < at'
  · go_enter Try.func69, Try.ntmps69
    go_wp2
    go_ret2
    exact ⟨rfl, rfl⟩
  have h3 : (n : Int) - at' < m := by omega
  go_enter Try.func69, Try.ntmps69
  go_wp2
  go_ret2
  exact ⟨rfl, rfl⟩

theorem rFull_yes (B off n c k : Nat) (f : Nat → Int) (w : World) (hn : n ≤ 9223372036854775807) (hc : Bytes w B off n f) (hf : IsBytes f n) (hk : k + 4 ≤ n) :
    Calls Try.prog 23 #[.slice (some ⟨B, off, none⟩) n c, .int .i64 k] w fun e w' => e = .returned (.tuple #[.int .u32 (jn (sh f k) 4), .bool true]) ∧ w = w' := by
  go_enter Try.func23, Try.ntmps23
  go_wp2_with fail
  refine (rfield_yes B off n c k 4 f _ hn hc hf hk (by decide)).mono ?_
  rintro e w' ⟨rfl, rfl⟩
  clear hc hf
  go_wp2
  go_ret2
  exact ⟨rfl, rfl⟩
theorem rFull_no (p : Option Addr) (n c : Nat) (at' : Int) (w : World) (a0 : -9223372036854775808 ≤ at') (a1 : at' < 9223372036854775808) (hn : n ≤ 9223372036854775807) (h : ¬ (0 ≤ at' ∧ at' + 4 ≤ n)) :
    Calls Try.prog 23 #[.slice p n c, .int .i64 at'] w fun e w' => e = .returned (.tuple #[.int .u32 0, .bool false]) ∧ w = w' := by
  go_enter Try.func23, Try.ntmps23
  go_wp2_with fail
  refine (rfield_no p n c 4 at' _ a0 a1 hn (by decide) h).mono ?_
  rintro e w' ⟨rfl, rfl⟩
  go_wp2
  go_ret2
  exact ⟨rfl, rfl⟩

theorem rHalf_yes (B off n c k : Nat) (f : Nat → Int) (w : World) (hn : n ≤ 9223372036854775807) (hc : Bytes w B off n f) (hf : IsBytes f n) (hk : k + 2 ≤ n) :
    Calls Try.prog 21 #[.slice (some ⟨B, off, none⟩) n c, .int .i64 k] w fun e w' => e = .returned (.tuple #[.int .u32 (h16 (jn (sh f k) 2)), .bool true]) ∧ w = w' := by
  have hj := jn2 (hf.sh hk)
  by_cases hs : jn (sh f k) 2 < 32768
  · rw [show h16 (jn (sh f k) 2) = jn (sh f k) 2 by unfold h16; rw [if_pos hs]]
    go_enter Try.func21, Try.ntmps21
    go_wp2_with fail
    refine (rfield_yes B off n c k 2 f _ hn hc hf hk (by decide)).mono ?_
    rintro e w' ⟨rfl, rfl⟩
    clear hc hf
    go_wp2
    go_ret2
    exact ⟨rfl, rfl⟩
  · rw [show h16 (jn (sh f k) 2) = jn (sh f k) 2 + 4294901760 by unfold h16; rw [if_neg hs]]
    go_enter Try.func21, Try.ntmps21
    go_wp2_with fail
    refine (rfield_yes B off n c k 2 f _ hn hc hf hk (by decide)).mono ?_
    rintro e w' ⟨rfl, rfl⟩
    clear hc hf
    go_wp2
    go_ret2
    exact ⟨rfl, rfl⟩
theorem rHalf_no (p : Option Addr) (n c : Nat) (at' : Int) (w : World) (a0 : -9223372036854775808 ≤ at') (a1 : at' < 9223372036854775808) (hn : n ≤ 9223372036854775807) (h : ¬ (0 ≤ at' ∧ at' + 2 ≤ n)) :
    Calls Try.prog 21 #[.slice p n c, .int .i64 at'] w fun e w' => e = .returned (.tuple #[.int .u32 0, .bool false]) ∧ w = w' := by
  go_enter Try.func21, Try.ntmps21
  go_wp2_with fail
  refine (rfield_no p n c 2 at' _ a0 a1 hn (by decide) h).mono ?_
  rintro e w' ⟨rfl, rfl⟩
  go_wp2
  go_ret2
  exact ⟨rfl, rfl⟩

end W
end Go.Proofs.Ytkbnciekhllcpaa
