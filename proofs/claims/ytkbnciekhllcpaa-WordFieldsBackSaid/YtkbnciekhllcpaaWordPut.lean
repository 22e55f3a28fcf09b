/- Contracts of the functions of the specification that put fields, and of lent and kept. -/
import Derived.Test.YtkbnciekhllcpaaRows
import Derived.WalkKit
import Derived.ProofKit
import Derived.Deep.QuietTactic
import Derived.BigQuiet
import Derived.OwnWalk
import Derived.Laws.CopyOwn
import Derived.Laws.AppendOwn
import Derived.Laws.OwnMore
import Derived.Laws.AppendOwnNone
import Derived.Deep.Draws
import Derived.Lib.Hide
import Derived.Test.YtkbnciekhllcpaaWordMem
namespace Go.Proofs.Ytkbnciekhllcpaa
open Go.RowKit
set_option linter.unusedVariables false
namespace W

/-- The byte j of the m bytes of a word. -/
def rb (v : Int) (m j : Nat) : Int := v / 2 ^ (8 * (m - 1 - j)) % 256
/-- What lies at j when the m bytes of a word were put at k. -/
def pj (f : Nat → Int) (v : Int) (k m j : Nat) : Int := if k ≤ j ∧ j < k + m then rb v m (j - k) else f j
def pl2 (f : Nat → Int) (v : Int) (k m i : Nat) : List Int := (List.range i).map (pj f v k m)
theorem pl2_succ (f : Nat → Int) (v : Int) (k m i : Nat) : bs (pl2 f v k m (i + 1)) = bs (pl2 f v k m i) ++ [.int .u8 (pj f v k m i)] := by
  simp [bs, pl2, List.range_succ]
theorem cellNew (w : World) (v : Value) (t : TypeId) : ∀ j u, [v][j]? = some u → (w.alloc (.cells #[v] t)).cell? ((⟨w.heap.size, 0, none⟩ : Addr).add j) = some u := by
  intro j u h
  match j, h with
  | 0, h => simp at h; subst h; rw [addNone]; simp [go_sem]
/-- What the specification's put leaves. -/
def PutPost (w : World) (f : Nat → Int) (v : Int) (k m n : Nat) (e : Ending) (w' : World) : Prop :=
  ∃ sv, e = .returned (.tuple #[sv, .bool true]) ∧ w'.ownsRow w.heap.size 5 1 sv n (bs (pl2 f v k m n)) ∧ Below w.heap.size w w'
set_option maxRecDepth 100000 in
theorem rput_yes (B off n c k m : Nat) (f : Nat → Int) (v : Int) (w : World) (v0 : 0 ≤ v) (v1 : v < 4294967296) (hn : n ≤ 9223372036854775807) (hb : n ≤ 140737488355328) (hlb : IsBytes f n) (hc : Bytes w B off n f) (hk : k + m ≤ n) (hm : m ≤ 4) (hm0 : 0 < m) :
    Calls Try.prog 71 #[.slice (some ⟨B, off, none⟩) n c, .int .i64 k, .int .i64 m, .int .u32 v] w (PutPost w f v k m n) := by
  obtain ⟨i0, hi, hz0, hz1, hz2⟩ := info_parts info5
  have hbl : B < w.heap.size := World.block_lt_of_cell? w _ (hc 0 (by omega))
  go_enter Try.func71, Try.ntmps71
  go_wp2_with fail
  refine (rfield_yes B off n c k m _ _ hn hc hlb hk hm).mono ?_
  rintro e w' ⟨rfl, rfl⟩
  go_wp2
  go_loopw [12, 13] (fun sv i wr => Below w.heap.size w wr ∧ ∃ j : Nat, j ≤ n ∧ i = .int .i64 j ∧ wr.ownsRow w.heap.size 5 1 sv j (bs (pl2 f v k m j))) (fun _ i _ => n - (intOf i).toNat)
  case atStart => exact ⟨Below.refl _ _, 0, Nat.zero_le _, rfl, ⟨rfl, .inl ⟨rfl, rfl⟩⟩⟩
  case round =>
    obtain ⟨hbw, i, hi', rfl, hown⟩ := hrel
    by_cases hlt : i < n
    · have hcell : wr.cell? ⟨B, off + i, none⟩ = some (.int .u8 (f i)) := by rw [hbw.cell hbl]; exact hc i hlt
      have hs := pl2_succ f v k m i
      have HS := Lib.hid hs; clear hs
      have hls := hlb i hlt
      by_cases hki : i < k
      · have hp : pj f v k m i = f i := by unfold pj; rw [if_neg (by omega)]
        have HP := Lib.hid hp; clear hp
        clear hc hlb
        go_wp2_with (at_builtin; refine wpList_append_own _ rfl (.tmp 53) (.tmp 58) 22 rfl (w.heap.size) 5 i0 (.int .u8 0) 1 1 Try.underlying22 hi hz0 hz1 hz2 rfl (by decide) _ (i) _ rfl (hown.alloc _) ⟨wr.heap.size, 0, none⟩ 1 1 [.int .u8 (f i)] rfl rfl ?c1 ?c2 ?c3 ?c4 ?c5 ?_)
        case c1 => exact cellNew _ _ _
        case c2 => intro u hu; simp at hu; subst hu; rfl
        case c3 => unfold maxLen; omega
        case c4 => omega
        case c5 => have := hbw.size; simp; omega
        intro v' w1 hown' hgrow _
        have hb1 := (hbw.alloc hbw.size _).grown hgrow (by have := hbw.size; simp; omega) (fun r hr => (hown.lt r hr).1)
        clear hgrow hown hbw
        go_wp2
        go_roundw
        case rel => exact ⟨hb1, i + 1, by omega, by go_num, by rw [HS.out, HP.out]; exact hown'⟩
        case measure => simp [intOf]; omega
      · by_cases hkm : i < k + m
        · obtain ⟨j, rfl⟩ : ∃ j, i = k + j := ⟨i - k, by omega⟩
          have hp : pj f v k m (k + j) = v / 2 ^ (8 * (m - 1 - j)) % 256 := by unfold pj rb; rw [if_pos (by omega), show k + j - k = j by omega]
          have HP := Lib.hid hp; clear hp
          clear hc hlb hcell
          go_wp2_with (at_builtin; refine wpList_append_own _ rfl (.tmp 39) (.tmp 51) 22 rfl (w.heap.size) 5 i0 (.int .u8 0) 1 1 Try.underlying22 hi hz0 hz1 hz2 rfl (by decide) _ (k + j) _ rfl (hown.alloc _) ⟨wr.heap.size, 0, none⟩ 1 1 [.int .u8 (v / 2 ^ (8 * (m - 1 - j)) % 256)] rfl rfl ?c1 ?c2 ?c3 ?c4 ?c5 ?_)
          case c1 => exact cellNew _ _ _
          case c2 => intro u hu; simp at hu; subst hu; rfl
          case c3 => unfold maxLen; omega
          case c4 => omega
          case c5 => have := hbw.size; simp; omega
          intro v' w1 hown' hgrow _
          have hb1 := (hbw.alloc hbw.size _).grown hgrow (by have := hbw.size; simp; omega) (fun r hr => (hown.lt r hr).1)
          clear hgrow hown hbw
          go_wp2
          go_roundw
          case rel => exact ⟨hb1, k + j + 1, by omega, by go_num, by rw [HS.out, HP.out]; exact hown'⟩
          case measure => simp [intOf]; omega
        · have hp : pj f v k m i = f i := by unfold pj; rw [if_neg (by omega)]
          have HP := Lib.hid hp; clear hp
          clear hc hlb
          go_wp2_with (at_builtin; refine wpList_append_own _ rfl (.tmp 53) (.tmp 58) 22 rfl (w.heap.size) 5 i0 (.int .u8 0) 1 1 Try.underlying22 hi hz0 hz1 hz2 rfl (by decide) _ (i) _ rfl (hown.alloc _) ⟨wr.heap.size, 0, none⟩ 1 1 [.int .u8 (f i)] rfl rfl ?c1 ?c2 ?c3 ?c4 ?c5 ?_)
          case c1 => exact cellNew _ _ _
          case c2 => intro u hu; simp at hu; subst hu; rfl
          case c3 => unfold maxLen; omega
          case c4 => omega
          case c5 => have := hbw.size; simp; omega
          intro v' w1 hown' hgrow _
          have hb1 := (hbw.alloc hbw.size _).grown hgrow (by have := hbw.size; simp; omega) (fun r hr => (hown.lt r hr).1)
          clear hgrow hown hbw
          go_wp2
          go_roundw
          case rel => exact ⟨hb1, i + 1, by omega, by go_num, by rw [HS.out, HP.out]; exact hown'⟩
          case measure => simp [intOf]; omega
    · obtain rfl : i = n := by omega
      clear hc hlb
      go_wp2
      go_ret2
      exact ⟨_, rfl, hown, hbw⟩

theorem rput_no (p : Option Addr) (n c m : Nat) (at' v : Int) (w : World) (a0 : -9223372036854775808 ≤ at') (a1 : at' < 9223372036854775808) (hn : n ≤ 9223372036854775807) (hm : m ≤ 4) (h : ¬ (0 ≤ at' ∧ at' + m ≤ n)) :
    Calls Try.prog 71 #[.slice p n c, .int .i64 at', .int .i64 m, .int .u32 v] w fun e w' => e = .returned (.tuple #[.slice none 0 0, .bool false]) ∧ w = w' := by
  go_enter Try.func71, Try.ntmps71
  go_wp2_with fail
  refine (rfield_no p n c m at' _ a0 a1 hn hm h).mono ?_
  rintro e w' ⟨rfl, rfl⟩
  go_wp2
  go_ret2
  exact ⟨rfl, rfl⟩

theorem rPutHalf_yes (B off n c k : Nat) (f : Nat → Int) (v : Int) (w : World) (v0 : 0 ≤ v) (v1 : v < 4294967296) (hn : n ≤ 9223372036854775807) (hb : n ≤ 140737488355328) (hlb : IsBytes f n) (hc : Bytes w B off n f) (hk : k + 2 ≤ n) :
    Calls Try.prog 25 #[.slice (some ⟨B, off, none⟩) n c, .int .i64 k, .int .u32 v] w (PutPost w f v k 2 n) := by
  go_enter Try.func25, Try.ntmps25
  go_wp2_with fail
  refine (rput_yes B off n c k 2 f v _ v0 v1 hn hb hlb hc hk (by decide) (by decide)).mono ?_
  rintro e w' ⟨sv, rfl, ho, hbw⟩
  clear hlb hc
  go_wp2
  go_ret2
  exact ⟨sv, rfl, ho, hbw⟩
theorem rPutHalf_no (p : Option Addr) (n c : Nat) (at' v : Int) (w : World) (a0 : -9223372036854775808 ≤ at') (a1 : at' < 9223372036854775808) (hn : n ≤ 9223372036854775807) (h : ¬ (0 ≤ at' ∧ at' + 2 ≤ n)) :
    Calls Try.prog 25 #[.slice p n c, .int .i64 at', .int .u32 v] w fun e w' => e = .returned (.tuple #[.slice none 0 0, .bool false]) ∧ w = w' := by
  go_enter Try.func25, Try.ntmps25
  go_wp2_with fail
  refine (rput_no p n c 2 at' v _ a0 a1 hn (by decide) h).mono ?_
  rintro e w' ⟨rfl, rfl⟩
  go_wp2
  go_ret2
  exact ⟨rfl, rfl⟩

theorem rPutFull_yes (B off n c k : Nat) (f : Nat → Int) (v : Int) (w : World) (v0 : 0 ≤ v) (v1 : v < 4294967296) (hn : n ≤ 9223372036854775807) (hb : n ≤ 140737488355328) (hlb : IsBytes f n) (hc : Bytes w B off n f) (hk : k + 4 ≤ n) :
    Calls Try.prog 27 #[.slice (some ⟨B, off, none⟩) n c, .int .i64 k, .int .u32 v] w (PutPost w f v k 4 n) := by
  go_enter Try.func27, Try.ntmps27
  go_wp2_with fail
  refine (rput_yes B off n c k 4 f v _ v0 v1 hn hb hlb hc hk (by decide) (by decide)).mono ?_
  rintro e w' ⟨sv, rfl, ho, hbw⟩
  clear hlb hc
  go_wp2
  go_ret2
  exact ⟨sv, rfl, ho, hbw⟩
theorem rPutFull_no (p : Option Addr) (n c : Nat) (at' v : Int) (w : World) (a0 : -9223372036854775808 ≤ at') (a1 : at' < 9223372036854775808) (hn : n ≤ 9223372036854775807) (h : ¬ (0 ≤ at' ∧ at' + 4 ≤ n)) :
    Calls Try.prog 27 #[.slice p n c, .int .i64 at', .int .u32 v] w fun e w' => e = .returned (.tuple #[.slice none 0 0, .bool false]) ∧ w = w' := by
  go_enter Try.func27, Try.ntmps27
  go_wp2_with fail
  refine (rput_no p n c 4 at' v _ a0 a1 hn (by decide) h).mono ?_
  rintro e w' ⟨rfl, rfl⟩
  go_wp2
  go_ret2
  exact ⟨rfl, rfl⟩

/-- What lent leaves: a row of its own with the bytes and eight 7s. -/
def LentPost (w : World) (l : List Int) (e : Ending) (w' : World) : Prop :=
  ∃ sv, e = .returned sv ∧ w'.ownsRow w.heap.size 5 1 sv (l.length + 8) (bs (l ++ List.replicate 8 7)) ∧ Below w.heap.size w w'
theorem ownsEmpty (w : World) : (w.alloc (.cells #[] 5)).ownsRow w.heap.size 5 1 (.slice (some ⟨w.heap.size, 0, none⟩) 0 0) 0 [] :=
  ⟨rfl, .inr ⟨w.heap.size, 0, #[], rfl, Nat.le_refl _, by show (w.heap.push _)[w.heap.size]? = _; simp, Nat.le_refl _, by unfold maxLen; omega, rfl, rfl⟩⟩
theorem lent_nil (w : World) : Calls Try.prog 19 #[.slice none 0 0] w (LentPost w []) := by
  obtain ⟨i0, hi, hz0, hz1, hz2⟩ := info_parts info5
  obtain ⟨l, hl⟩ : ∃ l : List Int, l = [] := ⟨[], rfl⟩
  have hn : l.length ≤ 4096 := by subst hl; decide
  have hown0 : (w.alloc (.cells #[] 5)).ownsRow w.heap.size 5 1 (.slice (some ⟨w.heap.size, 0, none⟩) 0 0) l.length (bs l) := by subst hl; exact ownsEmpty w
  rw [← hl]
  have hb0 : Below w.heap.size w (w.alloc (.cells #[] 5)) := below_new w _
  have HL := Lib.hid hl; clear hl
  go_enter Try.func19, Try.ntmps19
  go_wp2_with (at_builtin; refine wpList_append_own_none rfl (.tmp 5) (.tmp 6) 22 rfl w.heap.size 5 i0 1 Try.underlying22 hi _ 0 [] rfl (ownsEmpty w) rfl ?_)

  go_loopw [3, 4] (fun sv i wr => Below w.heap.size w wr ∧ ∃ k : Nat, k ≤ 8 ∧ i = .int .i64 k ∧ wr.ownsRow w.heap.size 5 1 sv (l.length + k) (bs (l ++ List.replicate k 7))) (fun _ i _ => 8 - (intOf i).toNat)
  case atStart => exact ⟨hb0, 0, Nat.zero_le _, rfl, by simpa using hown0⟩
  case round =>
    clear hb0 hown0
    obtain ⟨hbw, k, hk, rfl, hown⟩ := hrel
    by_cases hlt : k < 8
    · have hs : bs (l ++ List.replicate (k + 1) 7) = bs (l ++ List.replicate k 7) ++ [.int .u8 7] := by simp [bs, List.replicate_succ']
      have HS := Lib.hid hs; clear hs
      go_wp2_with (at_builtin; refine wpList_append_own _ rfl (.tmp 12) (.tmp 13) 22 rfl (w.heap.size) 5 i0 (.int .u8 0) 1 1 Try.underlying22 hi hz0 hz1 hz2 rfl (by decide) _ (l.length + k) _ rfl (hown.alloc _) ⟨wr.heap.size, 0, none⟩ 1 1 [.int .u8 (7)] rfl rfl ?d1 ?d2 ?d3 ?d4 ?d5 ?_)
      case d1 => exact cellNew _ _ _
      case d2 => intro u hu; simp at hu; subst hu; rfl
      case d3 => unfold maxLen; omega
      case d4 => omega
      case d5 => have := hbw.size; simp; omega
      intro v' w1 hown' hgrow _
      have hb1 := (hbw.alloc hbw.size _).grown hgrow (by have := hbw.size; simp; omega) (fun r hr => (hown.lt r hr).1)
      clear hgrow hown hbw
      go_wp2
      go_roundw
      case rel => exact ⟨hb1, k + 1, by omega, by go_num, by rw [HS.out]; exact hown'⟩
      case measure => simp [intOf]; omega
    · obtain rfl : k = 8 := by omega
      go_wp2
      go_ret
      exact ⟨_, rfl, hown, hbw⟩

theorem lent_some (ad : Addr) (c : Nat) (l : List Int) (w : World) (hn : l.length ≤ 4096) (hsrc : ∀ j u, (bs l)[j]? = some u → (w.alloc (.cells #[] 5)).cell? (ad.add j) = some u) :
    Calls Try.prog 19 #[.slice (some ad) l.length c] w (LentPost w l) := by
  obtain ⟨i0, hi, hz0, hz1, hz2⟩ := info_parts info5
  have hone := bs_one l
  have hlen : (bs l).length = l.length * 1 := by rw [bs_len, Nat.mul_one]
  have H1 := Lib.hid hsrc; clear hsrc
  have H2 := Lib.hid hone; clear hone
  have H3 := Lib.hid hlen; clear hlen
  go_enter Try.func19, Try.ntmps19
  go_wp2_with (at_builtin; refine wpList_append_own _ rfl (.tmp 5) (.tmp 6) 22 rfl w.heap.size 5 i0 (.int .u8 0) 1 1 Try.underlying22 hi hz0 hz1 hz2 rfl (by decide) _ 0 [] rfl (ownsEmpty w) ad l.length c (bs l) rfl H3.out H1.out H2.out ?e3 ?e4 ?e5 ?_)
  case e3 => unfold maxLen; omega
  case e4 => omega
  case e5 => simp
  intro sv0 w0 hown0 hgrow _
  have hb0 : Below w.heap.size w w0 := (below_new w _).grown hgrow (by simp) (fun r hr => ((ownsEmpty w).lt r hr).1)
  clear hgrow
  go_wp2

  go_loopw [3, 4] (fun sv i wr => Below w.heap.size w wr ∧ ∃ k : Nat, k ≤ 8 ∧ i = .int .i64 k ∧ wr.ownsRow w.heap.size 5 1 sv (l.length + k) (bs (l ++ List.replicate k 7))) (fun _ i _ => 8 - (intOf i).toNat)
  case atStart => exact ⟨hb0, 0, Nat.zero_le _, rfl, by simpa using hown0⟩
  case round =>
    clear hb0 hown0
    obtain ⟨hbw, k, hk, rfl, hown⟩ := hrel
    by_cases hlt : k < 8
    · have hs : bs (l ++ List.replicate (k + 1) 7) = bs (l ++ List.replicate k 7) ++ [.int .u8 7] := by simp [bs, List.replicate_succ']
      have HS := Lib.hid hs; clear hs
      go_wp2_with (at_builtin; refine wpList_append_own _ rfl (.tmp 12) (.tmp 13) 22 rfl (w.heap.size) 5 i0 (.int .u8 0) 1 1 Try.underlying22 hi hz0 hz1 hz2 rfl (by decide) _ (l.length + k) _ rfl (hown.alloc _) ⟨wr.heap.size, 0, none⟩ 1 1 [.int .u8 (7)] rfl rfl ?d1 ?d2 ?d3 ?d4 ?d5 ?_)
      case d1 => exact cellNew _ _ _
      case d2 => intro u hu; simp at hu; subst hu; rfl
      case d3 => unfold maxLen; omega
      case d4 => omega
      case d5 => have := hbw.size; simp; omega
      intro v' w1 hown' hgrow _
      have hb1 := (hbw.alloc hbw.size _).grown hgrow (by have := hbw.size; simp; omega) (fun r hr => (hown.lt r hr).1)
      clear hgrow hown hbw
      go_wp2
      go_roundw
      case rel => exact ⟨hb1, k + 1, by omega, by go_num, by rw [HS.out]; exact hown'⟩
      case measure => simp [intOf]; omega
    · obtain rfl : k = 8 := by omega
      go_wp2
      go_ret
      exact ⟨_, rfl, hown, hbw⟩


theorem kept_true (g c c2 : Nat) (p : Option Addr) (l : List Int) (w : World) (hn : l.length ≤ 4096) (hc8 : l.length + 8 ≤ c) (hall : ∀ j, j < l.length + 8 → w.cell? ⟨g, j, none⟩ = some (.int .u8 ((l ++ List.replicate 8 7).getD j 0))) (hp : Rd w p l) :
    Calls Try.prog 29 #[.slice (some ⟨g, 0, none⟩) (l.length + 8) c, .slice p l.length c2] w fun e w' => e = .returned (.bool true) ∧ ∃ m, w' = w.drewN m := by
  have hrd : Rd w (some ⟨g, 0, none⟩) l := .inr ⟨_, _, rfl, fun j hj => by
    rw [Nat.zero_add, hall j (by omega)]
    simp [List.getD_eq_getElem?_getD, List.getElem?_append_left hj]⟩
  have h7 : ∀ j, l.length ≤ j → j < l.length + 8 → w.cell? ⟨g, j, none⟩ = some (.int .u8 7) := fun j h1 h2 => by
    rw [hall j h2]
    simp only [List.getD_eq_getElem?_getD]
    rw [List.getElem?_append_right h1, List.getElem?_replicate_of_lt (by omega)]; rfl
  clear hall
  have H := Lib.hid (fun (W : World) (h1 : Rd W (some ⟨g, 0, none⟩) l) (h2 : Rd W p l) => same_true (some ⟨g, 0, none⟩) p c c2 l W (by omega) h1 h2)
  have HR := Lib.hid hrd
  have HP := Lib.hid hp
  clear hrd hp
  generalize hN : l.length = N at *
  have HN := Lib.hid hN; clear hN
  go_enter Try.func29, Try.ntmps29
  go_wp2
  go_loop [5] (fun i => ∃ k : Nat, N ≤ k ∧ k ≤ N + 8 ∧ i = .int .i64 k) (fun i => N + 8 - (intOf i).toNat)
  case atStart => exact ⟨N, Nat.le_refl _, by omega, rfl⟩
  case round =>
    obtain ⟨k, hk1, hk, rfl⟩ := hrel
    by_cases hlt : k < N + 8
    · have hcell := h7 k hk1 hlt
      clear h7
      go_wp2
      go_round
      case rel => exact ⟨k + 1, by omega, by omega, by go_num⟩
      case measure => simp [intOf]; omega
    · obtain rfl : k = N + 8 := by omega
      clear h7
      go_wp2_with fail

      refine (H.out _ HR.out HP.out).mono ?_
      rintro e w' ⟨rfl, m, rfl⟩
      go_wp2
      go_ret
      exact ⟨rfl, m, rfl⟩

end W
end Go.Proofs.Ytkbnciekhllcpaa
