/- The statement WordFields: all cases together. -/
import Derived.Test.YtkbnciekhllcpaaRows
import Derived.WalkKit
import Derived.ProofKit
import Derived.Deep.QuietTactic
import Derived.BigQuiet
import Derived.OwnWalk
import Derived.Laws.CopyOwn
import Derived.Laws.AppendOwn
import Derived.Laws.OwnMore
import Derived.Laws.AppendOwnNone
import Derived.Deep.Draws
import Derived.Lib.Hide
import Derived.Test.YtkbnciekhllcpaaFields2
namespace Go.Proofs.Ytkbnciekhllcpaa
open Go.RowKit
set_option linter.unusedVariables false
namespace W

theorem fields_long (p : Option Addr) (n c : Nat) (at' v : Int) (w : World) (hn : 4096 < n) (hm : n ≤ 9223372036854775807) :
    Calls Try.prog 3 #[.slice p n c, .int .i64 at', .int .u32 v] w fun e w' => e = .returned (.bool true) ∧ Below w.heap.size w w' := by
  go_enter Try.func3, Try.ntmps3
  go_wp2_with fail
  refine (works_any _).mono ?_
  rintro e w1 ⟨rfl, _, hb1⟩
  have HB := Lib.hid hb1; clear hb1
  go_wp2
  go_ret
  exact ⟨rfl, HB.out⟩
theorem src_some {w : World} {p : Option Addr} {c : Nat} {l : List Int} (h : Src w p c l) (hl : 0 < l.length) : ∃ B off, p = some ⟨B, off, none⟩ ∧ Bytes w B off l.length (fun j => l.getD j 0) := by
  rcases h with ⟨h, _⟩ | h
  · subst h; simp at hl
  · exact h
theorem isB_put {l fs : List Int} (k : Nat) (h : IsB l) (hf : IsB fs) : IsB (putL l k fs) := fun x hx => by
  unfold putL at hx
  simp only [List.mem_append] at hx
  rcases hx with hx | hx | hx
  · exact h x (List.mem_of_mem_take hx)
  · exact hf x hx
  · exact h x (List.mem_of_mem_drop hx)
theorem isB2 {v : Int} (v0 : 0 ≤ v) : IsB [v / 256 % 256, v % 256] := fun x hx => by
  simp only [List.mem_cons, List.not_mem_nil, or_false] at hx
  rcases hx with rfl | rfl <;> omega
theorem isB4 {v : Int} (v0 : 0 ≤ v) (v1 : v < 4294967296) : IsB [v / 16777216, v / 65536 % 256, v / 256 % 256, v % 256] := fun x hx => by
  simp only [List.mem_cons, List.not_mem_nil, or_false] at hx
  rcases hx with rfl | rfl | rfl | rfl <;> omega
theorem eq2 (l : List Int) (v : Int) (k : Nat) (hk : k + 2 ≤ l.length) : pl2 (fun j => l.getD j 0) v k 2 l.length = putL l k [v / 256 % 256, v % 256] :=
  putEq l v k 2 _ _ rfl hk rfl (fun j hj => by
    match j, hj with
    | 0, _ => show v / 256 % 256 = v / 2 ^ 8 % 256; rfl
    | 1, _ => show v % 256 = v / 2 ^ 0 % 256; rw [Int.pow_zero, Int.ediv_one])
theorem eq4 (l : List Int) (v : Int) (k : Nat) (v0 : 0 ≤ v) (v1 : v < 4294967296) (hk : k + 4 ≤ l.length) : pl2 (fun j => l.getD j 0) v k 4 l.length = putL l k [v / 16777216, v / 65536 % 256, v / 256 % 256, v % 256] :=
  putEq l v k 4 _ _ rfl hk rfl (fun j hj => by
    match j, hj with
    | 0, _ => show v / 16777216 = v / 2 ^ 24 % 256; rw [show (2 : Int) ^ 24 = 16777216 by decide]; omega
    | 1, _ => show v / 65536 % 256 = v / 2 ^ 16 % 256; rfl
    | 2, _ => show v / 256 % 256 = v / 2 ^ 8 % 256; rfl
    | 3, _ => show v % 256 = v / 2 ^ 0 % 256; rw [Int.pow_zero, Int.ediv_one])

theorem putHalf_w (g cap k : Nat) (l : List Int) (v : Int) (W : World) (hn : l.length ≤ 4096) (v0 : 0 ≤ v) (v1 : v < 4294967296) (hb : Bytes W g 0 l.length (fun j => l.getD j 0)) (hk : k + 2 ≤ l.length) :
    Calls Try.prog 24 #[.slice (some ⟨g, 0, none⟩) l.length cap, .int .i64 k, .int .u32 v] W (Put1 W l.length (putL l k [v / 256 % 256, v % 256])) := by
  refine (wPutHalf_yes (some ⟨g, 0, none⟩) l.length cap k l v W v0 v1 (by omega) (by omega) rfl (.inr ⟨g, 0, rfl, hb⟩) hk).mono ?_
  rintro e w' ⟨he, hbw, hh⟩
  exact ⟨_, _, he, by omega, hbw, ownOf _ _ _ _ _ (putL_len (by show k + 2 ≤ _; omega)) (by omega) (by omega) hh⟩
theorem putHalf_r (p : Option Addr) (c k : Nat) (l : List Int) (v : Int) (W : World) (hn : l.length ≤ 4096) (hlb : IsB l) (v0 : 0 ≤ v) (v1 : v < 4294967296) (hs : Src W p c l) (hk : k + 2 ≤ l.length) :
    Calls Try.prog 25 #[.slice p l.length c, .int .i64 k, .int .u32 v] W (Put1 W l.length (putL l k [v / 256 % 256, v % 256])) := by
  obtain ⟨B, off, rfl, hc⟩ := src_some hs (by omega)
  exact (rPutHalf_yes B off l.length c k (fun j => l.getD j 0) v W v0 v1 (by omega) (by omega) (fun j hj => hlb.at j) hc hk).mono fun e w' h => Put1.ofRef h (by omega) (eq2 l v k hk)

theorem putFull_w (g cap k : Nat) (l : List Int) (v : Int) (W : World) (hn : l.length ≤ 4096) (v0 : 0 ≤ v) (v1 : v < 4294967296) (hb : Bytes W g 0 l.length (fun j => l.getD j 0)) (hk : k + 4 ≤ l.length) :
    Calls Try.prog 26 #[.slice (some ⟨g, 0, none⟩) l.length cap, .int .i64 k, .int .u32 v] W (Put1 W l.length (putL l k [v / 16777216, v / 65536 % 256, v / 256 % 256, v % 256])) := by
  refine (wPutFull_yes (some ⟨g, 0, none⟩) l.length cap k l v W v0 v1 (by omega) (by omega) rfl (.inr ⟨g, 0, rfl, hb⟩) hk).mono ?_
  rintro e w' ⟨he, hbw, hh⟩
  exact ⟨_, _, he, by omega, hbw, ownOf _ _ _ _ _ (putL_len (by show k + 4 ≤ _; omega)) (by omega) (by omega) hh⟩
theorem putFull_r (p : Option Addr) (c k : Nat) (l : List Int) (v : Int) (W : World) (hn : l.length ≤ 4096) (hlb : IsB l) (v0 : 0 ≤ v) (v1 : v < 4294967296) (hs : Src W p c l) (hk : k + 4 ≤ l.length) :
    Calls Try.prog 27 #[.slice p l.length c, .int .i64 k, .int .u32 v] W (Put1 W l.length (putL l k [v / 16777216, v / 65536 % 256, v / 256 % 256, v % 256])) := by
  obtain ⟨B, off, rfl, hc⟩ := src_some hs (by omega)
  exact (rPutFull_yes B off l.length c k (fun j => l.getD j 0) v W v0 v1 (by omega) (by omega) (fun j hj => hlb.at j) hc hk).mono fun e w' h => Put1.ofRef h (by omega) (eq4 l v k v0 v1 hk)

theorem read_w {w W : World} {p : Option Addr} {c g : Nat} {l : List Int} (h : St w p c l g W) : Bytes W g 0 l.length (fun j => l.getD j 0) := bytesPart h.2.2.2
theorem fields_all (p : Option Addr) (n c : Nat) (l : List Int) (at' v : Int) (w : World) (hl : l.length = n) (hm : n ≤ 9223372036854775807) (hlb : IsB l) (hs : Src w p c l) (a0 : -9223372036854775808 ≤ at') (a1 : at' < 9223372036854775808) (v0 : 0 ≤ v) (v1 : v < 4294967296) :
    Calls Try.prog 3 #[.slice p n c, .int .i64 at', .int .u32 v] w fun e w' => e = .returned (.bool true) ∧ Below w.heap.size w w' := by
  by_cases hn : 4096 < n
  · exact fields_long p n c at' v w hn hm
  subst hl
  have hn' : l.length ≤ 4096 := by omega
  by_cases h2 : 0 ≤ at' ∧ at' + 2 ≤ l.length
  · obtain ⟨k, rfl⟩ := Int.eq_ofNat_of_zero_le h2.1
    have hk2 : k + 2 ≤ l.length := by omega
    have fb : IsBytes (fun j => l.getD j 0) l.length := fun j _ => hlb.at j
    have HWH := Lib.hid (fun W g cap (h : St w p c l g W) (hc : l.length + 8 ≤ cap) => wHalf_yes g 0 l.length cap k (fun j => l.getD j 0) W (by omega) (by omega) (read_w h) fb hk2)
    have HRH := Lib.hid (fun W g (h : St w p c l g W) => (by
      obtain ⟨B, off, hp, hc⟩ := src_some h.2.1 (by omega)
      subst hp
      exact rHalf_yes B off l.length c k (fun j => l.getD j 0) W (by omega) hc fb hk2 : Calls Try.prog 21 #[.slice p l.length c, .int .i64 k] W fun e w' => e = .returned (.tuple #[.int .u32 (h16 (jn (sh (fun j => l.getD j 0) k) 2)), .bool true]) ∧ W = w'))
    have HWPH := Lib.hid (fun W g cap (h : St w p c l g W) (_ : l.length + 8 ≤ cap) => putHalf_w g cap k l v W hn' v0 v1 (read_w h) hk2)
    have HRPH := Lib.hid (fun W g (h : St w p c l g W) => putHalf_r p c k l v W hn' hlb v0 v1 h.2.1 hk2)
    by_cases h4 : k + 4 ≤ l.length
    · have HWF := Lib.hid (fun W g cap (h : St w p c l g W) (hc : l.length + 8 ≤ cap) => wFull_yes g 0 l.length cap k (fun j => l.getD j 0) W (by omega) (by omega) (read_w h) fb h4)
      have HRF := Lib.hid (fun W g (h : St w p c l g W) => (by
        obtain ⟨B, off, hp, hc⟩ := src_some h.2.1 (by omega)
        subst hp
        exact rFull_yes B off l.length c k (fun j => l.getD j 0) W (by omega) hc fb h4 : Calls Try.prog 23 #[.slice p l.length c, .int .i64 k] W fun e w' => e = .returned (.tuple #[.int .u32 (jn (sh (fun j => l.getD j 0) k) 4), .bool true]) ∧ W = w'))
      have HWPF := Lib.hid (fun W g cap (h : St w p c l g W) (_ : l.length + 8 ≤ cap) => putFull_w g cap k l v W hn' v0 v1 (read_w h) h4)
      have HRPF := Lib.hid (fun W g (h : St w p c l g W) => putFull_r p c k l v W hn' hlb v0 v1 h.2.1 h4)
      exact fields_both p c l (putL l k [v / 256 % 256, v % 256]) (putL l k [v / 16777216, v / 65536 % 256, v / 256 % 256, v % 256]) k v _ _ w hn' hs (putL_len (by show k + 2 ≤ _; omega)) (isB_put k hlb (isB2 v0)) (putL_len (by show k + 4 ≤ _; omega)) (isB_put k hlb (isB4 v0 v1)) HWH HRH HWF HRF HWPH HRPH HWPF HRPF
    · have h4' : ¬ (0 ≤ (k : Int) ∧ (k : Int) + 4 ≤ l.length) := by omega
      have HWF := Lib.hid (fun W g cap (_ : St w p c l g W) (_ : l.length + 8 ≤ cap) => wFull_no (some ⟨g, 0, none⟩) l.length cap k W (by omega) h4')
      have HRF := Lib.hid (fun W g (_ : St w p c l g W) => rFull_no p l.length c k W (by omega) (by omega) (by omega) h4')
      have HWPF := Lib.hid (fun W g cap (_ : St w p c l g W) (_ : l.length + 8 ≤ cap) => (wPutFull_no (some ⟨g, 0, none⟩) l.length cap k v W v0 v1 (by omega) h4').mono fun e w' h => (⟨h.1, h.2.1⟩ : e = .returned (.tuple #[.slice none 0 0, .bool false]) ∧ Below W.heap.size W w'))
      have HRPF := Lib.hid (fun W g (_ : St w p c l g W) => rPutFull_no p l.length c k v W (by omega) (by omega) (by omega) h4')
      exact fields_half p c l (putL l k [v / 256 % 256, v % 256]) (putL l k [v / 256 % 256, v % 256]) k v _ 0 w hn' hs (putL_len (by show k + 2 ≤ _; omega)) (isB_put k hlb (isB2 v0)) (putL_len (by show k + 2 ≤ _; omega)) (isB_put k hlb (isB2 v0)) HWH HRH HWF HRF HWPH HRPH HWPF HRPF
  · exact fields_none p c l at' v w hn' hs a0 a1 v0 v1 h2

end W
end Go.Proofs.Ytkbnciekhllcpaa
