/- The contract of bytes.Repeat of one byte. -/
import Derived.Test.YtlpekknhaaddcaaDoorRows
import Derived.WalkKit
import Derived.ProofKit
import Derived.Lib.Hide
import Derived.Deep.Cut
import Derived.Deep.DeepMust
import Derived.Deep.QuietTactic
import Derived.BigQuiet
import Derived.OwnWalk
import Derived.Laws.CopyOwn
import Derived.Laws.AppendOwn
import Derived.Laws.OwnMore
import Derived.Laws.AppendOwnNone
import Derived.Deep.Draws
import Derived.Laws.IdiomStrings
import Derived.Below
import Derived.Laws.MathBits
import Derived.Deep.RegionLaw
import Derived.Lib.MakeNoZero
import Derived.Test.YtlpekknhaaddcaaDoorPkDig
namespace Go.Proofs.YtlpekknhaaddcaaDoor
open Go.RowKit
set_option linter.unusedVariables false
namespace E

theorem mul64_one (c : Nat) (hc : c < 4294967296) (w : World) :
    Calls Tryd.prog 69 #[.int .u64 1, .int .u64 (c : Int)] w fun e w' => e = .returned (.tuple #[.int .u64 0, .int .u64 (c : Int)]) ∧ w = w' := by
  have h1 : (c : Int) % 4294967296 = c := Int.emod_eq_of_lt (by omega) (by omega)
  have a0 : bits .and .u64 0 4294967295 = 0 := by decide +kernel
  have a1 : bits .and .u64 1 4294967295 = 1 := by decide +kernel
  have a2 : bits .and .u64 (c : Int) 4294967295 = c := by rw [and_low32 _ (by omega) (by omega)]; exact h1
  have h2 : (c : Int) / 4294967296 = 0 := Int.ediv_eq_zero_of_lt (by omega) (by omega)
  go_enter Tryd.func69, Tryd.ntmps69
  go_wp2
  go_ret2
  exact ⟨rfl, rfl⟩
theorem mul_one' (c : Nat) (hc : c < 4294967296) (w : World) :
    Calls Tryd.prog 87 #[.int .u64 1, .int .u64 (c : Int)] w fun e w' => e = .returned (.tuple #[.int .u64 0, .int .u64 (c : Int)]) ∧ w = w' := by
  go_enter Tryd.func87, Tryd.ntmps87
  go_wp2_with fail
  refine (mul64_one c hc _).mono ?_
  rintro e w' ⟨rfl, rfl⟩
  go_wp2
  go_ret2
  exact ⟨rfl, rfl⟩

theorem heap_cell {w : World} {h : Nat} {cur : List Value} {t : TypeId} {fr : Nat × Nat} (hh : w.heap[h]? = some (.cells cur.toArray t fr)) (j : Nat) : w.cell? ⟨h, j, none⟩ = cur[j]? := by
  simp [World.cell?, hh]
theorem src_one {w w' : World} {B : Nat} {x : UInt8} (hb : Below w.heap.size w w') (hB : B < w.heap.size) (hx : w.cell? ⟨B, 0, none⟩ = some (.int .u8 (x.toNat : Int))) : ∀ j v, (bsU [x])[j]? = some v → w'.cell? ((⟨B, 0, none⟩ : Addr).add j) = some v := by
  intro j v h
  obtain ⟨hj, rfl⟩ := bsU_at h
  have h0 : j = 0 := by simp at hj; exact hj
  subst h0
  have h1 : w'.cell? ⟨B, 0, none⟩ = w.cell? ⟨B, 0, none⟩ := hb.cell hB
  rw [show ((⟨B, 0, none⟩ : Addr).add 0) = ⟨B, 0, none⟩ from by simp [Addr.add], h1, hx]
  rfl
theorem splice_same {cur L : List Value} {k m : Nat} {v : Value} (h1 : ∀ j, j < k → cur[j]? = some v) (hk : k ≤ cur.length) (hL : L.length = m) (h2 : ∀ j, j < m → L[j]? = some v) (j : Nat) (hj : j < k + m) : (splice cur k L)[j]? = some v := by
  unfold splice
  have ht : (cur.take k).length = k := by simp; omega
  by_cases hjk : j < k
  · rw [List.getElem?_append_left (by omega), List.getElem?_take_of_lt hjk]
    exact h1 j hjk
  · rw [List.getElem?_append_right (by omega), ht, List.getElem?_append_left (by omega)]
    exact h2 _ (by omega)
/-- What Repeat leaves: new memory that holds the bytes l. -/
def RepPost (w : World) (l : List UInt8) (e : Ending) (w' : World) : Prop :=
  e = .returned (.slice (some ⟨w.heap.size, 0, none⟩) l.length l.length) ∧ Blk w' w.heap.size w.heap.size l ∧ Below w.heap.size w w'
set_option maxRecDepth 100000 in
theorem repeat_any (x : UInt8) (B n : Nat) (w : World) (hpos : 0 < n) (hn : n ≤ 8192) (hx : w.cell? ⟨B, 0, none⟩ = some (.int .u8 (x.toNat : Int))) :
    Calls Tryd.prog 70 #[.slice (some ⟨B, 0, none⟩) 1 1, .int .i64 (n : Int)] w (RepPost w (List.replicate n x)) := by
  have hB : B < w.heap.size := World.block_lt_of_cell? w _ hx
  obtain ⟨cs, hrun, hle, _⟩ := Lib.run_makeNoZero (P := Tryd.prog) w #[3] 22 5 Tryd.underlying22 n (by omega)
  have hcall : (callFunc 88 #[.int .i64 (n : Int)]).run Tryd.prog w = .ok (.value (.slice (some ⟨w.heap.size, 0, none⟩) n cs.size)) (w.drew.drew.alloc (.cells cs 5)) := by
    rw [run_callFunc_extern Tryd.func88 (by kernel_rfl) (by kernel_rfl) (by kernel_rfl) (e := Extern.BytealgMakeNoZero.makeNoZero #[3] #[22]) (by kernel_rfl), hrun]
    rfl
  clear hrun
  have i0 : (0 : Int) ≤ (n : Int) := by omega
  have i1 : (n : Int) ≤ (cs.size : Int) := by omega
  have hb0 : Below w.heap.size w ((w.alloc (.cells cs 5)).drew.drew) := ((below_new w _).drew).drew
  have hh0 : ((w.alloc (.cells cs 5)).drew.drew).heap[w.heap.size]? = some (.cells cs.toList.toArray 5 (0, 0)) := by
    show (w.heap.push _)[w.heap.size]? = _
    simp
  go_enter Tryd.func70, Tryd.ntmps70
  go_wp2_with fail
  refine (mul_one' n (by omega) _).mono ?_
  rintro e w' ⟨rfl, rfl⟩
  go_wp2_with ((with_reducible refine wpList_copy_splice (o := ⟨some 60, _, _, _, _, _⟩) ?_ (.tmp 58) (.tmp 59) 22 22 ?_ 5 ?_ ?_ (some ⟨w.heap.size, 0, none⟩) (some ⟨B, 0, none⟩) n n 1 1 ?_ ?_ w.heap.size 0 cs.toList 5 ?_ (bsU [x]) ?_ ?_ ?_ (bsU_one _) w.heap.size w ?_ (Nat.le_refl _) ?_); (rfl); (rfl); (exact Tryd.underlying22); (kernel_rfl); (rfl); (rfl); go_must (exact hh0); go_must (show 1 = min 1 n; omega); (exact fun _ => ⟨rfl, _, rfl, src_one hb0 hB hx⟩); go_must (simp [bsU]; omega); go_must (exact hb0); intro w1 h1 hb1)
  have h1' := h1.out
  have hs1 : ∃ cur : List Value, w1.heap[w.heap.size]? = some (.cells cur.toArray 5 (0, 0)) ∧ cur.length = cs.size ∧ ∀ j, j < 1 → cur[j]? = some (.int .u8 (x.toNat : Int)) :=
    ⟨_, h1', by rw [length_splice _ _ _ (by simp [bsU]; omega)]; simp, fun j hj => by
      obtain rfl : j = 0 := by omega
      simp [splice, bsU]⟩
  clear h1 h1' hh0 hb0 hcall
  go_loopw [10] (fun i wr => Below w.heap.size w wr ∧ ∃ k : Nat, 1 ≤ k ∧ k ≤ n ∧ i = .int .i64 k ∧ ∃ cur : List Value, wr.heap[w.heap.size]? = some (.cells cur.toArray 5 (0, 0)) ∧ cur.length = cs.size ∧ ∀ j, j < k → cur[j]? = some (.int .u8 (x.toNat : Int))) (fun i _ => n - (intOf i).toNat)
  case atStart => exact ⟨hb1, 1, Nat.le_refl _, hpos, by simp [bsU], hs1⟩
  case round =>
    clear hb1 hs1
    obtain ⟨hbw, k, hk1, hk, rfl, cur, hcur, hlen, hrd⟩ := hrel
    have HR := Lib.hid hrd; clear hrd
    have HC := Lib.hid hcur; clear hcur
    have HL := Lib.hid hlen; clear hlen
    have HB := Lib.hid hbw; clear hbw
    by_cases hlt : k < n
    · have hmin : min (k : Int) (n : Int) = k := by omega
      obtain ⟨m, hm⟩ : ∃ m, m = min k (n - k) := ⟨_, rfl⟩
      have hnk : ¬ n = k := by omega
      have hm1 : k + m ≤ n := by omega
      have hm2 : 1 ≤ m := by omega
      obtain ⟨L, hL⟩ : ∃ L, L = List.replicate m x := ⟨_, rfl⟩
      have hLm : (bsU L).length = m := by rw [hL, bsU_len, List.length_replicate]
      have hLx : ∀ j, j < m → (bsU L)[j]? = some (.int .u8 (x.toNat : Int)) := fun j hj => by
        rw [hL, bsU_get _ j (by rw [List.length_replicate]; exact hj), gt_lt (by rw [List.length_replicate]; exact hj), List.getElem_replicate]
      have hLb : (bsU L).length ≤ 8192 := by omega
      have hLp : 1 ≤ (bsU L).length := by omega
      have HM := Lib.hid hm
      have HLM := Lib.hid hLm
      have HLX := Lib.hid hLx
      clear hm hL hLm hLx
      have hsrc : ∀ W : World, W.heap = wr.heap → ∀ j v, (bsU L)[j]? = some v → W.cell? ((⟨w.heap.size, 0, none⟩ : Addr).add j) = some v := fun W hW j v hv => by
        have hj : j < m := by
          have := (List.getElem?_eq_some_iff.1 hv).1
          rw [HLM.out] at this; exact this
        rw [HLX.out j hj] at hv
        rw [show ((⟨w.heap.size, 0, none⟩ : Addr).add j) = ⟨w.heap.size, j, none⟩ from by by_cases h : j = 0 <;> simp [Addr.add, h], heap_cell (hW ▸ HC.out) j, HR.out j (by rw [HM.out] at hj; omega)]
        exact hv
      have HS := Lib.hid hsrc
      clear hsrc
      go_wp2
      go_region_law (refine step_copy_splice rfl (.tmp 70) (.tmp 73) 22 22 rfl 5 Tryd.underlying22 (by kernel_rfl) (some ⟨w.heap.size, k, none⟩) (some ⟨w.heap.size, 0, none⟩) (n - k) (n - k) k n (by simp [Act.eval, Act.put]) (by simp [Act.eval, Act.put]) w.heap.size k cur 5 HC.out (bsU L) (by rw [HLM.out, HM.out]) (fun _ => ⟨rfl, _, rfl, HS.out _ rfl⟩) (by rw [HLM.out, HL.out]; omega) (bsU_one _) w.heap.size w HB.out.drew (Nat.le_refl _) ?_; intro w2 h2 hb2)
      go_simp
      rw [show IntKind.i64.wrap ((k : Int) + ((bsU L).length : Int)) = ((k + m : Nat) : Int) from by rw [IntKind.wrap_i64, HLM.out]; omega]
      go_roundw
      case rel => exact ⟨_, _, _, _, _, _, _, _, _, _, _, _, _, _, _, _, _, ⟨hb2, k + m, by omega, hm1, rfl, _, h2.out, by rw [length_splice _ _ _ (by rw [HLM.out, HL.out]; omega)]; exact HL.out, fun j hj => splice_same HR.out (by rw [HL.out]; omega) HLM.out HLX.out j hj⟩, rfl⟩
      case measure => simp [intOf]; omega
    · obtain rfl : k = n := by omega
      go_wp2
      go_ret
      have hlen : (List.replicate k x).length = k := List.length_replicate
      refine ⟨by rw [hlen]; rfl, ⟨Nat.le_refl _, _, HC.out, ?_⟩, HB.out⟩
      rw [hlen]
      refine List.ext_getElem? fun j => ?_
      by_cases hj : j < k
      · rw [List.getElem?_take_of_lt hj, HR.out j hj, bsU_get _ j (by rw [hlen]; exact hj), gt_lt (by rw [hlen]; exact hj), List.getElem_replicate]
      · rw [List.getElem?_eq_none (by rw [List.length_take]; omega), List.getElem?_eq_none (by rw [bsU_len, hlen]; omega)]

end E
end Go.Proofs.YtlpekknhaaddcaaDoor
