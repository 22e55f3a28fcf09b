/- The document's own Pack: its contract. -/
import Derived.Test.YtgnaiolbleadbaaDoorPkRef3
namespace Go.Proofs.YtgnaiolbleadbaaDoor
open Go.RowKit Go.Shelf
set_option linter.unusedVariables false
namespace E

theorem rpack_no (p : Option Addr) (m c : Nat) (n : Int) (w : World) (h : szB m n = false) : Calls Tryd.prog 19 #[.slice p m c, .int .i64 n] w (New w (.slice none 0 0)) := by
  by_cases h1 : 1 ≤ m ∧ m ≤ 16
  · have h2 : ¬ (1 ≤ n ∧ n ≤ 16) := fun h2 => by
      unfold szB at h
      rw [decide_eq_true h1, decide_eq_true h2] at h
      cases h
    have hs1 := fun W => size_any (m : Int) W
    have hs2 := fun W => size_any n W
    rw [decide_eq_true (by omega)] at hs1
    rw [decide_eq_false h2] at hs2
    have S1 := Lib.hid hs1
    have S2 := Lib.hid hs2
    clear hs1 hs2 h h2
    go_enter Tryd.func19, Tryd.ntmps19
    go_wp2_with fail
    refine (S1.out _).mono ?_
    rintro e w' ⟨rfl, rfl⟩
    go_wp2_with fail
    refine (S2.out _).mono ?_
    rintro e w' ⟨rfl, rfl⟩
    go_wp2
    go_ret
    exact ⟨rfl, Below.refl _ _⟩
  · have hs1 := fun W => size_any (m : Int) W
    rw [decide_eq_false (by omega)] at hs1
    have S1 := Lib.hid hs1
    clear hs1 h
    go_enter Tryd.func19, Tryd.ntmps19
    go_wp2_with fail
    refine (S1.out _).mono ?_
    rintro e w' ⟨rfl, rfl⟩
    go_wp2
    go_ret
    exact ⟨rfl, Below.refl _ _⟩
theorem ApS.app2 {wr W w' : World} {o : Obj} {n : Nat} {sv : Value} {t : TypeId} {xs : List Value} (h : ApS wr W) (hown : W.ownsRow wr.heap.size t 1 sv n xs) (hg : (W.alloc o).grownBy w' sv.ownBlock) : ApS wr w' :=
  (Below.alloc h (Below.size h) o).grown hg (by have := Below.size h; simp; omega) (fun r hr => (hown.lt r hr).1)
theorem ApS.app3 {wr W w' : World} {n : Nat} {sv : Value} {t : TypeId} {xs : List Value} (h : ApS wr W) (hown : W.ownsRow wr.heap.size t 1 sv n xs) (hg : W.grownBy w' sv.ownBlock) : ApS wr w' :=
  Below.grown h hg (Below.size h) (fun r hr => (hown.lt r hr).1)
theorem rdi_of {w : World} {base k c : Nat} {p : Option Addr} {L : List (Fin 16)} {d : Fin 16} (h : w.ownsRow base 3 1 (.slice p k c) k (bsI L ++ [.int .i64 (d.val : Int)])) (hk : k = (L ++ [d]).length) : RdI w p (L ++ [d]) := by
  rw [← bsI_snoc] at h
  subst hk
  obtain ⟨q, c2, he, hr, _⟩ := HoldI.rd (show HoldI w base (.slice p (L ++ [d]).length c) (L ++ [d]) from h)
  injection he with e1 _ _
  rw [e1]
  exact hr
theorem right_row {w : World} {b1 b2 n : Nat} {sv : Value} {D : List (Fin 16)} (h : HoldI w b1 sv (rgtL D n)) (hb : b2 ≤ b1) : w.ownsRow b2 3 1 sv n (bsI (rgtL D n)) := by
  have h2 := own_base h hb
  rwa [rgtL_len] at h2
theorem bel_app {wr W W' : World} (h : ApS wr W) (hb : Below W.heap.size W W') : ApS wr W' := bel0 h hb
set_option maxRecDepth 100000 in
set_option maxHeartbeats 1000000 in
theorem rpack_yes (p : Option Addr) (c n : Nat) (bs : List UInt8) (w : World) (h1 : 1 ≤ bs.length) (h2 : bs.length ≤ 16) (h3 : 1 ≤ n) (h4 : n ≤ 16) (hr : Rd w p bs) :
    Calls Tryd.prog 19 #[.slice p bs.length c, .int .i64 (n : Int)] w (RuPost w (packL bs n)) := by
  obtain ⟨i0, hi0, hz0, hz1, hz2⟩ := info_parts info3
  have hs1 := fun W => size_any (bs.length : Int) W
  have hs2 := fun W => size_any (n : Int) W
  rw [decide_eq_true (by omega)] at hs1 hs2
  have S1 := Lib.hid hs1
  have S2 := Lib.hid hs2
  have HE := Lib.hid (pack_eq bs n h1)
  obtain ⟨m, hm⟩ : ∃ m, bs.length = m + 1 := ⟨bs.length - 1, by omega⟩
  have HM := Lib.hid hm
  have hcl : ∃ B off, p = some ⟨B, off, none⟩ ∧ B < w.heap.size ∧ ∀ j, j < m + 1 → w.cell? ⟨B, off + j, none⟩ = some (.int .u8 ((gt bs j).toNat : Int)) := by
    rcases hr with h0 | ⟨B, off, rfl, hc⟩
    · subst h0; simp at h1
    · exact ⟨_, _, rfl, World.block_lt_of_cell? w _ (hc 0 (by omega)), fun j hj => hc j (by omega)⟩
  obtain ⟨B, off, rfl, hB, hcl⟩ := hcl
  have HC := Lib.hid hcl
  have HBB := Lib.hid hB
  rw [hm] at HE S1 h2 ⊢
  have hcst : ((2 * n - 1 : Nat) : Int) = 2 * (n : Int) - 1 := by omega
  clear hs1 hs2 hr hcl hm hB h1
  go_enter Tryd.func19, Tryd.ntmps19
  go_wp2_with fail
  refine (S1.out _).mono ?_
  rintro e w' ⟨rfl, rfl⟩
  go_wp2_with fail
  refine (S2.out _).mono ?_
  rintro e w' ⟨rfl, rfl⟩
  go_wp2
  go_loopw [5, 6] (fun sv i wr => Below w.heap.size w wr ∧ ∃ t : Nat, t ≤ m + 1 ∧ i = .int .i64 t ∧ wr.ownsRow w.heap.size 3 1 sv t (bsI ((bs.take t).map lo))) (fun _ i _ => m + 1 - (intOf i).toNat)
  case atStart => exact ⟨Below.refl _ _, 0, Nat.zero_le _, rfl, World.ownsRow_nil _ _ _ _⟩
  case round =>
    obtain ⟨hbw, t, ht, rfl, hown⟩ := hrel
    have HB := Lib.hid hbw
    have HO := Lib.hid hown
    clear hbw hown
    by_cases hlt : t < m + 1
    · have hcw := (HB.out.cell (p := ⟨B, off + t, none⟩) HBB.out).trans (HC.out t hlt)
      have htk := take_one (l := bs) (k := t) (by rw [HM.out]; exact hlt)
      have HT := Lib.hid htk
      clear htk
      generalize gt bs t = x at *
      have hlx : (wrap64 (x.toNat : Int)).tmod 16 = ((lo x).val : Int) := lo_wrap64 x
      go_wp2_with (at_builtin; refine wpList_append_own _ rfl (.tmp 22) (.tmp 29) 49 rfl w.heap.size 3 i0 (.int .i64 0) 1 8 Tryd.underlying49 hi0 hz0 hz1 hz2 rfl (by decide) _ t _ rfl (HO.out.alloc _) ⟨wr.heap.size, 0, none⟩ 1 1 [.int .i64 ((lo x).val : Int)] rfl rfl (cellNew _ _ _) (by intro u hu; simp at hu; subst hu; rfl) (by unfold maxLen; omega) (by omega) (by have := HB.out.size; simp; omega) ?_)
      intro v' w3 hown' hgrow _
      have hb1 := (HB.out.alloc HB.out.size _).grown hgrow (by have := HB.out.size; simp; omega) (fun r hr => (HO.out.lt r hr).1)
      clear hgrow
      go_wp2
      go_roundw
      case rel => exact ⟨hb1, t + 1, by omega, by go_num, by rw [HT.out, List.map_append, List.map_cons, List.map_nil, bsI_snoc, List.map_take]; exact hown'⟩
      case measure => simp [intOf]; omega
    · obtain rfl : t = m + 1 := by omega
      have hown := HO.out
      rw [← HM.out, List.take_length] at hown
      have hoi : HoldI wr w.heap.size u5 (bs.map lo) := by unfold HoldI; rw [List.length_map]; exact hown
      obtain ⟨p5, c5, rfl, hr5, _⟩ := hoi.rd
      have hcw := (HB.out.cell (p := ⟨B, off + m, none⟩) HBB.out).trans (HC.out m (by omega))
      have hBr : B < wr.heap.size := Nat.lt_of_lt_of_le HBB.out HB.out.size
      have hlast : gt bs (m + 1 - 1) = gt bs m := by rw [Nat.add_sub_cancel]
      rw [hlast] at HE
      have hri := fun W (h : ApS wr W) => right_any p5 c5 (2 * n - 1) (bs.map lo) W (by omega) (by rw [List.length_map, HM.out]; omega) (hr5.below h)
      rw [hcst] at hri
      generalize gt bs m = x at *
      have hhx := hi_wrap x
      have HRI := Lib.hid hri
      have HCW := Lib.hid hcw
      have HBR := Lib.hid hBr
      have H0 : Hid (((fun W : World => W.cell? ⟨B, off + m, none⟩ = some (.int .u8 (x.toNat : Int)) ∧ ApS wr W) wr.drew)) := Lib.hid ⟨keepC hcw (Below.refl _ _).drew, (Below.refl _ _).drew⟩
      have hlen : (rgtL (bs.map lo) (2 * n - 1) ++ [hi x]).length = 2 * n := by rw [List.length_append, rgtL_len, List.length_singleton]; omega
      have hby : ∀ p3 c3 W, RdI W p3 (rgtL (bs.map lo) (2 * n - 1) ++ [hi x]) → Calls Tryd.prog 36 #[.slice p3 (2 * n - 1 + 1) c3] W (RuPost W (packL bs n)) := fun p3 c3 W h => by
        have := Bytes_any p3 c3 n _ W hlen (by omega) h
        rw [hlen, HE.out] at this
        rw [show 2 * n - 1 + 1 = 2 * n by omega]
        exact this
      have HBY := Lib.hid hby
      have e1 : IntKind.i64.wrap (2 * (n : Int)) = 2 * (n : Int) := by rw [IntKind.wrap_i64]; omega
      have e2 : IntKind.i64.wrap (2 * (n : Int) - 1) = 2 * (n : Int) - 1 := by rw [IntKind.wrap_i64]; omega
      have e3 : IntKind.i64.wrap ((m : Int) + 1 - 1) = (m : Int) := by rw [IntKind.wrap_i64]; omega
      have e4 : IntKind.i64.wrap (m : Int) = (m : Int) := by rw [IntKind.wrap_i64]; omega
      have i1 : (0 : Int) ≤ (m : Int) := by omega
      have i2 : (m : Int) < (m : Int) + 1 := by omega
      clear hown hoi hr5 hcw hBr hlast hri hlen hby HC HO
      generalize (bs.map lo).length = ll at *
      go_wp2
      go_region_held3 (fun W => W.cell? ⟨B, off + m, none⟩ = some (.int .u8 (x.toNat : Int)) ∧ ApS wr W)
        (first | exact H0.out | exact ApS.mk HBR.out HCW.out (by assumption) | exact ApS.new HBR.out HCW.out (by assumption))
        (first
          | ((refine step_append_lies _ (by rfl) (.tmp 35) (.tmp 44) 49 (by rfl) wr.heap.size 3 i0 (.int .i64 0) 1 8 Tryd.underlying49 hi0 hz0 hz1 hz2 rfl (by decide) _ (2 * n - 1) (bsI (rgtL (bs.map lo) (2 * n - 1))) (by rfl) (World.ownsRow.alloc ho2 _) _ 1 1 _ (by rfl) (by rfl) (World.news_of_block (heap_alloc_new _ _)) (by intro u hu; simp at hu; subst hu; rfl) (by omega) (by unfold maxLen; omega) (by omega) (by have := Below.size hs2; simp; omega) _ rfl ?_); intro g cap w3 hown3 hgrow hat hlt1; have hb3 := ApS.app2 hs2 ho2 hgrow; clear hat hlt1 hgrow)
          | ((refine step_append_lies _ (by rfl) (.tmp 35) (.tmp 44) 49 (by rfl) wr.heap.size 3 i0 (.int .i64 0) 1 8 Tryd.underlying49 hi0 hz0 hz1 hz2 rfl (by decide) _ (2 * n - 1) (bsI (rgtL (bs.map lo) (2 * n - 1))) (by rfl) ho2 _ 1 1 _ (by rfl) (by rfl) (World.news_of_block ((hb2.block _ (by simp)).trans (heap_alloc_new _ _))) (by intro u hu; simp at hu; subst hu; rfl) (by omega) (by unfold maxLen; omega) (by omega) (by have := Below.size hs2; omega) _ rfl ?_); intro g cap w3 hown3 hgrow hat hlt1; have hb3 := ApS.app3 hs2 ho2 hgrow; clear hat hlt1 hgrow)
          | (go_at_call 33; refine (HRI.out _ (And.right (b := ApS wr _) (by assumption))).mono ?_; rintro e w2 ⟨sv2, rfl, ho20, hb2⟩; have ho2 := right_row ho20 (show wr.heap.size ≤ _ by simp); have hs2 : ApS wr w2 := bel_app (And.right (b := ApS wr _) (by assumption)) hb2)
          | (go_at_call 36; refine (HBY.out _ _ _ (rdi_of hown3 (by rw [List.length_append, rgtL_len, List.length_singleton]))).mono ?_; rintro e w4 ⟨sv4, rfl, ho4, hb4⟩; have hs4 : ApS wr w4 := bel_app hb3 hb4))
      all_goals have HF : Hid (Hold w4 w.heap.size sv4 (packL bs n) ∧ Below w.heap.size w w4) := Lib.hid ⟨ho4.base (Nat.le_trans HB.out.size (Below.size hb3)), bel0 HB.out hs4⟩
      all_goals clear ho4 hb4 hs4 hb3 hown3
      all_goals go_wp2
      all_goals go_ret
      all_goals exact ⟨_, rfl, HF.out.1, HF.out.2⟩
theorem rpack_any (p : Option Addr) (c : Nat) (n : Int) (bs : List UInt8) (w : World) (hr : Rd w p bs) :
    Calls Tryd.prog 19 #[.slice p bs.length c, .int .i64 n] w (RmPost w (szB bs.length n) (packL bs n.toNat)) := by
  cases h : szB bs.length n
  · exact (rpack_no p _ c n w h).mono fun e w' h => .inr ⟨rfl, h⟩
  · unfold szB at h
    simp only [Bool.and_eq_true, decide_eq_true_eq] at h
    obtain ⟨m, rfl⟩ := Int.eq_ofNat_of_zero_le (show 0 ≤ n by omega)
    exact (rpack_yes p c m bs w (by omega) (by omega) (by omega) (by omega) hr).mono fun e w' h => .inl ⟨rfl, h⟩

end E
end Go.Proofs.YtgnaiolbleadbaaDoor
