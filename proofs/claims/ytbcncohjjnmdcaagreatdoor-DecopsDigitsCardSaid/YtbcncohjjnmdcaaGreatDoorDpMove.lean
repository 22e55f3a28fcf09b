/- The program: PACK, UNPK and MVO. -/
import Derived.Test.YtbcncohjjnmdcaaGreatDoorRows
import Derived.Test.YtbcncohjjnmdcaaGreatDoorDpRuns
import Derived.Test.YtbcncohjjnmdcaaGreatDoorPkMovs
namespace Go.Proofs.YtbcncohjjnmdcaaGreatDoor
namespace E
end E
open Go.RowKit Go.Shelf E
set_option linter.unusedVariables false
namespace M

/-- What a move returns. -/
def mvL (ok : Bool) (l : List UInt8) : List UInt8 := if ok = true then l else []
theorem mv_sv {w : World} {ok : Bool} {n : Int} {l : List UInt8} {e : Ending} {w' : World} (h : MvPost w ok n l e w') (hl : ok = true → (l.length : Int) = n ∧ l.length ≤ 1000) : ∃ sv, e = .returned sv ∧ SvB w' sv (mvL ok l) ∧ Below w.heap.size w w' := by
  rcases h with ⟨h0, g, rfl, hb, hk⟩ | ⟨h0, rfl, hb⟩
  · obtain ⟨h1, h2⟩ := hl h0
    have h3 : n.toNat = l.length := by omega
    refine ⟨_, rfl, ?_, hk⟩
    unfold mvL
    rw [if_pos h0, h3]
    exact ⟨_, _, rfl, hb.rd, Nat.le_refl _, by omega, fun h => by cases h⟩
  · refine ⟨_, rfl, ?_, hb⟩
    unfold mvL
    rw [if_neg (by rw [h0]; decide)]
    exact SvB.nil _
theorem sz_two {m : Nat} {n : Int} (h : szB m n = true) : (1 ≤ m ∧ m ≤ 16) ∧ (1 ≤ n ∧ n ≤ 16) := by
  unfold szB at h
  rw [Bool.and_eq_true] at h
  exact ⟨of_decide_eq_true h.1, of_decide_eq_true h.2⟩
/-- What pack comes to. -/
def pkR (q : Qn) (R : Nat → Int) (bs : List UInt8) : List UInt8 := mvL (szB (opY q R bs).length ((q.l1 + 1 : Nat) : Int)) (packL (opY q R bs) (q.l1 + 1))
def pkO (q : Qn) (R : Nat → Int) (p : Psw) (n : Nat) (bs ks : List UInt8) : Out := thenO (cY q R p n ks) (putO p n bs ks (adF q R) R p 0 (pkR q R bs))
set_option maxRecDepth 100000 in
set_option maxHeartbeats 1000000 in
theorem pack_act (E A : Nat) (q : Qn) (R : Nat → Int) (p : Psw) (g h n m : Nat) (bs ks : List UInt8) (w : World) (hx : Ex w E A q R p 0) (hs : Sto w A g h n m bs ks) (hR : RegOk R) (hq : QOk q) : Calls Tryz.prog 46 #[.pointer (some ⟨E, 0, none⟩)] w (ActPost w E A g h n m q bs ks (pkO q R p n bs ks)) := by
  have HF := Lib.hid (first_any E A q R p 0 w hx hR hq)
  have HS := Lib.hid (fun W (hb : Below w.heap.size w W) => second_any E A q R p 0 W (hx.below hb) hR hq)
  have H2 := Lib.hid (fY hx hs)
  have HM : Hid (∀ W sv, SvB W sv (opY q R bs) → Calls Tryz.prog 101 #[sv, .int .i64 ((q.l1 + 1 : Nat) : Int)] W fun e W' => ∃ s, e = .returned s ∧ SvB W' s (pkR q R bs) ∧ Below W.heap.size W W') := Lib.hid (fun W sv h1 => by
    obtain ⟨a, k, rfl, r1, _⟩ := h1
    refine (pack_any a k ((q.l1 + 1 : Nat) : Int) _ W r1).mono (fun e W' hp => ?_)
    exact mv_sv hp (fun h0 => by have := sz_two h0; rw [packL_len]; omega))
  have HP : Hid (cY q R p n ks = 0 → ∀ W sv, Below w.heap.size w W → SvB W sv (pkR q R bs) → Calls Tryz.prog 100 #[.pointer (some ⟨E, 0, none⟩), sv] W (ActPost w E A g h n m q bs ks (pkO q R p n bs ks))) := Lib.hid (fun hC W sv hb hv => by
    unfold pkO
    rw [thenO_go _ hC]
    exact (replace_post E A q R p g h n m bs ks 0 sv _ _ W (hx.below hb) (hs.below hb) hv hR hq rfl).mono (fun e w' hp => act_put hb rfl hp))
  have HST := Lib.hid (fun W (hb : Below w.heap.size w W) (hC : cY q R p n ks ≠ 0) => (show ActPost w E A g h n m q bs ks (pkO q R p n bs ks) (Stop (cY q R p n ks)) W from act_stop (E := E) q _ hs hb hC))
  clear hx hs hR hq
  generalize pkO q R p n bs ks = o at HP HST ⊢
  generalize pkR q R bs = r at HM HP
  generalize opY q R bs = y at H2 HM
  generalize cY q R p n ks = C at H2 HP HST
  generalize adF q R = a1 at HF
  generalize adT q R = a2 at HS H2
  generalize q.l1 + 1 = k1 at HF HM
  generalize q.l2 + 1 = k2 at HS H2
  go_enter Tryz.func46, Tryz.ntmps46
  go_wp2_with fail
  refine HF.out.mono ?_
  rintro e w1 ⟨rfl, hb⟩
  have HB1 := Lib.hid hb
  clear hb HF
  go_wp2_with fail
  refine (HS.out _ HB1.out).mono ?_
  rintro e w2 ⟨rfl, hb⟩
  have HB2 := Lib.hid (bel0 HB1.out hb)
  clear hb HS HB1
  go_wp2_with fail
  refine (H2.out _ HB2.out).mono ?_
  rintro e w3 ⟨hb, hE⟩
  have HB3 := Lib.hid (bel0 HB2.out hb)
  clear hb H2 HB2
  rcases hE with ⟨hC, sv, rfl, hv⟩ | ⟨hC, rfl⟩
  · have HM1 := Lib.hid (HM.out w3 sv hv)
    have HP := Lib.hid (HP.out hC)
    clear hv HM HST hC
    go_wp2_with fail
    refine HM1.out.mono ?_
    rintro e w4 ⟨s4, rfl, hv, hb⟩
    have HBC := Lib.hid (HP.out w4 s4 (bel0 HB3.out hb) hv)
    clear hv hb HB3 HP HM1
    go_wp2_with fail
    refine HBC.out.mono ?_
    intro e w9 hp
    have HP := Lib.hid hp
    rcases act_cases hp with rfl | ⟨C9, rfl⟩
    · clear hp
      go_wp2
      go_end0
      exact HP.out
    · clear hp
      unfold Stop at HP ⊢
      go_wp2
      exact ⟨rfl, HP.out⟩
  · have HZ := Lib.hid (HST.out w3 HB3.out hC)
    clear HB3 HP HM HST
    unfold Stop at HZ ⊢
    go_wp2
    exact ⟨rfl, HZ.out⟩
/-- What unpack comes to. -/
def unR (q : Qn) (R : Nat → Int) (bs : List UInt8) : List UInt8 := mvL (szB (opY q R bs).length ((q.l1 + 1 : Nat) : Int)) (unpackL (opY q R bs) (q.l1 + 1))
def unO (q : Qn) (R : Nat → Int) (p : Psw) (n : Nat) (bs ks : List UInt8) : Out := thenO (cY q R p n ks) (putO p n bs ks (adF q R) R p 0 (unR q R bs))
set_option maxRecDepth 100000 in
set_option maxHeartbeats 1000000 in
theorem unpack_act (E A : Nat) (q : Qn) (R : Nat → Int) (p : Psw) (g h n m : Nat) (bs ks : List UInt8) (w : World) (hx : Ex w E A q R p 0) (hs : Sto w A g h n m bs ks) (hR : RegOk R) (hq : QOk q) : Calls Tryz.prog 47 #[.pointer (some ⟨E, 0, none⟩)] w (ActPost w E A g h n m q bs ks (unO q R p n bs ks)) := by
  have HF := Lib.hid (first_any E A q R p 0 w hx hR hq)
  have HS := Lib.hid (fun W (hb : Below w.heap.size w W) => second_any E A q R p 0 W (hx.below hb) hR hq)
  have H2 := Lib.hid (fY hx hs)
  have HM : Hid (∀ W sv, SvB W sv (opY q R bs) → Calls Tryz.prog 103 #[sv, .int .i64 ((q.l1 + 1 : Nat) : Int)] W fun e W' => ∃ s, e = .returned s ∧ SvB W' s (unR q R bs) ∧ Below W.heap.size W W') := Lib.hid (fun W sv h1 => by
    obtain ⟨a, k, rfl, r1, _⟩ := h1
    refine (unpack_any a k ((q.l1 + 1 : Nat) : Int) _ W r1).mono (fun e W' hp => ?_)
    exact mv_sv hp (fun h0 => by have := sz_two h0; rw [unpackL_len]; omega))
  have HP : Hid (cY q R p n ks = 0 → ∀ W sv, Below w.heap.size w W → SvB W sv (unR q R bs) → Calls Tryz.prog 100 #[.pointer (some ⟨E, 0, none⟩), sv] W (ActPost w E A g h n m q bs ks (unO q R p n bs ks))) := Lib.hid (fun hC W sv hb hv => by
    unfold unO
    rw [thenO_go _ hC]
    exact (replace_post E A q R p g h n m bs ks 0 sv _ _ W (hx.below hb) (hs.below hb) hv hR hq rfl).mono (fun e w' hp => act_put hb rfl hp))
  have HST := Lib.hid (fun W (hb : Below w.heap.size w W) (hC : cY q R p n ks ≠ 0) => (show ActPost w E A g h n m q bs ks (unO q R p n bs ks) (Stop (cY q R p n ks)) W from act_stop (E := E) q _ hs hb hC))
  clear hx hs hR hq
  generalize unO q R p n bs ks = o at HP HST ⊢
  generalize unR q R bs = r at HM HP
  generalize opY q R bs = y at H2 HM
  generalize cY q R p n ks = C at H2 HP HST
  generalize adF q R = a1 at HF
  generalize adT q R = a2 at HS H2
  generalize q.l1 + 1 = k1 at HF HM
  generalize q.l2 + 1 = k2 at HS H2
  go_enter Tryz.func47, Tryz.ntmps47
  go_wp2_with fail
  refine HF.out.mono ?_
  rintro e w1 ⟨rfl, hb⟩
  have HB1 := Lib.hid hb
  clear hb HF
  go_wp2_with fail
  refine (HS.out _ HB1.out).mono ?_
  rintro e w2 ⟨rfl, hb⟩
  have HB2 := Lib.hid (bel0 HB1.out hb)
  clear hb HS HB1
  go_wp2_with fail
  refine (H2.out _ HB2.out).mono ?_
  rintro e w3 ⟨hb, hE⟩
  have HB3 := Lib.hid (bel0 HB2.out hb)
  clear hb H2 HB2
  rcases hE with ⟨hC, sv, rfl, hv⟩ | ⟨hC, rfl⟩
  · have HM1 := Lib.hid (HM.out w3 sv hv)
    have HP := Lib.hid (HP.out hC)
    clear hv HM HST hC
    go_wp2_with fail
    refine HM1.out.mono ?_
    rintro e w4 ⟨s4, rfl, hv, hb⟩
    have HBC := Lib.hid (HP.out w4 s4 (bel0 HB3.out hb) hv)
    clear hv hb HB3 HP HM1
    go_wp2_with fail
    refine HBC.out.mono ?_
    intro e w9 hp
    have HP := Lib.hid hp
    rcases act_cases hp with rfl | ⟨C9, rfl⟩
    · clear hp
      go_wp2
      go_end0
      exact HP.out
    · clear hp
      unfold Stop at HP ⊢
      go_wp2
      exact ⟨rfl, HP.out⟩
  · have HZ := Lib.hid (HST.out w3 HB3.out hC)
    clear HB3 HP HM HST
    unfold Stop at HZ ⊢
    go_wp2
    exact ⟨rfl, HZ.out⟩
theorem nz_pk (q : Qn) (R : Nat → Int) (p : Psw) (n : Nat) (bs ks : List UInt8) : Nz (pkO q R p n bs ks) := nz_then (nz_put _ _ _ _ _ _ _ _ _)
theorem runs_242 (q : Qn) (R : Nat → Int) (p : Psw) (n : Nat) (bs ks : List UInt8) (hR : RegOk R) (hq : QOk q) (hop : q.op = 242) : Runs q R p n bs ks (pkO q R p n bs ks) :=
  ⟨nz_pk _ _ _ _ _ _, 46, enters_of Tryz.func46 (by kernel_rfl) rfl, fun X => by rw [hop]; exact action_242 X, fun E A g h m X hgX hX hsX => pack_act E A q R p g h n m bs ks X hX hsX hR hq⟩
theorem nz_un (q : Qn) (R : Nat → Int) (p : Psw) (n : Nat) (bs ks : List UInt8) : Nz (unO q R p n bs ks) := nz_then (nz_put _ _ _ _ _ _ _ _ _)
theorem runs_243 (q : Qn) (R : Nat → Int) (p : Psw) (n : Nat) (bs ks : List UInt8) (hR : RegOk R) (hq : QOk q) (hop : q.op = 243) : Runs q R p n bs ks (unO q R p n bs ks) :=
  ⟨nz_un _ _ _ _ _ _, 47, enters_of Tryz.func47 (by kernel_rfl) rfl, fun X => by rw [hop]; exact action_243 X, fun E A g h m X hgX hX hsX => unpack_act E A q R p g h n m bs ks X hX hsX hR hq⟩

end M
end Go.Proofs.YtbcncohjjnmdcaaGreatDoor
