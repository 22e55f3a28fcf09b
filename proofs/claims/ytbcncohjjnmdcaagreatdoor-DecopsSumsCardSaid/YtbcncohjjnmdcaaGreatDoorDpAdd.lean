/- The program: AP and SP. -/
import Derived.Test.YtbcncohjjnmdcaaGreatDoorRows
import Derived.Test.YtbcncohjjnmdcaaGreatDoorDcOps
import Derived.Test.YtbcncohjjnmdcaaGreatDoorDpRuns
namespace Go.Proofs.YtbcncohjjnmdcaaGreatDoor
namespace E
end E
open Go.RowKit Go.Shelf E
set_option linter.unusedVariables false
namespace M

/-- What add comes to. -/
def apO (q : Qn) (R : Nat → Int) (p : Psw) (n : Nat) (bs ks : List UInt8) : Out := thenO (cXY q R p n ks) (becO q R p n bs ks (addL (opX q R bs) (opY q R bs)).1 ((addL (opX q R bs) (opY q R bs)).2.1 : Int) ((addL (opX q R bs) (opY q R bs)).2.2 : Int))
set_option maxRecDepth 100000 in
set_option maxHeartbeats 1000000 in
theorem add_act (E A : Nat) (q : Qn) (R : Nat → Int) (p : Psw) (g h n m : Nat) (bs ks : List UInt8) (w : World) (hx : Ex w E A q R p 0) (hs : Sto w A g h n m bs ks) (hg : Sg w) (hR : RegOk R) (hq : QOk q) : Calls Tryz.prog 50 #[.pointer (some ⟨E, 0, none⟩)] w (ActPost w E A g h n m q bs ks (apO q R p n bs ks)) := by
  unfold apO
  have HO := Lib.hid (operands_post E A q R p g h n m bs ks 0 w hx hs hR hq)
  have HD : Hid (∀ W s t, Below w.heap.size w W → SvB W s (opX q R bs) → SvB W t (opY q R bs) → Calls Tryz.prog 108 #[s, t] W (R3Post W (addL (opX q R bs) (opY q R bs)))) := Lib.hid (fun W s t hb h1 h2 => by
    obtain ⟨a, k, rfl, r1, _⟩ := h1
    obtain ⟨b, k2, rfl, r2, _⟩ := h2
    exact padd_any a b k k2 _ _ W r1 r2 (hg.below hb))
  obtain ⟨r, hr⟩ : ∃ r, r = addL (opX q R bs) (opY q R bs) := ⟨_, rfl⟩
  rw [← hr] at HD ⊢
  have HB : Hid (cXY q R p n ks = 0 → ∀ W sv, Below w.heap.size w W → SvB W sv r.1 → Calls Tryz.prog 106 #[.pointer (some ⟨E, 0, none⟩), sv, .int .i64 (r.2.1 : Int), .int .i64 (r.2.2 : Int)] W (ActPost w E A g h n m q bs ks (thenO (cXY q R p n ks) (becO q R p n bs ks r.1 (r.2.1 : Int) (r.2.2 : Int))))) := Lib.hid (fun hC W sv hb hv => by
    rw [thenO_go _ hC]
    exact (become_post E A q R p g h n m bs ks sv r.1 (r.2.1 : Int) (r.2.2 : Int) W (hx.below hb) (hs.below hb) hv hR hq).mono (fun e w' hp => act_below hb hp))
  have HST := Lib.hid (fun W (hb : Below w.heap.size w W) (hC : cXY q R p n ks ≠ 0) => act_stop (E := E) q (becO q R p n bs ks r.1 (r.2.1 : Int) (r.2.2 : Int)) hs hb hC)
  unfold R3Post at HD
  clear hx hs hg hR hq hr
  generalize thenO (cXY q R p n ks) (becO q R p n bs ks r.1 (r.2.1 : Int) (r.2.2 : Int)) = o at HB HST ⊢
  generalize cXY q R p n ks = C at HO HB HST
  generalize opX q R bs = x at HO HD
  generalize opY q R bs = y at HO HD
  generalize r.1 = l at HD HB
  generalize (r.2.1 : Int) = cc at HD HB
  generalize (r.2.2 : Int) = code at HD HB
  go_enter Tryz.func50, Tryz.ntmps50
  go_wp2_with fail
  refine HO.out.mono ?_
  rintro e w1 ⟨hb, hE⟩
  have HB1 := Lib.hid hb
  clear hb HO
  rcases hE with ⟨hC, s, t, rfl, h1, h2⟩ | ⟨hC, rfl⟩
  · have HD1 := Lib.hid (HD.out w1 s t HB1.out h1 h2)
    have HB := Lib.hid (HB.out hC)
    clear h1 h2 HD HST hC
    go_wp2_with fail
    refine HD1.out.mono ?_
    rintro e w2 ⟨sv, rfl, hv, hb⟩
    have HBC := Lib.hid (HB.out w2 sv (bel0 HB1.out hb) hv)
    clear hv hb HB1 HB HD1
    go_wp2_with fail
    refine HBC.out.mono ?_
    intro e w9 hp
    have HP := Lib.hid hp
    rcases act_cases hp with rfl | ⟨C9, rfl⟩
    · clear hp
      go_wp2
      go_end0
      exact HP.out
    · clear hp
      unfold Stop at HP ⊢
      go_wp2
      exact ⟨rfl, HP.out⟩
  · have HZ := Lib.hid (HST.out w1 HB1.out hC)
    clear HB1 HB HD HST
    unfold Stop at HZ ⊢
    go_wp2
    exact ⟨rfl, HZ.out⟩
end M
end Go.Proofs.YtbcncohjjnmdcaaGreatDoor
