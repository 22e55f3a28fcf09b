/- The walk of the statement PackedDecodes: it answers true, and below its own memory nothing turns. -/
import Derived.Test.YtgnaiolbleadbaaDoorPkWorks
import Derived.Test.YtgnaiolbleadbaaDoorPkPure
import Derived.Test.YtgnaiolbleadbaaDoorPkLaid
import Derived.Test.YtgnaiolbleadbaaDoorPkSpoil
namespace Go.Proofs.YtgnaiolbleadbaaDoor.packedDecodes
open Go.ChangeShapes Go.WideShapes Go.ChangeAt Go.RowKit Go.ChangeMaps E
set_option linter.unusedVariables false

/-- The field of a valid number: the document's Encode leaves new memory. -/
theorem enc_field (neg : Bool) (t : ByteArray) (dl : List UInt8) (k : Nat) (hdl : t.data.toList = dl) (hok : okL dl = true) (hk1 : 1 ≤ k) (hk2 : k ≤ 16) (w : World) :
    Calls Tryd.prog 11 #[.agg #[.bool neg, .string t], .int .i64 (k : Int)] w fun e w' => ∃ g c ov, e = .returned (.tuple #[.slice (some ⟨g, 0, none⟩) k c, .bool ov]) ∧ Blk w' w.heap.size g (encL neg dl k) ∧ Below w.heap.size w w' := by
  have h := rencode_any neg t (k : Int) dl w hdl
  rw [show enB dl (k : Int) = true by unfold enB; rw [hok, decide_eq_true (by omega)]; rfl, Int.toNat_natCast] at h
  refine h.mono fun e w' h => ?_
  rcases h with ⟨_, sv, h1, h2, h3⟩ | ⟨ho, _⟩
  · have hl := encL_len neg dl k
    obtain ⟨g, c, rfl, hb⟩ := hold_blk (by rw [hl]; exact hk1) h2
    rw [hl] at h1
    exact ⟨g, c, _, h1, hb, h3⟩
  · cases ho
set_option maxRecDepth 100000 in
set_option maxHeartbeats 2000000 in
theorem walk (p : Option Addr) (c : Nat) (l : List UInt8) (hc : l.length ≤ c) (hcc : c ≤ 9223372036854775807) (hnil : p = none → c = 0) (s : ByteArray) (hs0 : s.size ≤ 9223372036854775807) (n a x : UInt8) (w : World) (hg : Sg w) (hr : Rd w p l) :
    Calls Tryd.prog 3 #[.slice p l.length c, .string s, .int .u8 (n.toNat : Int), .int .u8 (a.toNat : Int), .int .u8 (x.toNat : Int)] w (New w (.bool true)) := by
  by_cases h20 : 20 < l.length
  · have hll : (l.take 20).length = 20 := by simp; omega
    have hrl : Rd w p (l.take 20) := hr.take 20
    have HG := Lib.hid hg
    have HR := Lib.hid hrl
    have HD1 := Lib.hid (fun W (h : Rd W p (l.take 20)) (hg : Sg W) => (decodes_any (.slice p 20 c) (l.take 20) W ⟨p, c, by rw [hll], h⟩ hg))
    obtain ⟨neg, hneg⟩ : ∃ neg, ((x.toNat : Int) % 2 == 1) = neg := ⟨_, rfl⟩
    obtain ⟨m, hm⟩ : ∃ m : Nat, 1 + (n.toNat : Int) % 16 = (m : Int) := ⟨1 + n.toNat % 16, by push_cast; rfl⟩
    have hm1 : 1 ≤ m := by omega
    have hm2 : m ≤ 16 := by omega
    clear hg hr hrl hll
    go_enter Tryd.func3, Tryd.ntmps3
    go_wp2_with fail
    refine (number_any _ s _).mono ?_
    rintro e w1 ⟨t, rfl, hok, hb⟩
    have HB1 := Lib.hid hb
    have hef := enc_field neg t t.data.toList m rfl hok hm1 hm2
    have HE := Lib.hid hef
    have hel := encL_len neg t.data.toList m
    generalize encL neg t.data.toList m = F at *
    have HEL := Lib.hid hel
    clear hok hb hef hel
    go_wp2_with fail
    refine (HE.out _).mono ?_
    rintro e w2 ⟨g, c2, ov, rfl, hbk, hb⟩
    have HB2 := Lib.hid (bel0 HB1.out hb)
    have HF := Lib.hid hbk
    clear hb hbk
    go_wp2_with fail
    refine (HD1.out _ (HR.out.below HB2.out) (HG.out.below HB2.out)).mono ?_
    rintro e w3 ⟨rfl, hb⟩
    have HB3 := Lib.hid (bel0 HB2.out hb)
    have HF3 := Lib.hid (HF.out.below hb)
    clear hb
    go_wp2_with fail
    refine (decodes_any _ F _ ⟨some ⟨g, 0, none⟩, c2, by rw [HEL.out], HF3.out.rd⟩ (HG.out.below HB3.out)).mono ?_
    rintro e w4 ⟨rfl, hb⟩
    have HB4 := Lib.hid (bel0 HB3.out hb)
    have HF4 := Lib.hid (HF3.out.below hb)
    have HS := Lib.hid (spoil_any g 0 c2 F a x w4 (by rw [HEL.out]; exact hm1) (by rw [HEL.out]; omega) (fun j hj => by rw [Nat.zero_add]; exact HF4.out.cell j hj))
    rw [HEL.out] at HS
    clear hb
    go_wp2_with fail
    refine (HS.out).mono ?_
    rintro e w5 ⟨sv, l5, rfl, hs, hb⟩
    have HB5 := Lib.hid (bel0 HB4.out hb)
    have HS5 := Lib.hid hs
    clear hb hs
    go_wp2_with fail
    refine (decodes_any _ l5 _ HS5.out (HG.out.below HB5.out)).mono ?_
    rintro e w6 ⟨rfl, hb⟩
    have HB6 := Lib.hid (bel0 HB5.out hb)
    clear hb
    go_wp2_with fail
    refine (works_any _ (HG.out.below HB6.out)).mono ?_
    rintro e w7 ⟨rfl, hb⟩
    have HB7 := Lib.hid (bel0 HB6.out hb)
    clear hb
    go_wp2
    go_ret
    exact ⟨rfl, HB7.out⟩
  · obtain ⟨k, hk⟩ : ∃ k, k = l.length := ⟨_, rfl⟩
    have hll : l.length = k := hk.symm
    have hrl : Rd w p l := hr
    rw [← hk] at hc h20 ⊢
    clear hk
    have HG := Lib.hid hg
    have HR := Lib.hid hrl
    have HD1 := Lib.hid (fun W (h : Rd W p l) (hg : Sg W) => (decodes_any (.slice p k c) l W ⟨p, c, by rw [hll], h⟩ hg))
    obtain ⟨neg, hneg⟩ : ∃ neg, ((x.toNat : Int) % 2 == 1) = neg := ⟨_, rfl⟩
    obtain ⟨m, hm⟩ : ∃ m : Nat, 1 + (n.toNat : Int) % 16 = (m : Int) := ⟨1 + n.toNat % 16, by push_cast; rfl⟩
    have hm1 : 1 ≤ m := by omega
    have hm2 : m ≤ 16 := by omega
    clear hg hr hrl hll
    go_enter Tryd.func3, Tryd.ntmps3
    go_wp2_with fail
    refine (number_any _ s _).mono ?_
    rintro e w1 ⟨t, rfl, hok, hb⟩
    have HB1 := Lib.hid hb
    have hef := enc_field neg t t.data.toList m rfl hok hm1 hm2
    have HE := Lib.hid hef
    have hel := encL_len neg t.data.toList m
    generalize encL neg t.data.toList m = F at *
    have HEL := Lib.hid hel
    clear hok hb hef hel
    go_wp2_with fail
    refine (HE.out _).mono ?_
    rintro e w2 ⟨g, c2, ov, rfl, hbk, hb⟩
    have HB2 := Lib.hid (bel0 HB1.out hb)
    have HF := Lib.hid hbk
    clear hb hbk
    go_wp2_with fail
    refine (HD1.out _ (HR.out.below HB2.out) (HG.out.below HB2.out)).mono ?_
    rintro e w3 ⟨rfl, hb⟩
    have HB3 := Lib.hid (bel0 HB2.out hb)
    have HF3 := Lib.hid (HF.out.below hb)
    clear hb
    go_wp2_with fail
    refine (decodes_any _ F _ ⟨some ⟨g, 0, none⟩, c2, by rw [HEL.out], HF3.out.rd⟩ (HG.out.below HB3.out)).mono ?_
    rintro e w4 ⟨rfl, hb⟩
    have HB4 := Lib.hid (bel0 HB3.out hb)
    have HF4 := Lib.hid (HF3.out.below hb)
    have HS := Lib.hid (spoil_any g 0 c2 F a x w4 (by rw [HEL.out]; exact hm1) (by rw [HEL.out]; omega) (fun j hj => by rw [Nat.zero_add]; exact HF4.out.cell j hj))
    rw [HEL.out] at HS
    clear hb
    go_wp2_with fail
    refine (HS.out).mono ?_
    rintro e w5 ⟨sv, l5, rfl, hs, hb⟩
    have HB5 := Lib.hid (bel0 HB4.out hb)
    have HS5 := Lib.hid hs
    clear hb hs
    go_wp2_with fail
    refine (decodes_any _ l5 _ HS5.out (HG.out.below HB5.out)).mono ?_
    rintro e w6 ⟨rfl, hb⟩
    have HB6 := Lib.hid (bel0 HB5.out hb)
    clear hb
    go_wp2_with fail
    refine (works_any _ (HG.out.below HB6.out)).mono ?_
    rintro e w7 ⟨rfl, hb⟩
    have HB7 := Lib.hid (bel0 HB6.out hb)
    clear hb
    go_wp2
    go_ret
    exact ⟨rfl, HB7.out⟩

end Go.Proofs.YtgnaiolbleadbaaDoor.packedDecodes
