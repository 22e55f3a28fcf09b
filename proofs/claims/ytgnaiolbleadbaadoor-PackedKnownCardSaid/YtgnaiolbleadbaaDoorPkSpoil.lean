/- Spoil and decodes of the laws: their contracts. -/
import Derived.Test.YtgnaiolbleadbaaDoorPkRef10
import Derived.Test.YtgnaiolbleadbaaDoorPkEncs
namespace Go.Proofs.YtgnaiolbleadbaaDoor
open Go.RowKit Go.Shelf
set_option linter.unusedVariables false
namespace E

/-- What both sides' Decode answer is the same: decodes is true. -/
theorem sv_decode {w : World} {sv : Value} {bs : List UInt8} (h : SvRd w sv bs) (hg : Sg w) : Calls Tryd.prog 25 #[sv] w (DecPost w bs) := by
  obtain ⟨p, c, rfl, hr⟩ := h
  exact decode_any p c bs w hr hg
theorem sv_rdecode {w : World} {sv : Value} {bs : List UInt8} (h : SvRd w sv bs) : Calls Tryd.prog 37 #[sv] w (DecPost w bs) := by
  obtain ⟨p, c, rfl, hr⟩ := h
  exact rdecode_any p c bs w hr
set_option maxRecDepth 100000 in
theorem decodes_any (sv : Value) (bs : List UInt8) (w : World) (hr : SvRd w sv bs) (hg : Sg w) : Calls Tryd.prog 13 #[sv] w (New w (.bool true)) := by
  have H1 := Lib.hid (sv_decode hr hg)
  have H2 := Lib.hid (fun W (h : Below w.heap.size w W) => sv_rdecode (hr.below h))
  clear hr hg
  obtain ⟨neg, hn⟩ : ∃ neg, neg = dNeg bs := ⟨_, rfl⟩
  obtain ⟨s, hs⟩ : ∃ s : ByteArray, s = ⟨(dDig bs).toArray⟩ := ⟨_, rfl⟩
  obtain ⟨ok, ho⟩ : ∃ ok, ok = dOk bs := ⟨_, rfl⟩
  unfold DecPost at H1 H2
  rw [← hn, ← hs, ← ho] at H1
  simp only [← hn, ← hs, ← ho] at H2
  clear hn hs ho
  go_enter Tryd.func13, Tryd.ntmps13
  go_wp2_with fail
  refine (H1.out).mono ?_
  rintro e w1 ⟨rfl, hb1⟩
  have HB1 := Lib.hid (bel0 hb1 (below_new w1 (.cells #[.bool neg, .string s] 26)))
  have HD1 := Lib.hid (DecB.new w1 neg s)
  clear hb1
  go_wp2_with fail
  refine (H2.out _ HB1.out).mono ?_
  rintro e w2 ⟨rfl, hb2⟩
  have HB2 := Lib.hid (bel0 (bel0 HB1.out hb2) (below_new w2 (.cells #[.bool neg, .string s] 26)))
  have HD2 := Lib.hid ((HD1.out.below hb2).below (below_new w2 (.cells #[.bool neg, .string s] 26)))
  have HE2 := Lib.hid (DecB.new w2 neg s)
  clear hb2
  obtain ⟨⟨c1, c2⟩, _⟩ := HD2.out.cells
  obtain ⟨⟨c3, c4⟩, _⟩ := HE2.out.cells
  go_wp2
  go_ret
  exact ⟨rfl, HB2.out⟩
/-- What Spoil leaves. -/
def SpPost (w : World) (e : Ending) (w' : World) : Prop := ∃ sv l, e = .returned sv ∧ SvRd w' sv l ∧ Below w.heap.size w w'
theorem own_empty (w : World) : (w.alloc (.cells #[] 5)).ownsRow w.heap.size 5 1 (.slice (some ⟨w.heap.size, 0, none⟩) 0 0) 0 [] :=
  ⟨rfl, .inr ⟨w.heap.size, 0, #[], rfl, Nat.le_refl _, heap_alloc_new _ _, Nat.le_refl _, Nat.zero_le _, rfl, rfl⟩⟩
theorem wrap_u8 (x : UInt8) : wrap64 (x.toNat : Int) = (x.toNat : Int) := all256 (p := fun x => wrap64 (x.toNat : Int) = (x.toNat : Int)) (by decide +kernel) x
theorem rd_news {W : World} {g off : Nat} {l : List UInt8} (hc : ∀ j, j < l.length → W.cell? ⟨g, off + j, none⟩ = some (.int .u8 ((gt l j).toNat : Int))) : ∀ j u, (bsU l)[j]? = some u → W.cell? ((⟨g, off, none⟩ : Addr).add j) = some u := by
  intro j u hu
  obtain ⟨hj, rfl⟩ := bsU_at hu
  have h2 := hc j hj
  by_cases h0 : j = 0
  · subst h0; simpa [Addr.add] using h2
  · simpa [Addr.add, h0] using h2
set_option maxRecDepth 100000 in
theorem spoil_any (B off c : Nat) (l : List UInt8) (at_ x : UInt8) (w : World) (h1 : 1 ≤ l.length) (h2 : l.length ≤ 100) (hr : ∀ j, j < l.length → w.cell? ⟨B, off + j, none⟩ = some (.int .u8 ((gt l j).toNat : Int))) :
    Calls Tryd.prog 14 #[.slice (some ⟨B, off, none⟩) l.length c, .int .u8 (at_.toNat : Int), .int .u8 (x.toNat : Int)] w (SpPost w) := by
  obtain ⟨i0, hi, hz0, hz1, hz2⟩ := info_parts info5
  have hB0 := below_new w (.cells #[] 5)
  have HR := Lib.hid (rd_news (fun j hj => keepC (hr j hj) hB0))
  have HB := Lib.hid hB0
  clear hr hB0
  go_enter Tryd.func14, Tryd.ntmps14
  go_wp2_with (at_builtin; refine wpList_append_own _ rfl (.tmp 8) (.tmp 9) 22 rfl w.heap.size 5 i0 (.int .u8 0) 1 1 Tryd.underlying22 hi hz0 hz1 hz2 rfl (by decide) _ 0 [] rfl (own_empty w) ⟨B, off, none⟩ l.length c (bsU l) rfl (by rw [bsU_len]; omega) HR.out (bsU_one l) (by unfold maxLen; omega) (by omega) (by simp) ?_)
  intro v' w3 hown' hgrow _

  obtain ⟨g', c', rfl, hblk⟩ := hold_blk h1 hown'
  have hb1 : Below w.heap.size w w3 := HB.out.grown hgrow (by simp) (fun r hr => by simp [Value.ownBlock] at hr; omega)
  have HB1 := Lib.hid hb1
  have hq : at_.toNat % l.length < l.length := Nat.mod_lt _ h1
  have hqe : (wrap64 (at_.toNat : Int)).tmod (l.length : Int) = ((at_.toNat % l.length : Nat) : Int) := by
    rw [wrap_u8, Int.tmod_eq_emod_of_nonneg (by omega)]
    omega
  obtain ⟨q, hqq⟩ : ∃ q, q = at_.toNat % l.length := ⟨_, rfl⟩
  rw [← hqq] at hq hqe
  have hc := hblk.cell q hq
  have hf := hblk.frozen q
  have HS := Lib.hid (hblk.stored q x)
  have HG := Lib.hid hblk.1
  have HL : Hid ((l.set q x).length = l.length) := Lib.hid (List.length_set ..)
  clear hown' hgrow hblk hb1 hqq HR
  generalize l.length = m at *
  have hm0 : ¬ m = 0 := by omega
  have hmz : ((m : Int) == 0) = false := by simp; omega
  have hmp : decide (0 < m) = true := decide_eq_true (by omega)
  go_wp2
  go_ret
  exact ⟨.slice (some ⟨g', 0, none⟩) m c', l.set q x, rfl, ⟨some ⟨g', 0, none⟩, c', by rw [HL.out], HS.out.1.rd⟩, HB1.out.grown HS.out.2 HB1.out.size (fun j hj => by cases hj; exact HG.out)⟩

end E
end Go.Proofs.YtgnaiolbleadbaaDoor
