/- What a statement's premises give: an instruction, registers, a state, a link, a row of instructions. -/
import Derived.Test.YtbcncohjjnmdcaaGreatDoorRows
import Derived.Deep.Slices
import Derived.Test.YtbcncohjjnmdcaaGreatDoorGnMem
import Derived.Test.YtbcncohjjnmdcaaGreatDoorPsLaid
import Derived.Test.YtbcncohjjnmdcaaGreatDoorStC
namespace Go.Proofs.YtbcncohjjnmdcaaGreatDoor
open Go.ChangeShapes Go.WideShapes Go.ChangeAt Go.RowKit Go.ChangeMaps Go.Joins Go.Deep E
set_option linter.unusedVariables false
namespace M

theorem u32w {v : Int} (h : (Lit.int .u32 v).wf = true) : 0 ≤ v ∧ v < 4294967296 := by
  simp [Lit.wf, IntKind.min, IntKind.max, IntKind.bits, IntKind.signed] at h; omega
theorem cI : Tryz.prog.cellsOf 3 = 1 := by kernel_rfl
theorem cB : Tryz.prog.cellsOf 4 = 1 := by kernel_rfl
theorem cW : Tryz.prog.cellsOf 26 = 1 := by kernel_rfl
theorem cU : Tryz.prog.cellsOf 5 = 1 := by kernel_rfl
theorem cU16 : Tryz.prog.cellsOf 69 = 1 := by kernel_rfl
theorem cS : Tryz.prog.cellsOf 31 = 1 := by kernel_rfl
theorem cSP : Tryz.prog.cellsOf 32 = 1 := by kernel_rfl
theorem cINS : Tryz.prog.cellsOf 25 = 12 := by kernel_rfl
theorem cREG : Tryz.prog.cellsOf 28 = 16 := by kernel_rfl
theorem cPSW : Tryz.prog.cellsOf 30 = 10 := by kernel_rfl
theorem cMEM : Tryz.prog.cellsOf 34 = 3 := by kernel_rfl
theorem cSTA : Tryz.prog.cellsOf 36 = 29 := by kernel_rfl
theorem cPRT : Tryz.prog.cellsOf 71 = 2 := by kernel_rfl
set_option maxRecDepth 100000 in
theorem ins_raw {H : Type} {enc : TypeId × Value → H} {W : World} {fuel : Nat} {x : DataW H × List MemPlace} {cs : List Value} (hf : DataW.trod enc Tryz.prog W 0 (fun _ => true) true fuel 25 cs = some x) : ∃ Q : Ins, cs = Q.cs.toList := by
  obtain ⟨xs, m, _, _, hl, hlen, hg⟩ := DataW.trod_struct Tryz.underlying25 hf
  match cs, hl.trans cINS, xs, hlen with
  | [c0, c1, c2, c3, c4, c5, c6, c7, c8, c9, c10, c11], _, [y0, y1, y2, y3, y4, y5, y6, y7, y8, y9, y10, y11], _ =>
    have g0 := hg 0 _ rfl
    simp [cI] at g0
    obtain ⟨b0, e0, -, w0⟩ := DataW.trod_int Tryz.underlying3 g0
    simp at e0
    subst e0
    have g1 := hg 1 _ rfl
    simp [cI] at g1
    obtain ⟨b1, e1, -, w1⟩ := DataW.trod_int Tryz.underlying3 g1
    simp at e1
    subst e1
    have g2 := hg 2 _ rfl
    simp [cI] at g2
    obtain ⟨b2, e2, -, w2⟩ := DataW.trod_int Tryz.underlying3 g2
    simp at e2
    subst e2
    have g3 := hg 3 _ rfl
    simp [cI] at g3
    obtain ⟨b3, e3, -, w3⟩ := DataW.trod_int Tryz.underlying3 g3
    simp at e3
    subst e3
    have g4 := hg 4 _ rfl
    simp [cI] at g4
    obtain ⟨b4, e4, -, w4⟩ := DataW.trod_int Tryz.underlying3 g4
    simp at e4
    subst e4
    have g5 := hg 5 _ rfl
    simp [cI] at g5
    obtain ⟨b5, e5, -, w5⟩ := DataW.trod_int Tryz.underlying3 g5
    simp at e5
    subst e5
    have g6 := hg 6 _ rfl
    simp [cI] at g6
    obtain ⟨b6, e6, -, w6⟩ := DataW.trod_int Tryz.underlying3 g6
    simp at e6
    subst e6
    have g7 := hg 7 _ rfl
    simp [cI] at g7
    obtain ⟨b7, e7, -, w7⟩ := DataW.trod_int Tryz.underlying3 g7
    simp at e7
    subst e7
    have g8 := hg 8 _ rfl
    simp [cI] at g8
    obtain ⟨b8, e8, -, w8⟩ := DataW.trod_int Tryz.underlying3 g8
    simp at e8
    subst e8
    have g9 := hg 9 _ rfl
    simp [cI] at g9
    obtain ⟨b9, e9, -, w9⟩ := DataW.trod_int Tryz.underlying3 g9
    simp at e9
    subst e9
    have g10 := hg 10 _ rfl
    simp [cI] at g10
    obtain ⟨b10, e10, -, w10⟩ := DataW.trod_int Tryz.underlying3 g10
    simp at e10
    subst e10
    have g11 := hg 11 _ rfl
    simp [cI] at g11
    obtain ⟨b11, e11, -, w11⟩ := DataW.trod_int Tryz.underlying3 g11
    simp at e11
    subst e11
    exact ⟨⟨b0, b1, b2, b3, b4, b5, b6, b7, b8, b9, b10, b11⟩, rfl⟩
set_option maxRecDepth 100000 in
theorem psw_raw {H : Type} {enc : TypeId × Value → H} {W : World} {fuel : Nat} {x : DataW H × List MemPlace} {cs : List Value} (hf : DataW.trod enc Tryz.prog W 0 (fun _ => true) true fuel 30 cs = some x) : ∃ p : Psw, cs = (pswA p).toList := by
  obtain ⟨xs, m, _, _, hl, hlen, hg⟩ := DataW.trod_struct Tryz.underlying30 hf
  match cs, hl.trans cPSW, xs, hlen with
  | [c0, c1, c2, c3, c4, c5, c6, c7, c8, c9], _, [y0, y1, y2, y3, y4, y5, y6, y7, y8, y9], _ =>
    have g0 := hg 0 _ rfl
    simp [cI] at g0
    obtain ⟨b0, e0, -, w0⟩ := DataW.trod_int Tryz.underlying3 g0
    simp at e0
    subst e0
    have g1 := hg 1 _ rfl
    simp [cI] at g1
    obtain ⟨b1, e1, -, w1⟩ := DataW.trod_int Tryz.underlying3 g1
    simp at e1
    subst e1
    have g2 := hg 2 _ rfl
    simp [cB] at g2
    obtain ⟨b2, e2, -⟩ := DataW.trod_bool Tryz.underlying4 g2
    simp at e2
    subst e2
    have g3 := hg 3 _ rfl
    simp [cB] at g3
    obtain ⟨b3, e3, -⟩ := DataW.trod_bool Tryz.underlying4 g3
    simp at e3
    subst e3
    have g4 := hg 4 _ rfl
    simp [cB] at g4
    obtain ⟨b4, e4, -⟩ := DataW.trod_bool Tryz.underlying4 g4
    simp at e4
    subst e4
    have g5 := hg 5 _ rfl
    simp [cI] at g5
    obtain ⟨b5, e5, -, w5⟩ := DataW.trod_int Tryz.underlying3 g5
    simp at e5
    subst e5
    have g6 := hg 6 _ rfl
    simp [cI] at g6
    obtain ⟨b6, e6, -, w6⟩ := DataW.trod_int Tryz.underlying3 g6
    simp at e6
    subst e6
    have g7 := hg 7 _ rfl
    simp [cI] at g7
    obtain ⟨b7, e7, -, w7⟩ := DataW.trod_int Tryz.underlying3 g7
    simp at e7
    subst e7
    have g8 := hg 8 _ rfl
    simp [cI] at g8
    obtain ⟨b8, e8, -, w8⟩ := DataW.trod_int Tryz.underlying3 g8
    simp at e8
    subst e8
    have g9 := hg 9 _ rfl
    simp [cI] at g9
    obtain ⟨b9, e9, -, w9⟩ := DataW.trod_int Tryz.underlying3 g9
    simp at e9
    subst e9
    exact ⟨⟨b0, b1, b2, b3, b4, b5, b6, b7, b8, b9⟩, rfl⟩
/-- Registers out of sixteen words. -/
def regOf (l : List Int) : Nat → Int := fun n => l.getD n 0
theorem regOf_ok (l : List Int) (h : ∀ v ∈ l, 0 ≤ v ∧ v < 4294967296) : RegOk (regOf l) := fun n => by
  unfold regOf
  rw [List.getD_eq_getElem?_getD]
  by_cases hn : n < l.length
  · rw [List.getElem?_eq_getElem hn]
    exact h _ (List.getElem_mem hn)
  · rw [List.getElem?_eq_none (by omega)]
    simp
set_option maxRecDepth 100000 in
theorem regs_raw {H : Type} {enc : TypeId × Value → H} {W : World} {fuel : Nat} {x : DataW H × List MemPlace} {cs : List Value} (hf : DataW.trod enc Tryz.prog W 0 (fun _ => true) true fuel 28 cs = some x) : ∃ R, cs = (regA R).toList ∧ RegOk R := by
  obtain ⟨xs, m, _, _, hl, hlen, hg⟩ := DataW.trod_array Tryz.underlying28 hf
  match cs, hl.trans cREG, xs, hlen with
  | [c0, c1, c2, c3, c4, c5, c6, c7, c8, c9, c10, c11, c12, c13, c14, c15], _, [y0, y1, y2, y3, y4, y5, y6, y7, y8, y9, y10, y11, y12, y13, y14, y15], _ =>
    have g0 := hg 0 (by decide)
    simp [cW] at g0
    obtain ⟨b0, e0, -, w0⟩ := DataW.trod_int Tryz.underlying26 g0
    simp at e0
    subst e0
    have g1 := hg 1 (by decide)
    simp [cW] at g1
    obtain ⟨b1, e1, -, w1⟩ := DataW.trod_int Tryz.underlying26 g1
    simp at e1
    subst e1
    have g2 := hg 2 (by decide)
    simp [cW] at g2
    obtain ⟨b2, e2, -, w2⟩ := DataW.trod_int Tryz.underlying26 g2
    simp at e2
    subst e2
    have g3 := hg 3 (by decide)
    simp [cW] at g3
    obtain ⟨b3, e3, -, w3⟩ := DataW.trod_int Tryz.underlying26 g3
    simp at e3
    subst e3
    have g4 := hg 4 (by decide)
    simp [cW] at g4
    obtain ⟨b4, e4, -, w4⟩ := DataW.trod_int Tryz.underlying26 g4
    simp at e4
    subst e4
    have g5 := hg 5 (by decide)
    simp [cW] at g5
    obtain ⟨b5, e5, -, w5⟩ := DataW.trod_int Tryz.underlying26 g5
    simp at e5
    subst e5
    have g6 := hg 6 (by decide)
    simp [cW] at g6
    obtain ⟨b6, e6, -, w6⟩ := DataW.trod_int Tryz.underlying26 g6
    simp at e6
    subst e6
    have g7 := hg 7 (by decide)
    simp [cW] at g7
    obtain ⟨b7, e7, -, w7⟩ := DataW.trod_int Tryz.underlying26 g7
    simp at e7
    subst e7
    have g8 := hg 8 (by decide)
    simp [cW] at g8
    obtain ⟨b8, e8, -, w8⟩ := DataW.trod_int Tryz.underlying26 g8
    simp at e8
    subst e8
    have g9 := hg 9 (by decide)
    simp [cW] at g9
    obtain ⟨b9, e9, -, w9⟩ := DataW.trod_int Tryz.underlying26 g9
    simp at e9
    subst e9
    have g10 := hg 10 (by decide)
    simp [cW] at g10
    obtain ⟨b10, e10, -, w10⟩ := DataW.trod_int Tryz.underlying26 g10
    simp at e10
    subst e10
    have g11 := hg 11 (by decide)
    simp [cW] at g11
    obtain ⟨b11, e11, -, w11⟩ := DataW.trod_int Tryz.underlying26 g11
    simp at e11
    subst e11
    have g12 := hg 12 (by decide)
    simp [cW] at g12
    obtain ⟨b12, e12, -, w12⟩ := DataW.trod_int Tryz.underlying26 g12
    simp at e12
    subst e12
    have g13 := hg 13 (by decide)
    simp [cW] at g13
    obtain ⟨b13, e13, -, w13⟩ := DataW.trod_int Tryz.underlying26 g13
    simp at e13
    subst e13
    have g14 := hg 14 (by decide)
    simp [cW] at g14
    obtain ⟨b14, e14, -, w14⟩ := DataW.trod_int Tryz.underlying26 g14
    simp at e14
    subst e14
    have g15 := hg 15 (by decide)
    simp [cW] at g15
    obtain ⟨b15, e15, -, w15⟩ := DataW.trod_int Tryz.underlying26 g15
    simp at e15
    subst e15
    refine ⟨regOf [b0, b1, b2, b3, b4, b5, b6, b7, b8, b9, b10, b11, b12, b13, b14, b15], rfl, regOf_ok _ (fun v hv => ?_)⟩
    simp only [List.mem_cons, List.not_mem_nil, or_false] at hv
    rcases hv with rfl | rfl | rfl | rfl | rfl | rfl | rfl | rfl | rfl | rfl | rfl | rfl | rfl | rfl | rfl | rfl
    · exact u32w w0
    · exact u32w w1
    · exact u32w w2
    · exact u32w w3
    · exact u32w w4
    · exact u32w w5
    · exact u32w w6
    · exact u32w w7
    · exact u32w w8
    · exact u32w w9
    · exact u32w w10
    · exact u32w w11
    · exact u32w w12
    · exact u32w w13
    · exact u32w w14
    · exact u32w w15
set_option maxRecDepth 100000 in
theorem ins_of {H : Type} {enc : TypeId × Value → H} {W : World} {r : Reach} {b0 : Nat} {v : Value} {d : DataW H} {ps : List MemPlace} (hv : Value.okWide Tryz.prog W r b0 25 v) (h : DataW.Trod enc Tryz.prog W 0 (fun _ => true) true 25 v d ps) : ∃ Q : Ins, v = Q.val := by
  obtain ⟨cs, rfl, hsz⟩ := okWide_struct Tryz.underlying25 hv
  obtain ⟨l⟩ := cs
  obtain ⟨fuel, hf⟩ := h
  obtain ⟨Q, hQ⟩ := ins_raw (cs := l) hf
  exact ⟨Q, by rw [hQ]; rfl⟩
/-- A part of storage that lies in memory. -/
def PartAt (w : World) (B off : Nat) : Prop := ∃ (x : Nat) (bv : Value) (b : List UInt8), w.cell? ⟨B, off, none⟩ = some (.int .u16 (x : Int)) ∧ x < 65536 ∧ w.cell? ⟨B, off + 1, none⟩ = some bv ∧ SvB w bv b
def PartsR (w : World) (p : Option Addr) (n : Nat) : Prop := n = 0 ∨ ∃ B off, p = some ⟨B, off, none⟩ ∧ ∀ i, i < n → PartAt w B (off + i * 2)
/-- The description of a storage. -/
def MemAt (w : World) (x y z : Value) : Prop := (∃ b : UInt8, x = .int .u8 (b.toNat : Int)) ∧ (∃ l, SvB w y l) ∧ ∃ (p : Option Addr) (n c : Nat), z = .slice p n c ∧ PartsR w p n
theorem addr_add (B o j : Nat) : (⟨B, o, none⟩ : Addr).add j = ⟨B, o + j, none⟩ := by
  unfold Addr.add
  split
  · simp_all
  · simp_all
theorem u16_of {a : Int} (h : (Lit.int .u16 a).wf = true) : ∃ x : Nat, a = (x : Int) ∧ x < 65536 := by
  simp [Lit.wf, IntKind.min, IntKind.max, IntKind.bits, IntKind.signed] at h
  exact ⟨a.toNat, by omega, by omega⟩
set_option maxRecDepth 100000 in
theorem parts_of {H : Type} {enc : TypeId × Value → H} {W : World} {v : Value} {fuel : Nat} {x : DataW H × List MemPlace} (hf : DataW.trod enc Tryz.prog W 0 (fun _ => true) true fuel 32 [v] = some x) : ∃ (p : Option Addr) (n c : Nat), v = .slice p n c ∧ PartsR W p n := by
  rcases open_slice Tryz.underlying32 hf with ⟨hcs, hx⟩ | ⟨a, len, cap, m, n, D, Pl, hcs, _, hl, hm, hmm, _, hel⟩
  · obtain rfl : v = .slice none 0 0 := by simpa using hcs
    exact ⟨none, 0, 0, rfl, .inl rfl⟩
  · obtain rfl : v = .slice (some a) len cap := by simpa using hcs
    simp only [if_true] at hmm
    refine ⟨some a, len, cap, rfl, ?_⟩
    by_cases h0 : len = 0
    · exact .inl h0
    · have hcells : ∀ i, i < len → ∃ cs', cs'.length = 2 ∧ (∀ q, q < 2 → W.cell? ((a.add (i * 2)).add q) = cs'[q]?) ∧ DataW.trod enc Tryz.prog W 0 (fun _ => true) true n 71 cs' = some (D i, Pl i) := fun i hi => by
        obtain ⟨cs', h1, h2⟩ := hel i (by omega)
        rw [cPRT] at h1
        obtain ⟨_, h3, h4⟩ := World.cells?_some h1
        exact ⟨cs', h3, h4, h2⟩
      obtain ⟨B, off, spot⟩ := a
      have hspot : spot = none := by
        obtain ⟨cs', h3, h4, h5⟩ := hcells 0 (by omega)
        have h6 := h4 0 (by omega)
        rw [List.getElem?_eq_getElem (by omega)] at h6
        have h7 := World.cell?_spot h6
        simp [Addr.add] at h7
        exact h7
      subst hspot
      refine .inr ⟨B, off, rfl, fun i hi => ?_⟩
      obtain ⟨cs', h3, h4, h5⟩ := hcells i hi
      obtain ⟨xs, m', _, _, _, hlen, hg⟩ := DataW.trod_struct Tryz.underlying71 h5
      match cs', h3, xs, hlen with
      | [c0, c1], _, [y0, y1], _ =>
        have k0 := hg 0 _ rfl
        have k1 := hg 1 _ rfl
        simp [cU16] at k0
        simp [cS] at k1
        obtain ⟨z0, e0, -, w0⟩ := DataW.trod_int Tryz.underlying69 k0
        simp at e0
        subst e0
        obtain ⟨X, rfl, hX⟩ := u16_of w0
        obtain ⟨b, hb⟩ := sv_raw (v := c1) k1
        have g0 := h4 0 (by omega)
        have g1 := h4 1 (by omega)
        have ha : ∀ q, ((⟨B, off, none⟩ : Addr).add (i * 2)).add q = ⟨B, off + i * 2 + q, none⟩ := fun q => by rw [addr_add, addr_add]
        rw [ha] at g0 g1
        exact ⟨X, c1, b, by simpa using g0, hX, by simpa using g1, hb⟩
set_option maxRecDepth 100000 in
theorem mem_raw {H : Type} {enc : TypeId × Value → H} {W : World} {fuel : Nat} {x : DataW H × List MemPlace} {cs : List Value} (hf : DataW.trod enc Tryz.prog W 0 (fun _ => true) true fuel 34 cs = some x) : ∃ a b c, cs = [a, b, c] ∧ MemAt W a b c := by
  obtain ⟨xs, m, _, _, hl, hlen, hg⟩ := DataW.trod_struct Tryz.underlying34 hf
  match cs, hl.trans cMEM, xs, hlen with
  | [c0, c1, c2], _, [y0, y1, y2], _ =>
    have g0 := hg 0 _ rfl
    have g1 := hg 1 _ rfl
    have g2 := hg 2 _ rfl
    simp [cU] at g0
    simp [cS] at g1
    simp [cSP] at g2
    obtain ⟨b0, e0, -, w0⟩ := DataW.trod_int Tryz.underlying5 g0
    simp at e0
    subst e0
    obtain ⟨x0, rfl⟩ := u8_of w0
    obtain ⟨b, hb⟩ := sv_raw (v := c1) g1
    obtain ⟨p, n, c, rfl, hp⟩ := parts_of g2
    exact ⟨_, _, _, rfl, ⟨x0, rfl⟩, ⟨b, hb⟩, p, n, c, rfl, hp⟩
set_option maxRecDepth 100000 in
theorem state_of {H : Type} {enc : TypeId × Value → H} {W : World} {r : Reach} {b0 : Nat} {v : Value} {d : DataW H} {ps : List MemPlace} (hv : Value.okWide Tryz.prog W r b0 36 v) (h : DataW.Trod enc Tryz.prog W 0 (fun _ => true) true 36 v d ps) : ∃ R p a b c, v = .agg ((regA R).toList ++ (pswA p).toList ++ [a, b, c]).toArray ∧ RegOk R ∧ MemAt W a b c := by
  obtain ⟨cs, rfl, hsz⟩ := okWide_struct Tryz.underlying36 hv
  obtain ⟨l⟩ := cs
  obtain ⟨fuel, hf⟩ := h
  obtain ⟨xs, m, _, _, hl, hlen, hg⟩ := DataW.trod_struct (cs := l) Tryz.underlying36 hf
  have h29 : l.length = 29 := hl.trans cSTA
  match xs, hlen with
  | [y0, y1, y2], _ =>
    have g0 := hg 0 _ rfl
    have g1 := hg 1 _ rfl
    have g2 := hg 2 _ rfl
    simp only [List.getElem?_cons_zero, List.getElem?_cons_succ] at g0 g1 g2
    obtain ⟨R, e0, hR⟩ := regs_raw g0
    obtain ⟨p, e1⟩ := psw_raw g1
    obtain ⟨a, b, c, e2, hM⟩ := mem_raw g2
    have e0 : (l.drop 0).take (Tryz.prog.cellsOf 28) = (regA R).toList := e0
    have e1 : (l.drop 16).take (Tryz.prog.cellsOf 30) = (pswA p).toList := e1
    have e2 : (l.drop 26).take (Tryz.prog.cellsOf 34) = [a, b, c] := e2
    rw [cREG, List.drop_zero] at e0
    rw [cPSW] at e1
    rw [cMEM] at e2
    refine ⟨R, p, a, b, c, ?_, hR, hM⟩
    have e : l = l.take 16 ++ (l.drop 16).take 10 ++ (l.drop 26).take 3 := by
      match l, h29 with
      | [z0, z1, z2, z3, z4, z5, z6, z7, z8, z9, z10, z11, z12, z13, z14, z15, z16, z17, z18, z19, z20, z21, z22, z23, z24, z25, z26, z27, z28], _ => rfl
    rw [← e0, ← e1, ← e2]
    exact congrArg (fun t : List Value => Value.agg t.toArray) e

end M
end Go.Proofs.YtbcncohjjnmdcaaGreatDoor
