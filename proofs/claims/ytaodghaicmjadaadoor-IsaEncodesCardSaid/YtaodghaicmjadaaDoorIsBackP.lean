/- An instruction comes back from its bytes; what was decoded is valid. -/
import Derived.Test.YtaodghaicmjadaaDoorIsDecode
namespace Go.Proofs.YtaodghaicmjadaaDoor
open Go.RowKit Go.Shelf
set_option linter.unusedVariables false
namespace E

/-- The fields of a format, taken over from Q. -/
def takeF (Q : Ins) (S : Ins) (f : Option Nat × Nat) : Ins := fs S f.1 (fv Q f.1)
theorem en_split (Q : Ins) (l : List (Option Nat × Nat)) (a : Nat) : l.foldl (enStep Q) a = a * 2 ^ bitsN l + l.foldl (enStep Q) 0 := by
  induction l generalizing a with
  | nil => simp [bitsN]
  | cons f l ih =>
    have e : bitsN (f :: l) = f.2 + bitsN l := by simp [bitsN]
    rw [List.foldl_cons, List.foldl_cons, ih, ih (enStep Q 0 f), e, Nat.pow_add]
    unfold enStep
    rw [Nat.zero_mul, Nat.zero_add, Nat.add_mul, Nat.mul_assoc, Nat.add_assoc]
theorem en_zero_lt (Q : Ins) (l : List (Option Nat × Nat)) (h : ∀ f ∈ l, inR (fv Q f.1) f.2 = true) : l.foldl (enStep Q) 0 < 2 ^ bitsN l := by
  have := en_from Q l 0 h
  rwa [Nat.zero_add, Nat.one_mul] at this
theorem dc_back (Q : Ins) (l : List (Option Nat × Nat)) (h : ∀ f ∈ l, inR (fv Q f.1) f.2 = true) (hi : Nat) (S : Ins) :
    l.foldl (dcStep (hi * 2 ^ bitsN l + l.foldl (enStep Q) 0)) (bitsN l, S) = (0, l.foldl (takeF Q) S) := by
  induction l generalizing hi S with
  | nil => simp [bitsN]
  | cons f l ih =>
    have e : bitsN (f :: l) = f.2 + bitsN l := by simp [bitsN]
    have hl : ∀ g ∈ l, inR (fv Q g.1) g.2 = true := fun g hg => h g (List.mem_cons_of_mem _ hg)
    have hf := of_decide_eq_true (p := 0 ≤ fv Q f.1 ∧ fv Q f.1 < 2 ^ f.2) (h f (List.mem_cons_self ..))
    obtain ⟨v, hv⟩ : ∃ v : Nat, fv Q f.1 = (v : Int) := ⟨(fv Q f.1).toNat, by omega⟩
    have hvb : v < 2 ^ f.2 := by
      have := hf.2
      rw [hv] at this
      exact_mod_cast this
    have hR := en_zero_lt Q l hl
    have hwd : hi * 2 ^ bitsN (f :: l) + (f :: l).foldl (enStep Q) 0 = (hi * 2 ^ f.2 + v) * 2 ^ bitsN l + l.foldl (enStep Q) 0 := by
      rw [e, Nat.pow_add, List.foldl_cons, en_split]
      unfold enStep
      rw [hv, Nat.zero_mul, Nat.zero_add, Nat.add_mul, ← Nat.mul_assoc, Nat.add_assoc]
      rfl
    rw [hwd, List.foldl_cons, List.foldl_cons]
    have hst : dcStep ((hi * 2 ^ f.2 + v) * 2 ^ bitsN l + l.foldl (enStep Q) 0) (bitsN (f :: l), S) f = (bitsN l, takeF Q S f) := by
      unfold dcStep takeF
      have e2 : bitsN (f :: l) - f.2 = bitsN l := by omega
      dsimp only
      rw [e2]
      have e3 : ((hi * 2 ^ f.2 + v) * 2 ^ bitsN l + l.foldl (enStep Q) 0) / 2 ^ bitsN l = hi * 2 ^ f.2 + v := by
        rw [Nat.mul_comm, Nat.mul_add_div (Nat.two_pow_pos _), Nat.div_eq_of_lt hR, Nat.add_zero]
      rw [e3, Nat.mul_comm hi, Nat.mul_add_mod, Nat.mod_eq_of_lt hvb, hv]
    rw [hst]
    exact ih hl _ _
theorem take_all (F : Nat) (Q : Ins) (h : okB F Q = true) : (fldsT F).foldl (takeF Q) Q.hd = Q := by
  unfold okB at h
  unfold fldsT at h ⊢
  obtain ⟨op, fo, r1, r2, x2, b1, d1, b2, d2, l1, l2, i2⟩ := Q
  split at h <;> simp_all [ckStep, takeF, fs, fv, Ins.set, Ins.get, Ins.hd]
theorem dcQ_ok (op : Int) (F wd : Nat) : okB F (dcQ op (F : Int) F wd) = true ∧ (dcQ op (F : Int) F wd).op = op ∧ (dcQ op (F : Int) F wd).fo = (F : Int) := by
  unfold okB dcQ
  unfold fldsT
  have h4 : ∀ x : Int, inR (x % 16) 4 = true := fun x => decide_eq_true (p := 0 ≤ x % 16 ∧ x % 16 < 2 ^ 4) (by omega)
  have h8 : ∀ x : Int, inR (x % 256) 8 = true := fun x => decide_eq_true (p := 0 ≤ x % 256 ∧ x % 256 < 2 ^ 8) (by omega)
  have h12 : ∀ x : Int, inR (x % 4096) 12 = true := fun x => decide_eq_true (p := 0 ≤ x % 4096 ∧ x % 4096 < 2 ^ 12) (by omega)
  have z4 : inR 0 4 = true := rfl
  have z8 : inR 0 8 = true := rfl
  split <;> simp [ckStep, dcStep, fs, fv, Ins.set, Ins.get, Ins.hd, h4, h8, h12, z4, z8, bitsN]
/-- The bytes of an instruction. -/
def bytesOf (Q : Ins) : List UInt8 := lastB (enW (foO (ixC Q.op)) Q) (lenO Q.op)
theorem bytes_len (Q : Ins) : (bytesOf Q).length = lenO Q.op := lastT_len _ _ _
theorem lastB_head (a n : Nat) (h : 1 ≤ n) (tail : List UInt8) : gt (lastB a n ++ tail) 0 = byN a (n - 1) := by
  have hl : (lastB a n).length = n := lastT_len a n n
  unfold gt
  rw [List.getD_eq_getElem?_getD, List.getElem?_append_left (by omega), List.getElem?_eq_getElem (by omega)]
  simp [lastB, lastT]
theorem numB_bytes (a n : Nat) : numB ((List.range n).map fun i => byN a (n - 1 - i)) = a % 256 ^ n := by
  induction n with
  | zero => simp [numB, Nat.mod_one]
  | succ n ih =>
    -- the first byte is the highest one
    have h : ∀ (l : List UInt8) (c : Nat), l.foldl (fun a x => a * 256 + x.toNat) c = c * 256 ^ l.length + numB l := by
      intro l
      induction l with
      | nil => intro c; simp [numB]
      | cons x l il =>
        intro c
        unfold numB
        rw [List.foldl_cons, List.foldl_cons, il, il (0 * 256 + x.toNat), List.length_cons, Nat.pow_succ]
        rw [Nat.add_mul, Nat.zero_mul, Nat.zero_add, Nat.mul_assoc, Nat.mul_comm 256, Nat.add_assoc]
    rw [List.range_succ_eq_map, List.map_cons, List.map_map]
    have e : ((fun i => byN a (n + 1 - 1 - i)) ∘ Nat.succ) = fun i => byN a (n - 1 - i) := by
      funext i
      simp only [Function.comp]
      congr 1
      omega
    rw [e]
    unfold numB
    rw [List.foldl_cons, h, ih, List.length_map, List.length_range, Nat.zero_mul, Nat.zero_add, byN_nat]
    simp only [Nat.add_sub_cancel, Nat.sub_zero]
    rw [Nat.pow_succ, Nat.mod_mul, Nat.add_comm, Nat.mul_comm]
theorem numB_last (a n : Nat) (h : 1 ≤ n) (tail : List UInt8) : numB (((lastB a n ++ tail).drop 1).take (n - 1)) = a % 256 ^ (n - 1) := by
  have hl : (lastB a n).length = n := lastT_len a n n
  have h1 : ((lastB a n ++ tail).drop 1).take (n - 1) = (lastB a n).drop 1 := by
    rw [List.drop_append_of_le_length (by omega), List.take_append_of_le_length (by rw [List.length_drop]; omega), List.take_of_length_le (by rw [List.length_drop]; omega)]
  obtain ⟨m, rfl⟩ : ∃ m, n = m + 1 := ⟨n - 1, by omega⟩
  have h2 : (lastB a (m + 1)).drop 1 = (List.range m).map fun i => byN a (m - 1 - i) := by
    refine List.ext_getElem (by rw [List.length_drop, hl]; simp) fun i h3 h4 => ?_
    rw [List.getElem_drop]
    simp only [lastB, lastT, List.getElem_map, List.getElem_range]
    rw [if_pos (by omega)]
    congr 1
    omega
  rw [h1, h2, Nat.add_sub_cancel]
  exact numB_bytes a m
theorem chk_tot {Q : Ins} (h : chkV Q = 0) : 8 * (lenO Q.op - 1) = bitsN (fldsT (foO (ixC Q.op))) ∧ (ixC Q.op).isSome = true := by
  have h1 : foB Q = true := by
    cases e : foB Q with
    | true => rfl
    | false => unfold chkV at h; rw [e] at h; simp at h
  unfold foB at h1
  simp only [Bool.and_eq_true] at h1
  refine ⟨?_, h1.1⟩
  cases e : ixC Q.op with
  | none => rw [e] at h1; simp at h1
  | some k =>
    obtain ⟨hk, hop⟩ := ixC_some e
    rw [← hop]
    exact of_decide_eq_true (all97 tot_all hk)
theorem en_head {Q : Ins} (h : chkV Q = 0) : byN (enW (foO (ixC Q.op)) Q) (lenO Q.op - 1) = UInt8.ofNat Q.op.toNat ∧ enW (foO (ixC Q.op)) Q % 256 ^ (lenO Q.op - 1) = (fldsT (foO (ixC Q.op))).foldl (enStep Q) 0 ∧ (fldsT (foO (ixC Q.op))).foldl (enStep Q) 0 < 256 ^ (lenO Q.op - 1) := by
  obtain ⟨F, hF, hF1, hF9, hfo, hok, hrg, ho0, ho1⟩ := chk_zero h
  obtain ⟨ht, _⟩ := chk_tot h
  rw [← hF] at ht ⊢
  have hr := en_zero_lt Q (fldsT F) (fun f hf => List.all_eq_true.1 hrg f hf)
  have h256 : (256 : Nat) ^ (lenO Q.op - 1) = 2 ^ bitsN (fldsT F) := by rw [← ht, Nat.pow_mul]
  unfold enW
  rw [en_split, h256]
  refine ⟨?_, ?_, hr⟩
  · refine UInt8.toNat_inj.1 ?_
    rw [byN_nat, h256, Nat.mul_comm, Nat.mul_add_div (Nat.two_pow_pos _), Nat.div_eq_of_lt hr, Nat.add_zero]
    simp
  · rw [Nat.mul_comm, Nat.mul_add_mod, Nat.mod_eq_of_lt hr]
/-- A valid instruction is decoded from its bytes, whatever follows. -/
theorem back {Q : Ins} (h : chkV Q = 0) (tail : List UInt8) : decB (bytesOf Q ++ tail) = true ∧ decQ (bytesOf Q ++ tail) = Q := by
  obtain ⟨F, hF, hF1, hF9, hfo, hok, hrg, ho0, ho1⟩ := chk_zero h
  obtain ⟨ht, hsm⟩ := chk_tot h
  obtain ⟨e1, e2, e3⟩ := en_head h
  have hlen := len_pos ho0 ho1
  have hg : (gt (bytesOf Q ++ tail) 0).toNat = Q.op.toNat := by
    unfold bytesOf
    rw [lastB_head _ _ (by omega), e1]
    simp
    omega
  have hgi : (((gt (bytesOf Q ++ tail) 0).toNat : Nat) : Int) = Q.op := by rw [hg]; omega
  have hB : decB (bytesOf Q ++ tail) = true := by
    unfold decB
    rw [hgi, hsm]
    have h1 : (bytesOf Q ++ tail).length = lenO Q.op + tail.length := by rw [List.length_append, bytes_len]
    rw [h1, decide_eq_true (by omega), decide_eq_true (by omega)]
    rfl
  refine ⟨hB, ?_⟩
  unfold decQ
  rw [if_pos hB, hgi, ← hF]
  have hn : numB (((bytesOf Q ++ tail).drop 1).take (lenO Q.op - 1)) = (fldsT F).foldl (enStep Q) 0 := by
    unfold bytesOf
    rw [numB_last _ _ (by omega), e2, hF]
  rw [hn]
  unfold dcQ
  have := dc_back Q (fldsT F) (fun f hf => List.all_eq_true.1 hrg f hf) 0 Q.hd
  rw [Nat.zero_mul, Nat.zero_add] at this
  have hhd : (⟨Q.op, (F : Int), 0, 0, 0, 0, 0, 0, 0, 0, 0, 0⟩ : Ins) = Q.hd := by unfold Ins.hd; rw [hfo]
  rw [hhd, this]
  exact take_all F Q hok
/-- A decoded instruction is valid. -/
theorem again {l : List UInt8} (h : decB l = true) : chkV (decQ l) = 0 ∧ (decQ l).op = ((gt l 0).toNat : Int) := by
  obtain ⟨h1, h2, h3⟩ := dcQ_ok ((gt l 0).toNat : Int) (foO (ixC ((gt l 0).toNat : Int))) (numB ((l.drop 1).take (lenO ((gt l 0).toNat : Int) - 1)))
  have hsm : (ixC ((gt l 0).toNat : Int)).isSome = true := by
    unfold decB at h
    simp only [Bool.and_eq_true] at h
    exact h.1.2
  unfold decQ
  rw [if_pos h]
  refine ⟨?_, h2⟩
  unfold chkV foB
  rw [h2, h3, hsm, h1]
  simp

end E
end Go.Proofs.YtaodghaicmjadaaDoor
