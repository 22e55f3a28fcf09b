/- The comparison of the laws; the moves of the laws. -/
import Derived.Test.YtfopjnfphlkcgaaGreatRows
import Derived.Test.YtfopjnfphlkcgaaGreatGnRunsM
import Derived.Test.YtfopjnfphlkcgaaGreatGnSs
namespace Go.Proofs.YtfopjnfphlkcgaaGreat
open Go.RowKit Go.Shelf E
set_option linter.unusedVariables false
namespace M

theorem same9 (u v : Value) (l : List UInt8) (w : World) (hu : SvB w u l) (hv : SvB w v l) : Calls Tryz.prog 22 #[u, v] w (New w (.bool true)) := by
  obtain ⟨p, c, rfl, hp, hc1, hc2, _⟩ := hu
  obtain ⟨q, d, rfl, hq, hd1, hd2, _⟩ := hv
  have hn : l.length ≤ 9223372036854775807 := by omega
  clear hc1 hc2 hd1 hd2
  rcases hp with h0 | ⟨B, off, rfl, hc⟩
  · subst h0
    clear hq
    go_enter Tryz.func22, Tryz.ntmps22
    go_wp2
    go_loop [5] (fun i => i = .int .i64 0) (fun _ => 0)
    case atStart => rfl
    case round =>
      subst hrel
      go_wp2
      go_ret
      exact ⟨rfl, Below.refl _ _⟩
  rcases hq with h0 | ⟨B2, off2, rfl, hd⟩
  · subst h0
    clear hc
    go_enter Tryz.func22, Tryz.ntmps22
    go_wp2
    go_loop [5] (fun i => i = .int .i64 0) (fun _ => 0)
    case atStart => rfl
    case round =>
      subst hrel
      go_wp2
      go_ret
      exact ⟨rfl, Below.refl _ _⟩
  generalize hln : l.length = n at *
  have HL := Lib.hid hln; clear hln
  go_enter Tryz.func22, Tryz.ntmps22
  go_wp2
  go_loopw [5] (fun i wr => (∃ m, wr = w.drewN m) ∧ ∃ k : Nat, k ≤ n ∧ i = .int .i64 k) (fun i _ => n - (intOf i).toNat)
  case atStart => exact ⟨⟨0, rfl⟩, 0, Nat.zero_le _, rfl⟩
  case round =>
    obtain ⟨⟨m, rfl⟩, k, hk, rfl⟩ := hrel
    by_cases hlt : k < n
    · have hcell := hc k hlt
      have hcell2 := hd k hlt
      clear hc hd
      go_wp2
      go_quiet (fail)
      go_wp2
      go_roundw
      case rel => exact ⟨⟨_, rfl⟩, k + 1, by omega, by go_num⟩
      case measure => simp [intOf]; omega
    · obtain rfl : k = n := by omega
      clear hc hd
      go_wp2
      go_ret
      exact ⟨rfl, E.belowDraw _ _⟩
/-- The registers of the laws of moves. -/
def mvR (a b : Nat) : Nat → Int := fun j => if j = 14 then (a : Int) else if j = 15 then (b : Int) else 0
theorem mvR_ok (a b : Nat) (ha : a < 2048) (hb : b < 2048) : RegOk (mvR a b) := fun n => by
  unfold mvR
  split
  · omega
  · split <;> omega
theorem adF_ss (op n a b : Nat) (ha : a < 2048) : adF (ssQ op n) (mvR a b) = a := by
  show ((0 + (a : Int)) % 4294967296 % 16777216).toNat = a
  omega
theorem adT_ss (op n a b : Nat) (hb : b < 2048) : adT (ssQ op n) (mvR a b) = b := by
  show ((0 + (b : Int)) % 4294967296 % 16777216).toNat = b
  omega
theorem chk_ss (op n : Nat) (ho : op = 210 ∨ op = 215) (hn : n ≤ 256) : chkV (ssQ op n).ins = 0 := by
  rcases ho with rfl | rfl
  · exact (by decide +kernel : ∀ l : Fin 256, chkV (⟨210, 5, 0, 0, 0, 14, 0, 15, 0, l.val, 0, 0⟩ : Qn).ins = 0) ⟨n - 1, by omega⟩
  · exact (by decide +kernel : ∀ l : Fin 256, chkV (⟨215, 5, 0, 0, 0, 14, 0, 15, 0, l.val, 0, 0⟩ : Qn).ins = 0) ⟨n - 1, by omega⟩
theorem qok_ss (op n : Nat) (ho : op < 256) (hn : n ≤ 256) : QOk (ssQ op n) := ⟨ho, by simp [ssQ], by simp [ssQ], by simp [ssQ], by simp [ssQ], by simp [ssQ], by simp [ssQ], by simp [ssQ], by show n - 1 < 256; omega, by simp [ssQ], by simp [ssQ]⟩
/-- What a field becomes. -/
def ssF (op n a b : Nat) (bs : List UInt8) : List UInt8 := rpL op a b (subL bs b n) n (subL bs a n)
theorem ssF_len {op n a b : Nat} {bs : List UInt8} (h : a + n ≤ bs.length) : (ssF op n a b bs).length = n := by
  unfold ssF
  rw [rpL_len, subL_len h]
theorem rpF_ss (op n a b : Nat) (bs : List UInt8) (hn : 1 ≤ n) (ha : a < 2048) (hb : b < 2048) : rpF (ssQ op n) (mvR a b) bs = ssF op n a b bs := by
  unfold rpF ssF
  rw [adF_ss op n a b ha, adT_ss op n a b hb]
  show rpL op a b (subL bs b (n - 1 + 1)) (n - 1 + 1) (subL bs a (n - 1 + 1)) = _
  rw [show n - 1 + 1 = n by omega]
theorem ss_exec (op n a b : Nat) (cc : Int) (bs ks : List UInt8) (ho : op = 210 ∨ op = 215) (hn : 1 ≤ n) (hn2 : n ≤ 256) (ha : a + n ≤ 2048) (hb : b + n ≤ 2048) (hl : bs.length = 2048) (hok : okB (⟨0, 0, false, false, false, 0, 0, cc, 0, 0⟩ : Psw) = true) :
    ∀ A g h m w, Sto w A g h 2048 m bs ks → Calls Tryz.prog 17 #[.agg #[.int .i64 (op : Int), .int .i64 5, .int .i64 0, .int .i64 0, .int .i64 0, .int .i64 14, .int .i64 0, .int .i64 15, .int .i64 0, .int .i64 ((n : Int) - 1), .int .i64 0, .int .i64 0], .agg (regA (mvR a b)), .agg #[.int .i64 0, .int .i64 0, .bool false, .bool false, .bool false, .int .i64 0, .int .i64 0, .int .i64 cc, .int .i64 0, .int .i64 0], .pointer (some ⟨A, 0, none⟩)] w fun e w' => e = .returned (.tuple #[.agg (regA (mvR a b)), .agg #[.int .i64 0, .int .i64 0, .bool false, .bool false, .bool false, .int .i64 0, .int .i64 0, .int .i64 (if op = 215 then ccB (ssF op n a b bs) else cc), .int .i64 0, .int .i64 0], .int .i64 0]) ∧ Sto w' A g h 2048 m (E.putL bs a (ssF op n a b bs)) ks ∧ Kp w w' [g] := by
  intro A g h m w hst
  have hR := mvR_ok a b (by omega) (by omega)
  have h256 : op < 256 := by rcases ho with rfl | rfl <;> decide
  have hq := qok_ss op n h256 hn2
  have hF := rpF_ss op n a b bs hn (by omega) (by omega)
  have e1 := adF_ss op n a b (by omega)
  have e2 := adT_ss op n a b (by omega)
  have hC : rpC (ssQ op n) (mvR a b) (⟨0, 0, false, false, false, 0, 0, cc, 0, 0⟩ : Psw) 2048 ks = 0 := by
    unfold rpC
    rw [e1, e2]
    show (if codeV (ftP 0) 2048 ks (a : Int) ((n - 1 + 1 : Nat) : Int) = 0 then (if codeV (ftP 0) 2048 ks (b : Int) ((n - 1 + 1 : Nat) : Int) = 0 then codeV (stP 0) 2048 ks (a : Int) ((n - 1 + 1 : Nat) : Int) else codeV (ftP 0) 2048 ks (b : Int) ((n - 1 + 1 : Nat) : Int)) else codeV (ftP 0) 2048 ks (a : Int) ((n - 1 + 1 : Nat) : Int)) = 0
    rw [if_pos (code_zero ftP_zero (by omega)), if_pos (code_zero ftP_zero (by omega))]
    exact code_zero stP_zero (by omega)
  have hP : putB (stP 0) 2048 bs ks (a : Int) (ssF op n a b bs) = E.putL bs a (ssF op n a b bs) := by
    unfold putB
    rw [ssF_len (by omega), if_pos (code_zero stP_zero (by omega)), Int.toNat_natCast]
  have hr : Runs (ssQ op n) (mvR a b) (⟨0, 0, false, false, false, 0, 0, cc, 0, 0⟩ : Psw) 2048 bs ks (.go (mvR a b) (⟨0, 0, false, false, false, 0, 0, (if op = 215 then ccB (ssF op n a b bs) else cc), 0, 0⟩ : Psw) 0 (E.putL bs a (ssF op n a b bs))) := by
    rcases ho with rfl | rfl
    · have h1 := mv_210 (ssQ 210 n) (mvR a b) (⟨0, 0, false, false, false, 0, 0, cc, 0, 0⟩ : Psw) 2048 bs ks hR hq rfl
      rw [hC, e1, hF] at h1
      unfold rpP at h1
      rw [if_neg (by show ¬ (210 = 212 ∨ 210 = 214 ∨ 210 = 215); decide)] at h1
      have h2 : regO 0 (mvR a b) (⟨0, 0, false, false, false, 0, 0, cc, 0, 0⟩ : Psw) 0 (putB (stP 0) 2048 bs ks (a : Int) (ssF 210 n a b bs)) = .go (mvR a b) (⟨0, 0, false, false, false, 0, 0, cc, 0, 0⟩ : Psw) 0 (E.putL bs a (ssF 210 n a b bs)) := by rw [hP]; rfl
      rw [if_neg (by decide), ← h2]
      exact h1
    · have h1 := mv_215 (ssQ 215 n) (mvR a b) (⟨0, 0, false, false, false, 0, 0, cc, 0, 0⟩ : Psw) 2048 bs ks hR hq rfl
      rw [hC, e1, hF] at h1
      unfold rpP at h1
      rw [if_pos (by show (215 = 212 ∨ 215 = 214 ∨ 215 = 215); decide), hF] at h1
      have h2 : regO 0 (mvR a b) (⟨0, 0, false, false, false, 0, 0, (ccB (ssF 215 n a b bs)), 0, 0⟩ : Psw) 0 (putB (stP 0) 2048 bs ks (a : Int) (ssF 215 n a b bs)) = .go (mvR a b) (⟨0, 0, false, false, false, 0, 0, (ccB (ssF 215 n a b bs)), 0, 0⟩ : Psw) 0 (E.putL bs a (ssF 215 n a b bs)) := by rw [hP]; rfl
      rw [if_pos rfl, ← h2]
      exact h1
  have h3 := exec_of hst (chk_ss op n ho hn2) hok hr
  have h4 : (ssQ op n).ins.val = .agg #[.int .i64 (op : Int), .int .i64 5, .int .i64 0, .int .i64 0, .int .i64 0, .int .i64 14, .int .i64 0, .int .i64 15, .int .i64 0, .int .i64 ((n : Int) - 1), .int .i64 0, .int .i64 0] := by
    show Value.agg #[.int .i64 (op : Int), .int .i64 5, .int .i64 0, .int .i64 0, .int .i64 0, .int .i64 14, .int .i64 0, .int .i64 15, .int .i64 0, .int .i64 ((n - 1 : Nat) : Int), .int .i64 0, .int .i64 0] = _
    rw [show ((n - 1 : Nat) : Int) = (n : Int) - 1 by omega]
  rw [h4] at h3
  refine h3.mono ?_
  rintro e w' ⟨rfl, h1, h2⟩
  exact ⟨rfl, h1, h2⟩
theorem ext_gt {a b : List UInt8} (h : a.length = b.length) (hg : ∀ j, j < b.length → gt a j = gt b j) : a = b := by
  refine List.ext_getElem h (fun j h1 h2 => ?_)
  have := hg j h2
  unfold gt at this
  simpa [List.getD_eq_getElem?_getD, List.getElem?_eq_getElem h1, List.getElem?_eq_getElem h2] using this
theorem subL_put {l b : List UInt8} {a : Nat} (h : a + b.length ≤ l.length) : subL (E.putL l a b) a b.length = b := by
  unfold subL E.putL
  rw [List.drop_append, List.drop_eq_nil_of_le (by rw [List.length_take]; omega), List.nil_append, List.length_take, Nat.min_eq_left (by omega), Nat.sub_self, List.drop_zero, List.take_append_of_le_length (Nat.le_refl _), List.take_length]
theorem subL_at {l b : List UInt8} {a : Nat} {k : Nat} (hk : b.length = k) (h : a + k ≤ l.length) : subL (E.putL l a b) a k = b := by
  subst hk
  exact subL_put h
theorem subL_far {l b : List UInt8} {a c k : Nat} (h : a + b.length ≤ l.length) (hc : c + k ≤ l.length) (hd : c + k ≤ a ∨ a + b.length ≤ c) : subL (E.putL l a b) c k = subL l c k := by
  refine ext_gt (by rw [subL_len (by rw [putL_len h]; exact hc), subL_len hc]) (fun j hj => ?_)
  rw [subL_len hc] at hj
  rw [gt_subL j hj, gt_subL j hj, gt_putL h, if_neg (by omega)]
/-- Bytes are moved to where they do not overlap. -/
theorem ssF_move {n a b : Nat} {bs : List UInt8} (ha : a + n ≤ bs.length) (hb : b + n ≤ bs.length) (h : b + n ≤ a ∨ a + n ≤ b) : ssF 210 n a b bs = subL bs b n := by
  refine ext_gt (by rw [ssF_len ha, subL_len hb]) (fun j hj => ?_)
  rw [subL_len hb] at hj
  unfold ssF
  have hl := subL_len ha
  rw [rpL_apart 210 a b _ _ (by rw [hl]; exact h) n (by omega) j, if_pos hj]
  rfl
theorem ssF_xor {n a b : Nat} {bs : List UInt8} (ha : a + n ≤ bs.length) (hb : b + n ≤ bs.length) (h : b + n ≤ a ∨ a + n ≤ b) (j : Nat) (hj : j < n) : gt (ssF 215 n a b bs) j = gt (subL bs a n) j ^^^ gt (subL bs b n) j := by
  unfold ssF
  have hl := subL_len ha
  rw [rpL_apart 215 a b _ _ (by rw [hl]; exact h) n (by omega) j, if_pos hj]
  rfl
theorem ssF_spread {n b : Nat} {bs : List UInt8} (ha : b + 1 + n ≤ bs.length) (j : Nat) (hj : j < n) : gt (ssF 210 n (b + 1) b bs) j = gt (subL bs b n) 0 := by
  unfold ssF
  have hl := subL_len ha
  rw [rpL_spread b _ _ n (by omega) j, if_pos hj]
theorem ssF_self {n a : Nat} {bs : List UInt8} (ha : a + n ≤ bs.length) : ssF 215 n a a bs = List.replicate n 0 := by
  refine ext_gt (by rw [ssF_len ha, List.length_replicate]) (fun j hj => ?_)
  rw [List.length_replicate] at hj
  unfold ssF
  have hl := subL_len ha
  rw [rpL_self a _ _ n (by omega) j, if_pos hj]
  unfold gt
  simp [List.getD_eq_getElem?_getD, hj]

end M
end Go.Proofs.YtfopjnfphlkcgaaGreat
