/- What is found in the table: by an operation code, by a mnemonic. -/
import Derived.Test.YtaodghaicmjadaaDoorIsSearch
namespace Go.Proofs.YtaodghaicmjadaaDoor
open Go.RowKit Go.Shelf
set_option linter.unusedVariables false
namespace E

theorem row_str (k : Nat) : (⟨(rowL k).toArray⟩ : ByteArray) = rowS k := rfl
set_option maxRecDepth 100000 in
theorem withCode_any (op : Int) (w : World) : Calls Tryd.prog 31 #[.int .i64 op] w (New w (srV (ixC op))) := by
  by_cases ho : op < 0 ∨ 255 < op
  · rw [ixC_out ho]
    by_cases h1 : op < 0
    · clear ho
      go_enter Tryd.func31, Tryd.ntmps31
      go_wp2
      go_ret2
      exact ⟨rfl, Below.refl _ _⟩
    · have h2 : 255 < op := by omega
      clear ho
      go_enter Tryd.func31, Tryd.ntmps31
      go_wp2
      go_ret2
      exact ⟨rfl, Below.refl _ _⟩
  · obtain ⟨n, rfl⟩ : ∃ n : Nat, op = (n : Int) := ⟨op.toNat, by omega⟩
    have hn : n < 256 := by omega
    have hx : (UInt8.ofNat n).toNat = n := by simp; omega
    have hs0 : ∀ W, Calls Tryd.prog 48 #[.int .i64 0, .string ⟨#[UInt8.ofNat n]⟩] W (New W (srV (ixC (n : Int)))) := fun W => by
      rw [← ixR_op n hn]
      exact search_any 0 ⟨#[UInt8.ofNat n]⟩ [UInt8.ofNat n] W rfl (by simp)
    have HS := Lib.hid hs0
    have hrd : Rd (w.alloc (.cells #[.int .u8 (n : Int)] 5)) (some ⟨w.heap.size, 0, none⟩) [UInt8.ofNat n] := by
      have := rd_new w [UInt8.ofNat n] 5
      unfold bsU at this
      rw [List.map_cons, List.map_nil, hx] at this
      exact this
    have hcv : (Go.convert 29 9 (.slice (some ⟨w.heap.size, 0, none⟩) 1 1)).run Tryd.prog (w.alloc (.cells #[.int .u8 (n : Int)] 5)) = .ok (.string ⟨#[UInt8.ofNat n]⟩) (w.alloc (.cells #[.int .u8 (n : Int)] 5)) := conv_rd (c := 1) hrd
    have hb := below_new w (.cells #[.int .u8 (n : Int)] 5)
    have HB := Lib.hid hb
    have hnI : (n : Int) ≤ 255 := by omega
    clear ho hx hrd hb hn hs0
    go_enter Tryd.func31, Tryd.ntmps31
    go_wp2_with fail
    refine (HS.out _).mono ?_
    rintro e w2 ⟨rfl, hb2⟩
    have HB2 := Lib.hid (bel0 HB.out hb2)
    clear hb2 hcv
    unfold srV
    go_wp2
    go_ret2
    exact ⟨rfl, HB2.out⟩
theorem search_long {l : List UInt8} (h : ¬ l.length ≤ 4) : fndN l = none := by unfold fndN; rw [if_neg h]
set_option maxRecDepth 100000 in
theorem withName_any (s : ByteArray) (l : List UInt8) (w : World) (hs : s.data.toList = l) (hn : l.length ≤ 140737488355328) : Calls Tryd.prog 40 #[.string s] w (New w (srV (ixN l))) := by
  have hz : s.size = l.length := by rw [← hs]; rfl
  rw [← fndN_eq]
  by_cases h4 : l.length ≤ 4
  · obtain ⟨n, hnn⟩ : ∃ n, n = 4 - l.length := ⟨_, rfl⟩
    have hn4 : n ≤ 4 := by omega
    have HR := Lib.hid (fun W => repeat_few n hn4 W)
    have hpl : (s ++ (⟨(List.replicate n 32).toArray⟩ : ByteArray)).data.toList = padL l := by
      rw [ByteArray.data_append]
      simp [hs, padL, hnn]
    obtain ⟨t, ht⟩ : ∃ t : ByteArray, t = ⟨(List.replicate n 32).toArray⟩ := ⟨_, rfl⟩
    rw [← ht] at hpl
    have hs0 : ∀ W, Calls Tryd.prog 48 #[.int .i64 2, .string (s ++ t)] W (New W (srV (ixR 2 (padL l)))) := fun W => search_any 2 (s ++ t) (padL l) W hpl (by rw [pad_len h4]; omega)
    have HS := Lib.hid hs0
    have htz : (t.size : Int) ≤ 4 := by
      have : t.size = n := by rw [ht]; show (List.replicate n (32 : UInt8)).toArray.size = n; simp
      omega
    rw [← ht] at HR
    clear hs0
    have hsub : 4 - (s.size : Int) = (n : Int) := by rw [hz]; omega
    have hsn : (0 : Int) ≤ (n : Int) := by omega
    have hsn2 : (n : Int) ≤ 4 := by omega
    obtain ⟨m, hm⟩ : ∃ m, m = s.size := ⟨_, rfl⟩
    have hm4 : (m : Int) ≤ 4 := by omega
    have hnm : n + m = 4 := by omega
    obtain ⟨r, hr⟩ : ∃ r, r = ixR 2 (padL l) := ⟨_, rfl⟩
    have hf : fndN l = if r.isSome && nmO r == l then r else none := by unfold fndN; rw [if_pos h4, ← hr]
    rw [← hr] at HS
    have HF := Lib.hid hf
    have HRR := Lib.hid hr
    have HSS := Lib.hid hs
    have HSZ := Lib.hid hm
    have hsz4 : (s.size : Int) ≤ 4 := by omega
    have HSUB := Lib.hid hsub
    clear hs hz hnn hpl hf hm hr h4 hn ht hsub hm4 hnm hn4
    go_enter Tryd.func40, Tryd.ntmps40
    go_wp2_with fail
    rw [HSUB.out]
    refine (HR.out _).mono ?_
    rintro e w' ⟨rfl, rfl⟩
    go_wp2_with fail
    refine (HS.out _).mono ?_
    rintro e w2 ⟨rfl, hb2⟩
    have HB2 := Lib.hid hb2
    clear hb2
    cases r with
    | none =>
      have hfn : fndN l = none := by rw [HF.out]; rfl
      have HFN := Lib.hid hfn
      clear hfn
      unfold srV
      go_wp2
      go_ret2
      exact ⟨by rw [HFN.out]; rfl, HB2.out⟩
    | some k =>
      have hk : k < 97 := List.mem_range.1 (List.mem_of_find?_eq_some HRR.out.symm)
      have HN := Lib.hid (fun W => name_row k hk W)
      obtain ⟨t2, ht2⟩ : ∃ t2 : ByteArray, t2 = ⟨(nmK k).toArray⟩ := ⟨_, rfl⟩
      rw [← ht2] at HN
      by_cases he : nmK k = l
      · have hfn : fndN l = some k := by rw [HF.out]; simp [nmO, he]
        have HFN := Lib.hid hfn
        have hse : (t2.toList == s.toList) = true := by
          rw [beq_iff_eq, Lib.toList_data, Lib.toList_data, HSS.out, ht2]
          exact he
        clear hfn he ht2
        unfold srV rowO
        simp only [row_str, Option.isSome_some]
        go_wp2_with fail
        refine (HN.out _).mono ?_
        rintro e w' ⟨rfl, rfl⟩
        go_wp2
        go_ret2
        exact ⟨by rw [HFN.out]; rfl, HB2.out⟩
      · have hfn : fndN l = none := by rw [HF.out]; simp [nmO, he]
        have HFN := Lib.hid hfn
        have hse : (t2.toList == s.toList) = false := by
          rw [beq_eq_false_iff_ne, Lib.toList_data, Lib.toList_data, HSS.out, ht2]
          exact he
        clear hfn he ht2
        unfold srV rowO
        simp only [row_str, Option.isSome_some]
        go_wp2_with fail
        refine (HN.out _).mono ?_
        rintro e w' ⟨rfl, rfl⟩
        go_wp2
        go_ret2
        exact ⟨by rw [HFN.out]; rfl, HB2.out⟩
  · rw [search_long h4]
    have h5 : ¬ (s.size : Int) ≤ 4 := by omega
    clear hs h4 hz
    go_enter Tryd.func40, Tryd.ntmps40
    go_wp2
    go_ret2
    exact ⟨rfl, Below.refl _ _⟩
/-- What Form, Name, Find and Privileged answer. -/
def formV (o : Option Nat) : Value := .tuple #[.int .i64 (foO o : Int), .bool o.isSome]
def findV (o : Option Nat) : Value := .tuple #[.int .i64 (opO o : Int), .bool o.isSome]
def nameV (o : Option Nat) : Value := .string ⟨(nmO o).toArray⟩
theorem form_any (op : Int) (w : World) : Calls Tryd.prog 10 #[.int .i64 op] w (New w (formV (ixC op))) := by
  obtain ⟨o, ho⟩ : ∃ o, o = ixC op := ⟨_, rfl⟩
  have H := Lib.hid (withCode_any op w)
  have hk : ∀ k, o = some k → k < 97 := fun k h => (ixC_some (ho.symm.trans h)).1
  rw [← ho] at H ⊢
  clear ho
  cases o with
  | none =>
    clear hk
    unfold srV rowO formV foO at *
    go_enter Tryd.func10, Tryd.ntmps10
    go_wp2_with fail
    refine H.out.mono ?_
    rintro e w2 ⟨rfl, hb2⟩
    have HB := Lib.hid hb2
    clear hb2
    go_wp2
    go_ret2
    exact ⟨rfl, HB.out⟩
  | some k =>
    have HN := Lib.hid (fun W => form_row k (hk k rfl) W)
    clear hk
    unfold srV rowO formV foO at *
    simp only [row_str, Option.isSome_some] at H
    go_enter Tryd.func10, Tryd.ntmps10
    go_wp2_with fail
    refine H.out.mono ?_
    rintro e w2 ⟨rfl, hb2⟩
    have HB := Lib.hid hb2
    clear hb2
    go_wp2_with fail
    refine (HN.out _).mono ?_
    rintro e w' ⟨rfl, rfl⟩
    go_wp2
    go_ret2
    exact ⟨rfl, HB.out⟩
theorem name_any (op : Int) (w : World) : Calls Tryd.prog 26 #[.int .i64 op] w (New w (nameV (ixC op))) := by
  obtain ⟨o, ho⟩ : ∃ o, o = ixC op := ⟨_, rfl⟩
  have H := Lib.hid (withCode_any op w)
  have hk : ∀ k, o = some k → k < 97 := fun k h => (ixC_some (ho.symm.trans h)).1
  rw [← ho] at H ⊢
  clear ho
  cases o with
  | none =>
    clear hk
    unfold srV rowO nameV nmO at *
    go_enter Tryd.func26, Tryd.ntmps26
    go_wp2_with fail
    refine H.out.mono ?_
    rintro e w2 ⟨rfl, hb2⟩
    have HB := Lib.hid hb2
    clear hb2
    go_wp2
    go_ret
    exact ⟨rfl, HB.out⟩
  | some k =>
    have HN := Lib.hid (fun W => name_row k (hk k rfl) W)
    clear hk
    unfold srV rowO nameV nmO at *
    simp only [row_str, Option.isSome_some] at H
    generalize (⟨(nmK k).toArray⟩ : ByteArray) = t2 at *
    go_enter Tryd.func26, Tryd.ntmps26
    go_wp2_with fail
    refine H.out.mono ?_
    rintro e w2 ⟨rfl, hb2⟩
    have HB := Lib.hid hb2
    clear hb2
    go_wp2_with fail
    refine (HN.out _).mono ?_
    rintro e w' ⟨rfl, rfl⟩
    go_wp2
    go_ret
    exact ⟨rfl, HB.out⟩
theorem priv_any (op : Int) (w : World) : Calls Tryd.prog 28 #[.int .i64 op] w (New w (.bool ((ixC op).isSome && pvO (opO (ixC op))))) := by
  obtain ⟨o, ho⟩ : ∃ o, o = ixC op := ⟨_, rfl⟩
  have H := Lib.hid (withCode_any op w)
  have hk : ∀ k, o = some k → k < 97 := fun k h => (ixC_some (ho.symm.trans h)).1
  rw [← ho] at H ⊢
  clear ho
  cases o with
  | none =>
    clear hk
    unfold srV rowO opO at *
    go_enter Tryd.func28, Tryd.ntmps28
    go_wp2_with fail
    refine H.out.mono ?_
    rintro e w2 ⟨rfl, hb2⟩
    have HB := Lib.hid hb2
    clear hb2
    go_wp2
    go_ret
    exact ⟨rfl, HB.out⟩
  | some k =>
    have HN := Lib.hid (fun W => star_row k (hk k rfl) W)
    clear hk
    unfold srV rowO opO at *
    simp only [row_str, Option.isSome_some, Bool.true_and] at *
    generalize pvO (opK k) = b at *
    go_enter Tryd.func28, Tryd.ntmps28
    go_wp2_with fail
    refine H.out.mono ?_
    rintro e w2 ⟨rfl, hb2⟩
    have HB := Lib.hid hb2
    clear hb2
    go_wp2_with fail
    refine (HN.out _).mono ?_
    rintro e w' ⟨rfl, rfl⟩
    go_wp2
    go_ret
    exact ⟨by simp, HB.out⟩
theorem find_any (s : ByteArray) (l : List UInt8) (w : World) (hs : s.data.toList = l) (hn : l.length ≤ 140737488355328) : Calls Tryd.prog 22 #[.string s] w (New w (findV (ixN l))) := by
  obtain ⟨o, ho⟩ : ∃ o, o = ixN l := ⟨_, rfl⟩
  have H := Lib.hid (withName_any s l w hs hn)
  have hk : ∀ k, o = some k → k < 97 := fun k h => (ixN_some (ho.symm.trans h)).1
  rw [← ho] at H ⊢
  clear ho hs hn
  cases o with
  | none =>
    clear hk
    unfold srV rowO findV opO at *
    go_enter Tryd.func22, Tryd.ntmps22
    go_wp2_with fail
    refine H.out.mono ?_
    rintro e w2 ⟨rfl, hb2⟩
    have HB := Lib.hid hb2
    clear hb2
    go_wp2
    go_ret2
    exact ⟨rfl, HB.out⟩
  | some k =>
    have HN := Lib.hid (fun W => code_row k (hk k rfl) W)
    clear hk
    unfold srV rowO findV opO at *
    simp only [row_str, Option.isSome_some] at H
    go_enter Tryd.func22, Tryd.ntmps22
    go_wp2_with fail
    refine H.out.mono ?_
    rintro e w2 ⟨rfl, hb2⟩
    have HB := Lib.hid hb2
    clear hb2
    go_wp2_with fail
    refine (HN.out _).mono ?_
    rintro e w' ⟨rfl, rfl⟩
    go_wp2
    go_ret2
    exact ⟨rfl, HB.out⟩

end E
end Go.Proofs.YtaodghaicmjadaaDoor
