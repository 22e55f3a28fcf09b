/- The walk of the statement IsaOps: it answers true, and below its own memory nothing turns. -/
import Derived.Test.YtaodghaicmjadaaDoorIsOpen
import Derived.Test.YtaodghaicmjadaaDoorIsOps
namespace Go.Proofs.YtaodghaicmjadaaDoor.isaOps
open Go.RowKit Go.Shelf E
set_option linter.unusedVariables false

def inB (op : Int) (k : Nat) : Bool := (List.range k).any fun j => (opK j : Int) == op
theorem inB_succ (op : Int) (k : Nat) : inB op (k + 1) = (inB op k || ((opK k : Int) == op)) := by
  unfold inB
  rw [List.range_succ, List.any_append]
  simp
theorem inB_ix (op : Int) : inB op 97 = (ixC op).isSome := by
  unfold inB ixC
  rw [Bool.eq_iff_iff, List.find?_isSome]
  simp
theorem up_all : (List.range 97).all (fun k => decide (k = 0 ∨ opK (k - 1) < opK k)) = true := by decide +kernel
theorem up {k : Nat} (hk : k < 97) (h0 : k ≠ 0) : opK (k - 1) < opK k := (of_decide_eq_true (all97 up_all hk) : k = 0 ∨ opK (k - 1) < opK k).resolve_left h0
theorem nm_all : (List.range 97).all (fun k => decide (ixN (nmK k) = some k)) = true := by decide +kernel
theorem nm_back {k : Nat} (hk : k < 97) : ixN (nmK k) = some k := of_decide_eq_true (all97 nm_all hk)
theorem ixN_nil : ixN [] = none := by decide +kernel
theorem opc_at {j : Nat} (hj : j < 97) : ((List.range 97).map opc)[j]? = some (.int .i64 (opK j : Int)) := by
  rw [List.getElem?_map, List.getElem?_range hj]
  rfl
set_option maxRecDepth 100000 in
set_option maxHeartbeats 1000000 in
theorem walk (op : Int) (h1 : -9223372036854775808 ≤ op) (h2 : op < 9223372036854775808) (w : World) : Calls Tryd.prog 9 #[.int .i64 op] w (New w (.bool true)) := by
  have HO := Lib.hid (fun W => ops_any W)
  have HN := Lib.hid (fun W => name_any op W)
  clear h1 h2
  go_enter Tryd.func9, Tryd.ntmps9
  go_wp2_with fail
  refine (HO.out _).mono ?_
  rintro e w1 ⟨v, rfl, how, hb⟩
  obtain ⟨_, ⟨_, h0⟩ | ⟨g, c, cur, rfl, _⟩⟩ := id how
  · omega
  have HB1 := Lib.hid hb
  have HC := Lib.hid (fun j (hj : j < 97) => (how.cellAt j (by omega)).trans (opc_at hj))
  clear hb how HO
  go_wp2_with fail
  go_loopw [4, 5] (fun b i wr => (∃ m, wr = w1.drewN m) ∧ ∃ k : Nat, k ≤ 97 ∧ i = .int .i64 k ∧ b = .bool (inB op k)) (fun _ i _ => 97 - (intOf i).toNat)
  case atStart => exact ⟨⟨0, rfl⟩, 0, Nat.zero_le _, rfl, rfl⟩
  case round =>
    obtain ⟨⟨m, rfl⟩, k, hk, rfl, rfl⟩ := hrel
    by_cases hlt : k < 97
    · have c1 := HC.out k hlt
      by_cases h0 : k = 0
      · subst h0
        cases hb : inB op 0 with
        | true =>
          have hn : inB op (0 + 1) = true := by rw [inB_succ, hb]; rfl
          have HNX := Lib.hid hn
          clear hn hb
          go_wp2
          go_quiet (fail)
          go_wp2
          go_roundw
          case rel => exact ⟨⟨_, rfl⟩, 0 + 1, by omega, by go_num, by rw [HNX.out]⟩
          case measure => simp [intOf] <;> omega
        | false =>
          cases he : ((opK (0) : Int) == op) with
          | true =>
            have hn : inB op (0 + 1) = true := by rw [inB_succ, hb, he]; rfl
            have HNX := Lib.hid hn
            clear hn hb
            go_wp2
            go_quiet (fail)
            go_wp2
            go_roundw
            case rel => exact ⟨⟨_, rfl⟩, 0 + 1, by omega, by go_num, by rw [HNX.out]⟩
            case measure => simp [intOf] <;> omega
          | false =>
            have hn : inB op (0 + 1) = false := by rw [inB_succ, hb, he]; rfl
            have HNX := Lib.hid hn
            clear hn hb
            go_wp2
            go_quiet (fail)
            go_wp2
            go_roundw
            case rel => exact ⟨⟨_, rfl⟩, 0 + 1, by omega, by go_num, by rw [HNX.out]⟩
            case measure => simp [intOf] <;> omega
      · obtain ⟨t, rfl⟩ : ∃ t, k = t + 1 := ⟨k - 1, by omega⟩
        have c0 := HC.out t (by omega)
        have hu := up hlt h0
        rw [Nat.add_sub_cancel] at hu
        have hle : ¬ ((opK (t + 1) : Int) ≤ (opK t : Int)) := by omega
        have e1 : ((t + 1 : Nat) : Int) = (t : Int) + 1 := by omega
        clear h0 hu
        cases hb : inB op (t + 1) with
        | true =>
          have hn : inB op ((t + 1) + 1) = true := by rw [inB_succ, hb]; rfl
          have HNX := Lib.hid hn
          clear hn hb
          go_wp2
          go_quiet (fail)
          go_wp2
          go_roundw
          case rel => exact ⟨⟨_, rfl⟩, (t + 1) + 1, by omega, by go_num, by rw [HNX.out]⟩
          case measure => simp [intOf] <;> omega
        | false =>
          cases he : ((opK ((t + 1)) : Int) == op) with
          | true =>
            have hn : inB op ((t + 1) + 1) = true := by rw [inB_succ, hb, he]; rfl
            have HNX := Lib.hid hn
            clear hn hb
            go_wp2
            go_quiet (fail)
            go_wp2
            go_roundw
            case rel => exact ⟨⟨_, rfl⟩, (t + 1) + 1, by omega, by go_num, by rw [HNX.out]⟩
            case measure => simp [intOf] <;> omega
          | false =>
            have hn : inB op ((t + 1) + 1) = false := by rw [inB_succ, hb, he]; rfl
            have HNX := Lib.hid hn
            clear hn hb
            go_wp2
            go_quiet (fail)
            go_wp2
            go_roundw
            case rel => exact ⟨⟨_, rfl⟩, (t + 1) + 1, by omega, by go_num, by rw [HNX.out]⟩
            case measure => simp [intOf] <;> omega
    · obtain rfl : k = 97 := by omega
      have hx := inB_ix op
      clear hlt hk
      cases hi : ixC op with
      | none =>
        rw [hi] at hx
        have hb : inB op 97 = false := hx
        rw [hi] at HN
        clear hx hi
        have HF := Lib.hid (fun W => find_any ⟨#[]⟩ [] W rfl (by decide))
        have HN0 : Hid (∀ W, Calls Tryd.prog 26 #[.int .i64 op] W (New W (.string ⟨#[]⟩))) := Lib.hid HN.out
        have HF0 : Hid (∀ W, Calls Tryd.prog 22 #[.string ⟨#[]⟩] W (New W (.tuple #[.int .i64 0, .bool false]))) := Lib.hid (by
          have h := HF.out
          rw [ixN_nil] at h
          exact h)
        have HB2 := Lib.hid (bel0 HB1.out (belowDraw w1 m))
        clear HN HF HB1 HC
        go_wp2_with fail
        refine (HN0.out _).mono ?_
        rintro e w2 ⟨rfl, hb2⟩
        have HB3 := Lib.hid (bel0 HB2.out hb2)
        clear hb2 HB2
        go_wp2_with fail
        refine (HF0.out _).mono ?_
        rintro e w3 ⟨rfl, hb2⟩
        have HB4 := Lib.hid (bel0 HB3.out hb2)
        clear hb2 HB3
        go_wp2_with fail
        refine (HN0.out _).mono ?_
        rintro e w4 ⟨rfl, hb2⟩
        have HB5 := Lib.hid (bel0 HB4.out hb2)
        clear hb2 HB4
        go_wp2_with fail
        refine (works_any _).mono ?_
        rintro e w5 ⟨rfl, hb2⟩
        have HB6 := Lib.hid (bel0 HB5.out hb2)
        clear hb2 HB5
        go_wp2
        go_ret
        exact ⟨rfl, HB6.out⟩
      | some q =>
        rw [hi] at hx
        have hb : inB op 97 = true := hx
        rw [hi] at HN
        obtain ⟨hq, hop⟩ := ixC_some hi
        have HF := Lib.hid (fun W => find_any ⟨(nmK q).toArray⟩ (nmK q) W (by simp) (Nat.le_trans (nm_len' q) (by decide)))
        have HN0 : Hid (∀ W, Calls Tryd.prog 26 #[.int .i64 op] W (New W (.string ⟨(nmK q).toArray⟩))) := Lib.hid HN.out
        have HF0 : Hid (∀ W, Calls Tryd.prog 22 #[.string ⟨(nmK q).toArray⟩] W (New W (.tuple #[.int .i64 op, .bool true]))) := Lib.hid (by
          have h := HF.out
          rw [nm_back hq] at h
          rw [← hop]
          exact h)
        have HB2 := Lib.hid (bel0 HB1.out (belowDraw w1 m))
        clear HN HF HB1 HC hx hi hop hq
        generalize (⟨(nmK q).toArray⟩ : ByteArray) = t at HN0 HF0
        go_wp2_with fail
        refine (HN0.out _).mono ?_
        rintro e w2 ⟨rfl, hb2⟩
        have HB3 := Lib.hid (bel0 HB2.out hb2)
        clear hb2 HB2
        go_wp2_with fail
        refine (HF0.out _).mono ?_
        rintro e w3 ⟨rfl, hb2⟩
        have HB4 := Lib.hid (bel0 HB3.out hb2)
        clear hb2 HB3
        go_wp2_with fail
        refine (works_any _).mono ?_
        rintro e w5 ⟨rfl, hb2⟩
        have HB6 := Lib.hid (bel0 HB4.out hb2)
        clear hb2 HB4
        go_wp2
        go_ret
        exact ⟨rfl, HB6.out⟩
end Go.Proofs.YtaodghaicmjadaaDoor.isaOps
