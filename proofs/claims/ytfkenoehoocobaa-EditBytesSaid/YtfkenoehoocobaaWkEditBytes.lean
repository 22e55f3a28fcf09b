/- The walk of the statement EditBytes: it answers true, and below its own memory nothing turns. -/
import Derived.Test.YtfkenoehoocobaaEdBytes
namespace Go.Proofs.Ytfkenoehoocobaa.editBytes
open Go.RowKit E
set_option linter.unusedVariables false

/-- Rows of bytes in one block. -/
def Row (w : World) (B off : Nat) (l : List UInt8) : Prop := ∀ j, j < l.length → w.cell? ⟨B, off + j, none⟩ = some (.int .u8 ((gt l j).toNat : Int))
theorem row_of {w : World} {v : Value} {l : List UInt8} (h : SvB w v l) (h1 : 1 ≤ l.length) : ∃ B off c, v = .slice (some ⟨B, off, none⟩) l.length c ∧ Row w B off l := by
  obtain ⟨p, c, rfl, hr, _⟩ := h
  rcases hr with h | ⟨B, off, rfl, hc⟩
  · rw [h] at h1
    simp at h1
  · exact ⟨B, off, c, rfl, hc⟩
theorem row_at {w : World} {B off : Nat} {l : List UInt8} (h : Row w B off l) (p c : Nat) (x : Nat) (hx : x < l.length) : w.cell? ⟨B, off + x, none⟩ = some (.int .u8 ((gt l x).toNat : Int)) := h x hx
theorem ne8 {x y : UInt8} (h : x ≠ y) : ((x.toNat : Int) == (y.toNat : Int)) = false := by
  simp only [beq_eq_false_iff_ne, ne_eq]
  intro e
  exact h (UInt8.toNat_inj.1 (by omega))
set_option maxRecDepth 100000 in
set_option maxHeartbeats 4000000 in
theorem answered (v u : Value) (pat src t : List UInt8) (cc : Nat) (mk : Int) (w : World) (hl2 : src.length ≤ 2000) (hp : SvB w v pat) (hs : SvB w u src) (h : edRes pat src = (t, cc, mk, 0)) (h1 : 1 ≤ pat.length) (h2 : pat.length ≤ 256) (ht : t.length = pat.length) (hcc : cc ≤ 2)
    (hg : ∀ j, j < pat.length → edGood (gt pat 0) (gt pat j) (gt t j)) (hm : mk = -1 ∨ ∃ j, j < pat.length ∧ mk = ((j : Nat) : Int) ∧ (gt pat j = 32 ∨ gt pat j = 33) ∧ 241 ≤ (gt t j).toNat ∧ (gt t j).toNat ≤ 249) :
    Calls Try.prog 4 #[v, u] w (New w (.bool true)) := by
  have HE := Lib.hid (fun W (hb : Below w.heap.size w W) => ed (w := W) t cc mk 0 pat.length (cc : Int) 0 (hp.below hb) (hs.below hb) h ht rfl rfl)
  have HT := Lib.hid ht
  have HG := Lib.hid hg
  have HM := Lib.hid hm
  have HP := Lib.hid hp
  obtain ⟨n, hn⟩ : ∃ n, n = pat.length := ⟨_, rfl⟩
  have HN := Lib.hid hn
  obtain ⟨B, off, c, rfl, hrow⟩ := row_of hp h1
  have HROW := Lib.hid hrow
  obtain ⟨q, d, rfl, _⟩ := hs
  have hmb : -1 ≤ mk ∧ mk < (n : Int) := by
    rcases hm with h | ⟨j, hj, h, _⟩
    · omega
    · omega
  rw [← hn] at HE HP h1 h2 ht ⊢
  have i1 : ¬ ((2000 : Int) < (n : Int)) := by omega
  have i2 : ¬ ((2000 : Int) < (src.length : Int)) := by omega
  have i3 : ¬ ((cc : Int) < 0) := by omega
  have i4 : ¬ ((2 : Int) < (cc : Int)) := by omega
  have i5 : ¬ (mk < -1) := by omega
  have i6 : ¬ ((n : Int) ≤ mk) := by omega
  have H12 := Lib.hid (show 1 ≤ n ∧ n ≤ 256 from ⟨h1, h2⟩)
  have HMB := Lib.hid hmb
  clear hl2 h h1 h2 ht hcc hg hm hp hn hmb hrow
  generalize src.length = m at *
  go_enter Try.func4, Try.ntmps4
  go_wp2_with fail
  refine (works_any w).mono ?_
  rintro e w1 ⟨rfl, hb⟩
  have HB := Lib.hid hb
  clear hb
  go_wp2_with fail
  refine (HE.out w1 HB.out).mono ?_
  rintro e w2 ⟨pr, cr, rfl, hh, hb⟩
  obtain ⟨W3, hW3⟩ : ∃ W3, W3 = World.alloc w2 (.cells #[.slice pr n cr, .int .i64 (cc : Int), .int .i64 mk] 26) := ⟨_, rfl⟩
  have hb3 : Below w2.heap.size w2 W3 := by rw [hW3]; exact below_new _ _
  have HB3 := Lib.hid (bel0 (bel0 HB.out hb) hb3)
  have hbx : Bx W3 w2.heap.size 26 #[.slice pr n cr, .int .i64 (cc : Int), .int .i64 mk] := by rw [hW3]; exact Bx.new _ _ _
  obtain ⟨B2, off2, c2, hpr, hrow2⟩ := row_of ((hh.svb).below hb3) (by rw [HT.out, ← HN.out]; exact H12.out.1)
  rw [HT.out, ← HN.out] at hpr
  obtain ⟨rfl, _, rfl⟩ := Value.slice.inj hpr
  have HROW2 := Lib.hid hrow2
  have HROW3 : Hid (Row W3 B off pat) := Lib.hid (fun j hj => keepC (HROW.out j hj) (HB3.out))
  obtain ⟨⟨c0, c1, c2'⟩, _⟩ := hbx.three
  have hf0 := HROW3.out 0 (by rw [← HN.out]; exact H12.out.1)
  rw [Nat.add_zero] at hf0
  obtain ⟨fill, hfill⟩ : ∃ x, x = gt pat 0 := ⟨_, rfl⟩
  rw [← hfill] at hf0
  have HF := Lib.hid hfill
  have i7 : (0 : Int) < (n : Int) := by have := H12.out; omega
  have i8 : ¬ ((n : Int) = 0) := by have := H12.out; omega
  clear hb hh hb3 hbx hpr hrow2 hfill HB HE HP
  go_wp2_with fail
  rw [← hW3]
  clear hW3
  go_wp2
  go_loopw [8] (fun i wr => (∃ k, wr = W3.drewN k) ∧ ∃ t : Nat, t ≤ n ∧ i = .int .i64 t) (fun i _ => n - (intOf i).toNat)
  case atStart => exact ⟨⟨0, rfl⟩, 0, Nat.zero_le _, rfl⟩
  case round =>
    obtain ⟨⟨k, rfl⟩, j, hj, rfl⟩ := hrel
    by_cases hlt : j < n
    · have hcp := HROW3.out j (by rw [← HN.out]; exact hlt)
      have hct := HROW2.out j (by rw [HT.out, ← HN.out]; exact hlt)
      have hgood := HG.out j (by rw [← HN.out]; exact hlt)
      rw [← HF.out] at hgood
      generalize gt pat j = cp at *
      generalize gt t j = ct at *
      rcases (show cp = 32 ∨ cp = 33 ∨ cp = 34 ∨ (cp ≠ 32 ∧ cp ≠ 33 ∧ cp ≠ 34) by
        by_cases e1 : cp = 32
        · exact .inl e1
        · by_cases e2 : cp = 33
          · exact .inr (.inl e2)
          · by_cases e3 : cp = 34
            · exact .inr (.inr (.inl e3))
            · exact .inr (.inr (.inr ⟨e1, e2, e3⟩))) with hcp0 | hcp0 | hcp0 | ⟨n1, n2, n3⟩
      · rw [hcp0, show (((32 : UInt8)).toNat : Int) = 32 from rfl] at hcp
        by_cases hx : ct = fill
        · subst hx
          rcases (show ct.toNat < 240 ∨ (240 ≤ ct.toNat ∧ ct.toNat ≤ 249) ∨ 249 < ct.toNat by omega) with h9 | ⟨h9, h8⟩ | h9
          · have k1 : ¬ ((240 : Int) ≤ (ct.toNat : Int)) := by omega
            clear h9 hgood hcp0
            go_wp2
            go_quiet (fail)
            go_wp2
            go_quiet (fail)
            go_wp2
            go_roundw
            case rel => exact ⟨⟨_, rfl⟩, j + 1, by omega, by go_num⟩
            case measure => simp [intOf]; omega
          · have k1 : (240 : Int) ≤ (ct.toNat : Int) := by omega
            have k2 : (ct.toNat : Int) ≤ 249 := by omega
            clear h9 h8 hgood hcp0
            go_wp2
            go_quiet (fail)
            go_wp2
            go_quiet (fail)
            go_wp2
            go_roundw
            case rel => exact ⟨⟨_, rfl⟩, j + 1, by omega, by go_num⟩
            case measure => simp [intOf]; omega
          · have k1 : (240 : Int) ≤ (ct.toNat : Int) := by omega
            have k2 : ¬ ((ct.toNat : Int) ≤ 249) := by omega
            clear h9 hgood hcp0
            go_wp2
            go_quiet (fail)
            go_wp2
            go_quiet (fail)
            go_wp2
            go_roundw
            case rel => exact ⟨⟨_, rfl⟩, j + 1, by omega, by go_num⟩
            case measure => simp [intOf]; omega
        · have hd : 240 ≤ ct.toNat ∧ ct.toNat ≤ 249 := by
            rcases hgood with h | ⟨_, h⟩ | ⟨h, h', _⟩
            · exact absurd h hx
            · exact h
            · exact absurd hcp0 h
          have k1 : (240 : Int) ≤ (ct.toNat : Int) := by omega
          have k2 : (ct.toNat : Int) ≤ 249 := by omega
          have k3 : ((ct.toNat : Int) == (fill.toNat : Int)) = false := ne8 hx
          have k4 : ((ct.toNat : Int) != (fill.toNat : Int)) = true := by rw [bne, k3]; rfl
          clear hd hgood hcp0 hx
          generalize (ct.toNat : Int) = ca at *
          generalize (fill.toNat : Int) = fa at *
          go_wp2
          go_quiet (fail)
          go_wp2
          go_quiet (fail)
          go_wp2
          go_roundw
          case rel => exact ⟨⟨_, rfl⟩, j + 1, by omega, by go_num⟩
          case measure => simp [intOf]; omega
      · rw [hcp0, show (((33 : UInt8)).toNat : Int) = 33 from rfl] at hcp
        by_cases hx : ct = fill
        · subst hx
          rcases (show ct.toNat < 240 ∨ (240 ≤ ct.toNat ∧ ct.toNat ≤ 249) ∨ 249 < ct.toNat by omega) with h9 | ⟨h9, h8⟩ | h9
          · have k1 : ¬ ((240 : Int) ≤ (ct.toNat : Int)) := by omega
            clear h9 hgood hcp0
            go_wp2
            go_quiet (fail)
            go_wp2
            go_quiet (fail)
            go_wp2
            go_roundw
            case rel => exact ⟨⟨_, rfl⟩, j + 1, by omega, by go_num⟩
            case measure => simp [intOf]; omega
          · have k1 : (240 : Int) ≤ (ct.toNat : Int) := by omega
            have k2 : (ct.toNat : Int) ≤ 249 := by omega
            clear h9 h8 hgood hcp0
            go_wp2
            go_quiet (fail)
            go_wp2
            go_quiet (fail)
            go_wp2
            go_roundw
            case rel => exact ⟨⟨_, rfl⟩, j + 1, by omega, by go_num⟩
            case measure => simp [intOf]; omega
          · have k1 : (240 : Int) ≤ (ct.toNat : Int) := by omega
            have k2 : ¬ ((ct.toNat : Int) ≤ 249) := by omega
            clear h9 hgood hcp0
            go_wp2
            go_quiet (fail)
            go_wp2
            go_quiet (fail)
            go_wp2
            go_roundw
            case rel => exact ⟨⟨_, rfl⟩, j + 1, by omega, by go_num⟩
            case measure => simp [intOf]; omega
        · have hd : 240 ≤ ct.toNat ∧ ct.toNat ≤ 249 := by
            rcases hgood with h | ⟨_, h⟩ | ⟨h, h', _⟩
            · exact absurd h hx
            · exact h
            · exact absurd hcp0 h'
          have k1 : (240 : Int) ≤ (ct.toNat : Int) := by omega
          have k2 : (ct.toNat : Int) ≤ 249 := by omega
          have k3 : ((ct.toNat : Int) == (fill.toNat : Int)) = false := ne8 hx
          have k4 : ((ct.toNat : Int) != (fill.toNat : Int)) = true := by rw [bne, k3]; rfl
          clear hd hgood hcp0 hx
          generalize (ct.toNat : Int) = ca at *
          generalize (fill.toNat : Int) = fa at *
          go_wp2
          go_quiet (fail)
          go_wp2
          go_quiet (fail)
          go_wp2
          go_roundw
          case rel => exact ⟨⟨_, rfl⟩, j + 1, by omega, by go_num⟩
          case measure => simp [intOf]; omega
      · have hx : ct = fill := by
          rcases hgood with h | ⟨h | h, _⟩ | ⟨_, _, h, _⟩
          · exact h
          · rw [hcp0] at h; exact absurd h (by decide)
          · rw [hcp0] at h; exact absurd h (by decide)
          · exact absurd hcp0 h
        rw [hcp0, show (((34 : UInt8)).toNat : Int) = 34 from rfl] at hcp
        subst hx
        clear hgood hcp0
        go_wp2
        go_quiet (fail)
        go_wp2
        go_quiet (fail)
        go_wp2
        go_roundw
        case rel => exact ⟨⟨_, rfl⟩, j + 1, by omega, by go_num⟩
        case measure => simp [intOf]; omega
      · have m1 : ((cp.toNat : Int) == 32) = false := ne8 (y := 32) n1
        have m2 : ((cp.toNat : Int) == 33) = false := ne8 (y := 33) n2
        have m3 : ((cp.toNat : Int) == 34) = false := ne8 (y := 34) n3
        have m4 : ((cp.toNat : Int) != 34) = true := by rw [bne, m3]; rfl
        by_cases hx : ct = fill
        · subst hx
          by_cases hy : ct = cp
          · subst hy
            clear n1 n2 n3 hgood
            generalize (ct.toNat : Int) = ca at *
            go_wp2
            go_quiet (fail)
            go_wp2
            go_quiet (fail)
            go_wp2
            go_roundw
            case rel => exact ⟨⟨_, rfl⟩, j + 1, by omega, by go_num⟩
            case measure => simp [intOf]; omega
          · have k3 : ((ct.toNat : Int) == (cp.toNat : Int)) = false := ne8 hy
            have k4 : ((ct.toNat : Int) != (cp.toNat : Int)) = true := by rw [bne, k3]; rfl
            clear n1 n2 n3 hgood hy
            generalize (ct.toNat : Int) = ca at *
            generalize (cp.toNat : Int) = pa at *
            go_wp2
            go_quiet (fail)
            go_wp2
            go_quiet (fail)
            go_wp2
            go_roundw
            case rel => exact ⟨⟨_, rfl⟩, j + 1, by omega, by go_num⟩
            case measure => simp [intOf]; omega
        · have hy : ct = cp := by
            rcases hgood with h | ⟨h | h, _⟩ | ⟨_, _, _, h⟩
            · exact absurd h hx
            · exact absurd h n1
            · exact absurd h n2
            · exact h
          subst hy
          have k3 : ((ct.toNat : Int) == (fill.toNat : Int)) = false := ne8 hx
          have k4 : ((ct.toNat : Int) != (fill.toNat : Int)) = true := by rw [bne, k3]; rfl
          clear n1 n2 n3 hgood hx
          generalize (ct.toNat : Int) = ca at *
          generalize (fill.toNat : Int) = fa at *
          go_wp2
          go_quiet (fail)
          go_wp2
          go_quiet (fail)
          go_wp2
          go_roundw
          case rel => exact ⟨⟨_, rfl⟩, j + 1, by omega, by go_num⟩
          case measure => simp [intOf]; omega
    · obtain rfl : j = n := by omega
      rcases HM.out with hmk | ⟨j2, hj2, hmk, hc2, hd1, hd2⟩
      · subst hmk
        go_wp2
        go_ret
        exact ⟨rfl, HB3.out.trans ((belowDraw _ _).mono HB3.out.size)⟩
      · have hcp := HROW3.out j2 hj2
        have hct := HROW2.out j2 (by rw [HT.out]; exact hj2)
        rw [← HN.out] at hj2
        subst hmk
        generalize gt pat j2 = cp at *
        generalize gt t j2 = ct at *
        have k0 : (0 : Int) ≤ (j2 : Int) := by omega
        have k00 : ((j2 : Nat) : Int) < (j : Int) := by omega
        have k1 : (240 : Int) < (ct.toNat : Int) := by omega
        have k2 : (ct.toNat : Int) ≤ 249 := by omega
        rcases hc2 with rfl | rfl
        · rw [show (((32 : UInt8)).toNat : Int) = 32 from rfl] at hcp
          clear hd1 hd2 hj2
          go_wp2
          go_ret
          exact ⟨rfl, HB3.out.trans ((belowDraw _ _).mono HB3.out.size)⟩
        · rw [show (((33 : UInt8)).toNat : Int) = 33 from rfl] at hcp
          clear hd1 hd2 hj2
          go_wp2
          go_ret
          exact ⟨rfl, HB3.out.trans ((belowDraw _ _).mono HB3.out.size)⟩

theorem walk (v : Value) (pat : List UInt8) (u : Value) (src : List UInt8) (w : World) (hp : SvB w v pat) (hs : SvB w u src) :
    Calls Try.prog 4 #[v, u] w (New w (.bool true)) := by
  by_cases hl : pat.length ≤ 2000 ∧ src.length ≤ 2000
  · rcases res_cases pat src with ⟨h, h1⟩ | ⟨c, hc, h, h1, h2⟩ | ⟨t, cc, mk, h, h1, h2, h3, h4, h5, h6⟩
    · refine refused v u pat src w 6 hl.1 hl.2 hp hs h ?_
      by_cases h0 : pat.length = 0
      · exact .inl ⟨rfl, h0⟩
      · exact .inr (.inl ⟨rfl, by omega⟩)
    · exact refused v u pat src w c hl.1 hl.2 hp hs h (.inr (.inr ⟨hc, h1, h2⟩))
    · exact answered v u pat src t cc mk w hl.2 hp hs h h1 h2 h3 h4 h5 h6
  · obtain ⟨p, c, rfl, _⟩ := hp
    obtain ⟨q, d, rfl, _⟩ := hs
    exact long p q _ _ c d w (by omega)

end Go.Proofs.Ytfkenoehoocobaa.editBytes
