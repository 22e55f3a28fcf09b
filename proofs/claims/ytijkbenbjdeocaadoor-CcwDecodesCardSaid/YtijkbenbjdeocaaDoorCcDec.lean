/- Decoding: command words, status words, address words. -/
import Derived.Test.YtijkbenbjdeocaaDoorCcSta
namespace Go.Proofs.YtijkbenbjdeocaaDoor
open Go.RowKit
set_option linter.unusedVariables false
namespace E

theorem results_ct {P : Program} {fn : Func} {p q : Tmp} {t : TypeId} {w : World} {a : Addr} {v v' : Value} {tmps : Array Value} (h : fn.results = #[.cell p t, .tmp q]) (hp : tmps.getD p undef = .pointer (some a)) (hq : tmps.getD q undef = v') (la : (loadVar t a).run P w = .ok v w) : (results fn tmps).run P w = .ok (.tuple #[v, v']) w := by
  subst hq
  have hp' : tmps[p]?.getD undef = .pointer (some a) := by simpa using hp
  simp only [results, h, Sem.run_bind] at *
  simp [hp', asAddr, Result.andThen, la]
theorem load_cc {w : World} {g : Nat} {v0 v1 v2 v3 v4 v5 v6 v7 : Value} (h : Bx w g 26 #[v0, v1, v2, v3, v4, v5, v6, v7]) : (loadVar 26 ⟨g, 0, none⟩).run Tryd.prog w = .ok (.agg #[v0, v1, v2, v3, v4, v5, v6, v7]) w :=
  run_loadVar_row w g 26 26 _ (0, 0) _ h Tryd.underlying26 rfl (by kernel_rfl)
theorem load_cs {w : World} {g : Nat} {v0 v1 v2 v3 v4 : Value} (h : Bx w g 36 #[v0, v1, v2, v3, v4]) : (loadVar 36 ⟨g, 0, none⟩).run Tryd.prog w = .ok (.agg #[v0, v1, v2, v3, v4]) w :=
  run_loadVar_row w g 36 36 _ (0, 0) _ h Tryd.underlying36 rfl (by kernel_rfl)
/-- The result's block of a decoding. -/
structure Rb (w : World) (P : Nat) (W : World) : Prop where
  bel : Below w.heap.size w W
  box : Bx W P 26 #[.int .i64 0, .int .i64 0, .bool false, .bool false, .bool false, .bool false, .bool false, .int .i64 0]
  ge : w.heap.size ≤ P
theorem Rb.next {w W W' : World} {P : Nat} (h : Rb w P W) (hb : Below W.heap.size W W') : Rb w P W' := ⟨bel0 h.bel hb, h.box.below hb, h.ge⟩
theorem n3_low (l : List UInt8) (i : Nat) : n3 l i % 65536 = n2 l (i + 1) := by
  have h1 := lt256 (gt l i); have h2 := lt256 (gt l (i + 1)); have h3 := lt256 (gt l (i + 2))
  unfold n3 n2
  rw [show i + 1 + 1 = i + 2 from rfl]
  omega
theorem n3_top (l : List UInt8) (i : Nat) : n3 l i / 65536 = b1 l i := by
  have h1 := lt256 (gt l i); have h2 := lt256 (gt l (i + 1)); have h3 := lt256 (gt l (i + 2))
  unfold n3 b1
  omega
set_option maxRecDepth 100000 in
set_option maxHeartbeats 1000000 in
theorem decode_any {w : World} {sv : Value} {l : List UInt8} (h : SvB w sv l) (hf : Fb w) : Calls Tryd.prog 15 #[sv] w (New w (.tuple #[(decR l).1.v, .bool (decR l).2])) := by
  have HV := Lib.hid (h.below (below_new w (.cells #[.int .i64 0, .int .i64 0, .bool false, .bool false, .bool false, .bool false, .bool false, .int .i64 0] 26)))
  have HF := Lib.hid hf
  have KR : Hid (Rb w w.heap.size (w.alloc (.cells #[.int .i64 0, .int .i64 0, .bool false, .bool false, .bool false, .bool false, .bool false, .int .i64 0] 26))) := Lib.hid ⟨below_new _ _, Bx.new _ _ _, Nat.le_refl _⟩
  have HE : Hid (decR l = if l.length = 8 then
    if dirI (b1 l 0) = 6 then (decJ l, true)
    else if b1 l 4 % 8 = 0 ∧ dirI (b1 l 0) ≠ 0 ∧ 0 < n2 l 6 then (decF l, true) else (zC, false)
  else (zC, false)) := Lib.hid rfl
  obtain ⟨p, c, rfl, hr, h1, h2, _⟩ := h
  obtain ⟨n, hn⟩ : ∃ n, l.length = n := ⟨_, rfl⟩
  have HN := Lib.hid hn
  rw [hn] at h1 HV ⊢
  clear hn hr hf
  obtain ⟨W0, hW0⟩ : ∃ W0, W0 = w.alloc (.cells #[.int .i64 0, .int .i64 0, .bool false, .bool false, .bool false, .bool false, .bool false, .int .i64 0] 26) := ⟨_, rfl⟩
  rw [← hW0] at HV KR
  obtain ⟨R, hR⟩ : ∃ R, decR l = R := ⟨_, rfl⟩
  rw [hR] at HE ⊢
  clear hR
  by_cases h8 : n = 8
  · subst h8
    have HL := HN.out
    have HU0 := Lib.hid (fun W (h : SvB W (.slice p 8 c) l) => unpack_any h 0 (by omega))
    have HU4 := Lib.hid (fun W (h : SvB W (.slice p 8 c) l) => unpack_any h 4 (by omega))
    have HD := Lib.hid (fun W => dir_any (b1 l 0) W)
    have HE1 : Hid (R = if dirI (b1 l 0) = 6 then (decJ l, true) else if b1 l 4 % 8 = 0 ∧ dirI (b1 l 0) ≠ 0 ∧ 0 < n2 l 6 then (decF l, true) else (zC, false)) := Lib.hid (by rw [HE.out, if_pos HL])
    clear HE HL
    go_enter Tryd.func15, Tryd.ntmps15
    go_wp2_with fail
    rw [← hW0]
    generalize hP : w.heap.size = P at KR ⊢
    clear hW0 hP
    refine (HU0.out _ HV.out).mono ?_
    rintro e w2 ⟨rfl, rfl⟩
    go_wp2_with fail
    refine (HD.out _).mono ?_
    rintro e W1 ⟨rfl, hb⟩
    have K1 := Lib.hid (KR.out.next hb)
    have HV1 := Lib.hid (HV.out.below hb)
    clear hb KR HV HU0 HD
    obtain ⟨d, hd⟩ : ∃ d, dirI (b1 l 0) = d := ⟨_, rfl⟩
    rw [hd] at HE1 ⊢
    have HDd := Lib.hid hd
    clear hd
    by_cases h6 : d = 6
    · subst h6
      have HE2 : Hid (R = (decJ l, true)) := Lib.hid (by rw [HE1.out, if_pos rfl])
      clear HE1
      simp only [Nat.reduceAdd]
      have r0 := K1.out.box.cell 0
      change _ = some (Value.int .i64 0) at r0
      have rf0 := K1.out.box.frozen 0
      have r1 := K1.out.box.cell 1
      change _ = some (Value.int .i64 0) at r1
      have rf1 := K1.out.box.frozen 1
      have r2 := K1.out.box.cell 2
      change _ = some (Value.bool false) at r2
      have rf2 := K1.out.box.frozen 2
      have r3 := K1.out.box.cell 3
      change _ = some (Value.bool false) at r3
      have rf3 := K1.out.box.frozen 3
      have r4 := K1.out.box.cell 4
      change _ = some (Value.bool false) at r4
      have rf4 := K1.out.box.frozen 4
      have r5 := K1.out.box.cell 5
      change _ = some (Value.bool false) at r5
      have rf5 := K1.out.box.frozen 5
      have r6 := K1.out.box.cell 6
      change _ = some (Value.bool false) at r6
      have rf6 := K1.out.box.frozen 6
      have r7 := K1.out.box.cell 7
      change _ = some (Value.int .i64 0) at r7
      have rf7 := K1.out.box.frozen 7
      go_wp2
      refine bodyPost_ret (results_ct rfl rfl rfl (load_cc (put8_at K1.out.box _ _ _ _ _ _ _ _))) rfl ?_
      exact ⟨by rw [HE2.out]; rfl, put8_below K1.out.bel K1.out.ge _ _ _ _ _ _ _ _⟩
    · have HE2 : Hid (R = if b1 l 4 % 8 = 0 ∧ d ≠ 0 ∧ 0 < n2 l 6 then (decF l, true) else (zC, false)) := Lib.hid (by rw [HE1.out, if_neg h6])
      clear HE1
      go_wp2_with fail
      refine (HU4.out _ HV1.out).mono ?_
      rintro e w2 ⟨rfl, rfl⟩
      have HWF := Lib.hid (fun W (h : Fb W) => withFlags_any ⟨b1 l 0, n3 l 1, false, false, false, false, false, n2 l 6⟩ (gt l 4) W h)
      have HAL := Lib.hid (fun W (h : Fb W) => allowed_any (decF l) W h)
      have H16 : bits .and .i64 (n3 l 5) 65535 = n2 l 6 := (and16b _).trans (n3_low l 5)
      have H7 := and7 (b1 l 4)
      have HDF : Hid (decF l = wfQ ⟨b1 l 0, n3 l 1, false, false, false, false, false, n2 l 6⟩ ((gt l 4).toNat : Int)) := Lib.hid rfl
      have HAB : Hid (alwB (dirI (decF l).o) (flI (decF l)) (decF l).n = if d = 0 then false else decide (0 < n2 l 6)) := Lib.hid (by
        show alwB (dirI (b1 l 0)) _ (n2 l 6) = _
        unfold alwB
        rw [HDd.out, if_neg h6])
      change Hid (∀ W, Fb W → Calls Tryd.prog 34 #[.agg #[.int .i64 (b1 l 0), .int .i64 (n3 l 1), .bool false, .bool false, .bool false, .bool false, .bool false, .int .i64 (n2 l 6)], .int .i64 (b1 l 4)] W (New W (.agg #[.int .i64 (b1 l 0), .int .i64 (n3 l 1), .bool (bt (b1 l 4) 128), .bool (bt (b1 l 4) 64), .bool (bt (b1 l 4) 32), .bool (bt (b1 l 4) 16), .bool (bt (b1 l 4) 8), .int .i64 (n2 l 6)]))) at HWF
      rw [HAB.out] at HAL
      change Hid (∀ W, Fb W → Calls Tryd.prog 26 #[.agg #[.int .i64 (b1 l 0), .int .i64 (n3 l 1), .bool (bt (b1 l 4) 128), .bool (bt (b1 l 4) 64), .bool (bt (b1 l 4) 32), .bool (bt (b1 l 4) 16), .bool (bt (b1 l 4) 8), .int .i64 (n2 l 6)]] W (New W (.bool (if d = 0 then false else decide (0 < n2 l 6))))) at HAL
      obtain ⟨al, hal⟩ : ∃ al, (if d = 0 then false else decide (0 < n2 l 6)) = al := ⟨_, rfl⟩
      rw [hal] at HAL
      have HE3 : Hid (R = if b1 l 4 % 8 = 0 ∧ al = true then (decF l, true) else (zC, false)) := Lib.hid (by
        rw [HE2.out, ← hal]
        by_cases h0 : d = 0
        · simp [h0]
        · simp [h0])
      have HZ : Hid ((decF l).v = .agg #[.int .i64 (b1 l 0), .int .i64 (n3 l 1), .bool (bt (b1 l 4) 128), .bool (bt (b1 l 4) 64), .bool (bt (b1 l 4) 32), .bool (bt (b1 l 4) 16), .bool (bt (b1 l 4) 8), .int .i64 (n2 l 6)]) := Lib.hid rfl
      clear HE2 hal HAB HDF HU4 HDd
      simp only [Nat.reduceAdd]
      generalize b1 l 0 = b at *
      generalize n3 l 1 = a at *
      generalize n3 l 5 = r5 at *
      generalize n2 l 6 = n at *
      generalize bt (b1 l 4) 128 = t0 at *
      generalize bt (b1 l 4) 64 = t1 at *
      generalize bt (b1 l 4) 32 = t2 at *
      generalize bt (b1 l 4) 16 = t3 at *
      generalize bt (b1 l 4) 8 = t4 at *
      generalize b1 l 4 = f4 at *
      go_wp2_with fail
      refine (HWF.out _ (HF.out.below K1.out.bel)).mono ?_
      rintro e W2 ⟨rfl, hb⟩
      have K2 := Lib.hid (K1.out.next hb)
      clear hb K1 HV1 HWF H16
      by_cases h7 : f4 % 8 = 0
      · rw [h7] at H7
        have HE4 : Hid (R = if al = true then (decF l, true) else (zC, false)) := Lib.hid (by
          rw [HE3.out]
          simp [h7])
        clear HE3
        go_wp2_with fail
        refine (HAL.out _ (HF.out.below (bel0 K2.out.bel (below_new _ _)))).mono ?_
        rintro e W3 ⟨rfl, hb⟩
        have K3 := Lib.hid ((K2.out.next (below_new _ (.cells #[.int .i64 b, .int .i64 a, .bool t0, .bool t1, .bool t2, .bool t3, .bool t4, .int .i64 n] 26))).next hb)
        have HC := Lib.hid ((Bx.new W2 26 #[.int .i64 b, .int .i64 a, .bool t0, .bool t1, .bool t2, .bool t3, .bool t4, .int .i64 n]).below hb)
        clear hb K2 HAL H7
        cases al with
        | false =>
          have HE5 : Hid (R = (zC, false)) := Lib.hid (by rw [HE4.out]; rfl)
          have r0 := K3.out.box.cell 0
          change _ = some (Value.int .i64 0) at r0
          have rf0 := K3.out.box.frozen 0
          have r1 := K3.out.box.cell 1
          change _ = some (Value.int .i64 0) at r1
          have rf1 := K3.out.box.frozen 1
          have r2 := K3.out.box.cell 2
          change _ = some (Value.bool false) at r2
          have rf2 := K3.out.box.frozen 2
          have r3 := K3.out.box.cell 3
          change _ = some (Value.bool false) at r3
          have rf3 := K3.out.box.frozen 3
          have r4 := K3.out.box.cell 4
          change _ = some (Value.bool false) at r4
          have rf4 := K3.out.box.frozen 4
          have r5 := K3.out.box.cell 5
          change _ = some (Value.bool false) at r5
          have rf5 := K3.out.box.frozen 5
          have r6 := K3.out.box.cell 6
          change _ = some (Value.bool false) at r6
          have rf6 := K3.out.box.frozen 6
          have r7 := K3.out.box.cell 7
          change _ = some (Value.int .i64 0) at r7
          have rf7 := K3.out.box.frozen 7
          go_wp2
          refine bodyPost_ret (results_ct rfl rfl rfl (load_cc (put8_at K3.out.box _ _ _ _ _ _ _ _))) rfl ?_
          exact ⟨by rw [HE5.out]; rfl, put8_below K3.out.bel K3.out.ge _ _ _ _ _ _ _ _⟩
        | true =>
          have HE5 : Hid (R = (decF l, true)) := Lib.hid (by rw [HE4.out]; rfl)
          have HZ' : Hid ((R.1).v = .agg #[.int .i64 b, .int .i64 a, .bool t0, .bool t1, .bool t2, .bool t3, .bool t4, .int .i64 n]) := Lib.hid (by rw [HE5.out]; exact HZ.out)
          have HT : Hid (R.2 = true) := Lib.hid (by rw [HE5.out])
          generalize hG : W2.heap.size = G at HC ⊢
          have g0 := HC.out.cell 0
          change _ = some (Value.int .i64 b) at g0
          have g1 := HC.out.cell 1
          change _ = some (Value.int .i64 a) at g1
          have g2 := HC.out.cell 2
          change _ = some (Value.bool t0) at g2
          have g3 := HC.out.cell 3
          change _ = some (Value.bool t1) at g3
          have g4 := HC.out.cell 4
          change _ = some (Value.bool t2) at g4
          have g5 := HC.out.cell 5
          change _ = some (Value.bool t3) at g5
          have g6 := HC.out.cell 6
          change _ = some (Value.bool t4) at g6
          have g7 := HC.out.cell 7
          change _ = some (Value.int .i64 n) at g7
          have r0 := K3.out.box.cell 0
          change _ = some (Value.int .i64 0) at r0
          have rf0 := K3.out.box.frozen 0
          have r1 := K3.out.box.cell 1
          change _ = some (Value.int .i64 0) at r1
          have rf1 := K3.out.box.frozen 1
          have r2 := K3.out.box.cell 2
          change _ = some (Value.bool false) at r2
          have rf2 := K3.out.box.frozen 2
          have r3 := K3.out.box.cell 3
          change _ = some (Value.bool false) at r3
          have rf3 := K3.out.box.frozen 3
          have r4 := K3.out.box.cell 4
          change _ = some (Value.bool false) at r4
          have rf4 := K3.out.box.frozen 4
          have r5 := K3.out.box.cell 5
          change _ = some (Value.bool false) at r5
          have rf5 := K3.out.box.frozen 5
          have r6 := K3.out.box.cell 6
          change _ = some (Value.bool false) at r6
          have rf6 := K3.out.box.frozen 6
          have r7 := K3.out.box.cell 7
          change _ = some (Value.int .i64 0) at r7
          have rf7 := K3.out.box.frozen 7
          go_wp2
          refine bodyPost_ret (results_ct rfl rfl rfl (load_cc (put8_at K3.out.box _ _ _ _ _ _ _ _))) rfl ?_
          exact ⟨by rw [HZ'.out, HT.out]; rfl, put8_below K3.out.bel K3.out.ge _ _ _ _ _ _ _ _⟩
      · have HE4 : Hid (R = (zC, false)) := Lib.hid (by rw [HE3.out, if_neg (fun h => h7 h.1)])
        have K3 := Lib.hid (K2.out.next (below_new _ (.cells #[.int .i64 b, .int .i64 a, .bool t0, .bool t1, .bool t2, .bool t3, .bool t4, .int .i64 n] 26)))
        clear HE3 K2
        have r0 := K3.out.box.cell 0
        change _ = some (Value.int .i64 0) at r0
        have rf0 := K3.out.box.frozen 0
        have r1 := K3.out.box.cell 1
        change _ = some (Value.int .i64 0) at r1
        have rf1 := K3.out.box.frozen 1
        have r2 := K3.out.box.cell 2
        change _ = some (Value.bool false) at r2
        have rf2 := K3.out.box.frozen 2
        have r3 := K3.out.box.cell 3
        change _ = some (Value.bool false) at r3
        have rf3 := K3.out.box.frozen 3
        have r4 := K3.out.box.cell 4
        change _ = some (Value.bool false) at r4
        have rf4 := K3.out.box.frozen 4
        have r5 := K3.out.box.cell 5
        change _ = some (Value.bool false) at r5
        have rf5 := K3.out.box.frozen 5
        have r6 := K3.out.box.cell 6
        change _ = some (Value.bool false) at r6
        have rf6 := K3.out.box.frozen 6
        have r7 := K3.out.box.cell 7
        change _ = some (Value.int .i64 0) at r7
        have rf7 := K3.out.box.frozen 7
        go_wp2
        refine bodyPost_ret (results_ct rfl rfl rfl (load_cc (put8_at K3.out.box _ _ _ _ _ _ _ _))) rfl ?_
        exact ⟨by rw [HE4.out]; rfl, put8_below K3.out.bel K3.out.ge _ _ _ _ _ _ _ _⟩

  · have HE1 : Hid (R = (zC, false)) := Lib.hid (by rw [HE.out, if_neg (by rw [HN.out]; exact h8)])
    have h8' : ¬ (n : Int) = 8 := by omega
    have K1 := KR
    clear HE h8
    have r0 := K1.out.box.cell 0
    change _ = some (Value.int .i64 0) at r0
    have rf0 := K1.out.box.frozen 0
    have r1 := K1.out.box.cell 1
    change _ = some (Value.int .i64 0) at r1
    have rf1 := K1.out.box.frozen 1
    have r2 := K1.out.box.cell 2
    change _ = some (Value.bool false) at r2
    have rf2 := K1.out.box.frozen 2
    have r3 := K1.out.box.cell 3
    change _ = some (Value.bool false) at r3
    have rf3 := K1.out.box.frozen 3
    have r4 := K1.out.box.cell 4
    change _ = some (Value.bool false) at r4
    have rf4 := K1.out.box.frozen 4
    have r5 := K1.out.box.cell 5
    change _ = some (Value.bool false) at r5
    have rf5 := K1.out.box.frozen 5
    have r6 := K1.out.box.cell 6
    change _ = some (Value.bool false) at r6
    have rf6 := K1.out.box.frozen 6
    have r7 := K1.out.box.cell 7
    change _ = some (Value.int .i64 0) at r7
    have rf7 := K1.out.box.frozen 7
    go_enter Tryd.func15, Tryd.ntmps15
    go_wp2_with fail
    rw [← hW0]
    clear hW0
    refine bodyPost_ret (results_ct rfl rfl rfl (load_cc K1.out.box)) rfl ?_
    exact ⟨by rw [HE1.out]; rfl, K1.out.bel⟩
/-- The result's block of a status word. -/
structure Rs (w : World) (P : Nat) (W : World) : Prop where
  bel : Below w.heap.size w W
  box : Bx W P 36 #[.int .i64 0, .int .i64 0, .int .i64 0, .int .i64 0, .int .i64 0]
  ge : w.heap.size ≤ P
set_option maxRecDepth 100000 in
set_option maxHeartbeats 1000000 in
theorem decodeCsw_any {w : World} {sv : Value} {l : List UInt8} (h : SvB w sv l) : Calls Tryd.prog 17 #[sv] w (New w (.tuple #[(decS l).1.v, .bool (decS l).2])) := by
  have HV := Lib.hid (h.below (below_new w (.cells #[.int .i64 0, .int .i64 0, .int .i64 0, .int .i64 0, .int .i64 0] 36)))
  have KR : Hid (Rs w w.heap.size (w.alloc (.cells #[.int .i64 0, .int .i64 0, .int .i64 0, .int .i64 0, .int .i64 0] 36))) := Lib.hid ⟨below_new _ _, Bx.new _ _ _, Nat.le_refl _⟩
  have HE : Hid (decS l = if l.length = 8 ∧ b1 l 0 % 16 = 0 then (decSF l, true) else (zS, false)) := Lib.hid rfl
  obtain ⟨p, c, rfl, hr, h1, h2, _⟩ := h
  obtain ⟨n, hn⟩ : ∃ n, l.length = n := ⟨_, rfl⟩
  have HN := Lib.hid hn
  rw [hn] at h1 HV ⊢
  clear hn hr
  obtain ⟨W0, hW0⟩ : ∃ W0, W0 = w.alloc (.cells #[.int .i64 0, .int .i64 0, .int .i64 0, .int .i64 0, .int .i64 0] 36) := ⟨_, rfl⟩
  rw [← hW0] at HV KR
  obtain ⟨R, hR⟩ : ∃ R, decS l = R := ⟨_, rfl⟩
  rw [hR] at HE ⊢
  clear hR
  by_cases h8 : n = 8
  · subst h8
    have HL := HN.out
    have HUK := Lib.hid (fun W (h : SvB W (.slice p 8 c) l) => unpackKey_any h (by omega))
    have HU4 := Lib.hid (fun W (h : SvB W (.slice p 8 c) l) => unpack_any h 4 (by omega))
    have HT := n3_top l 5
    have H16 : bits .and .i64 (n3 l 5) 65535 = n2 l 6 := (and16b _).trans (n3_low l 5)
    have HZ : Hid ((decSF l).v = .agg #[.int .i64 (b1 l 0 / 16), .int .i64 (n3 l 1), .int .i64 (b1 l 4), .int .i64 (b1 l 5), .int .i64 (n2 l 6)]) := Lib.hid rfl
    obtain ⟨q, hq⟩ : ∃ q, (b1 l 0 % 16 == 0) = q := ⟨_, rfl⟩
    rw [hq] at HUK
    have HE1 : Hid (R = if q = true then (decSF l, true) else (zS, false)) := Lib.hid (by
      rw [HE.out, HL, ← hq]
      simp)
    clear HE HL hq
    generalize b1 l 0 / 16 = k at *
    generalize n3 l 1 = a at *
    generalize b1 l 4 = f4 at *
    generalize b1 l 5 = f5 at *
    generalize n2 l 6 = n at *
    generalize n3 l 5 = r5 at *
    go_enter Tryd.func17, Tryd.ntmps17
    go_wp2_with fail
    rw [← hW0]
    generalize hP : w.heap.size = P at KR ⊢
    clear hW0 hP
    refine (HUK.out _ HV.out).mono ?_
    rintro e w2 ⟨rfl, rfl⟩
    have r0 := KR.out.box.cell 0
    change _ = some (Value.int .i64 0) at r0
    have rf0 := KR.out.box.frozen 0
    have r1 := KR.out.box.cell 1
    change _ = some (Value.int .i64 0) at r1
    have rf1 := KR.out.box.frozen 1
    have r2 := KR.out.box.cell 2
    change _ = some (Value.int .i64 0) at r2
    have rf2 := KR.out.box.frozen 2
    have r3 := KR.out.box.cell 3
    change _ = some (Value.int .i64 0) at r3
    have rf3 := KR.out.box.frozen 3
    have r4 := KR.out.box.cell 4
    change _ = some (Value.int .i64 0) at r4
    have rf4 := KR.out.box.frozen 4
    cases q with
    | false =>
      have HE2 : Hid (R = (zS, false)) := Lib.hid (by rw [HE1.out]; rfl)
      go_wp2
      refine bodyPost_ret (results_ct rfl rfl rfl (load_cs (put5_at KR.out.box _ _ _ _ _))) rfl ?_
      exact ⟨by rw [HE2.out]; rfl, put5_below KR.out.bel KR.out.ge _ _ _ _ _⟩
    | true =>
      have HE2 : Hid (R = (decSF l, true)) := Lib.hid (by rw [HE1.out]; rfl)
      have HZ' : Hid ((R.1).v = .agg #[.int .i64 k, .int .i64 a, .int .i64 f4, .int .i64 f5, .int .i64 n]) := Lib.hid (by rw [HE2.out]; exact HZ.out)
      have HT2 : Hid (R.2 = true) := Lib.hid (by rw [HE2.out])
      go_wp2_with fail
      refine (HU4.out _ HV.out).mono ?_
      rintro e w2 ⟨rfl, rfl⟩
      go_wp2
      refine bodyPost_ret (results_ct rfl rfl rfl (load_cs (put5_at KR.out.box _ _ _ _ _))) rfl ?_
      exact ⟨by rw [HZ'.out, HT2.out]; rfl, put5_below KR.out.bel KR.out.ge _ _ _ _ _⟩
  · have HE1 : Hid (R = (zS, false)) := Lib.hid (by rw [HE.out, if_neg (fun h => h8 (HN.out.symm.trans h.1))])
    have h8' : ¬ (n : Int) = 8 := by omega
    clear HE h8
    go_enter Tryd.func17, Tryd.ntmps17
    go_wp2_with fail
    rw [← hW0]
    clear hW0
    refine bodyPost_ret (results_ct rfl rfl rfl (load_cs KR.out.box)) rfl ?_
    exact ⟨by rw [HE1.out]; rfl, KR.out.bel⟩
set_option maxRecDepth 100000 in
set_option maxHeartbeats 1000000 in
theorem caw_any {w : World} {sv : Value} {l : List UInt8} (h : SvB w sv l) : Calls Tryd.prog 19 #[sv] w fun e w' => e = .returned (.tuple #[.int .i64 (cawR l).1.1, .int .i64 (cawR l).1.2, .bool (cawR l).2]) ∧ w = w' := by
  have HV := Lib.hid h
  have HE : Hid (cawR l = if l.length = 4 ∧ b1 l 0 % 16 = 0 ∧ n3 l 1 % 8 = 0 then ((b1 l 0 / 16, n3 l 1), true) else ((0, 0), false)) := Lib.hid rfl
  obtain ⟨p, c, rfl, hr, h1, h2, _⟩ := h
  obtain ⟨n, hn⟩ : ∃ n, l.length = n := ⟨_, rfl⟩
  have HN := Lib.hid hn
  rw [hn] at h1 HV ⊢
  clear hn hr
  obtain ⟨R, hR⟩ : ∃ R, cawR l = R := ⟨_, rfl⟩
  rw [hR] at HE ⊢
  clear hR
  by_cases h4 : n = 4
  · subst h4
    have HL := HN.out
    have HUK := Lib.hid (fun W (h : SvB W (.slice p 4 c) l) => unpackKey_any h (by omega))
    have HT : (n3 l 1).tmod 8 = n3 l 1 % 8 := Int.tmod_eq_emod_of_nonneg (n3_bd l 1).1
    obtain ⟨q, hq⟩ : ∃ q, (b1 l 0 % 16 == 0) = q := ⟨_, rfl⟩
    obtain ⟨m, hm⟩ : ∃ m, n3 l 1 % 8 = m := ⟨_, rfl⟩
    rw [hq] at HUK
    rw [hm] at HT
    have HE1 : Hid (R = if q = true ∧ m = 0 then ((b1 l 0 / 16, n3 l 1), true) else ((0, 0), false)) := Lib.hid (by
      rw [HE.out, HL, ← hq, hm]
      simp)
    clear HE HL hq hm
    generalize b1 l 0 / 16 = k at *
    generalize n3 l 1 = a at *
    go_enter Tryd.func19, Tryd.ntmps19
    go_wp2_with fail
    refine (HUK.out _ HV.out).mono ?_
    rintro e w2 ⟨rfl, rfl⟩
    cases q with
    | false =>
      have HE2 : Hid (R = ((0, 0), false)) := Lib.hid (by rw [HE1.out, if_neg (by simp)])
      go_wp2
      go_ret3
      exact ⟨by rw [HE2.out]; rfl, rfl⟩
    | true =>
      by_cases hm : m = 0
      · subst hm
        have HE2 : Hid (R = ((k, a), true)) := Lib.hid (by rw [HE1.out, if_pos (by simp)])
        go_wp2
        go_ret3
        exact ⟨by rw [HE2.out]; rfl, rfl⟩
      · have HE2 : Hid (R = ((0, 0), false)) := Lib.hid (by rw [HE1.out, if_neg (by simp [hm])])
        go_wp2
        go_ret3
        exact ⟨by rw [HE2.out]; rfl, rfl⟩
  · have HE1 : Hid (R = ((0, 0), false)) := Lib.hid (by rw [HE.out, if_neg (fun h => h4 (HN.out.symm.trans h.1))])
    have h4' : ¬ (n : Int) = 4 := by omega
    clear HE h4
    go_enter Tryd.func19, Tryd.ntmps19
    go_wp2
    go_ret3
    exact ⟨by rw [HE1.out]; rfl, rfl⟩
end E
end Go.Proofs.YtijkbenbjdeocaaDoor
