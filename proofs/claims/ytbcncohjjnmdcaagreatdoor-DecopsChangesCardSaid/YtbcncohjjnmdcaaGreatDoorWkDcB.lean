/- DecopsChanges behind the first address: operation code 223. -/
import Derived.Test.YtbcncohjjnmdcaaGreatDoorRows
import Derived.Test.YtbcncohjjnmdcaaGreatDoorDpCb
import Derived.Test.YtbcncohjjnmdcaaGreatDoorDpFa
import Derived.Test.YtbcncohjjnmdcaaGreatDoorGnBuild
namespace Go.Proofs.YtbcncohjjnmdcaaGreatDoor
namespace E
end E
open Go.RowKit Go.Shelf E
set_option linter.unusedVariables false
namespace M

attribute [local go_sem 5000] regs_self psw_self
set_option maxRecDepth 100000 in
set_option maxHeartbeats 8000000 in
theorem dc_223 (A g h n m : Nat) (bs bs' ks : List UInt8) (q : Qn) (R R' : Nat → Int) (p : Psw) (cc' : Int) (x y z : Value) (w w7 x1 : World) (I T B8 BW BN cW cN : Nat) (u : Nat → Value)
    (HST7' : Sto w7 A g h n m bs' ks) (HB7' : Below w.heap.size w w7) (HR7' : Bx w7 B8 28 #[.int .u32 (R' 0), .int .u32 (R' 1), .int .u32 (R' 2), .int .u32 (R' 3), .int .u32 (R' 4), .int .u32 (R' 5), .int .u32 (R' 6), .int .u32 (R' 7), .int .u32 (R' 8), .int .u32 (R' 9), .int .u32 (R' 10), .int .u32 (R' 11), .int .u32 (R' 12), .int .u32 (R' 13), .int .u32 (R' 14), .int .u32 (R' 15)] ∧ Bx w7 (B8 + 1) 30 #[.int .i64 p.m, .int .i64 p.k, .bool p.ma, .bool p.wa, .bool p.pr, .int .i64 p.co, .int .i64 p.il, .int .i64 cc', .int .i64 p.pg, .int .i64 p.ad]) (HRW7' : Row w7 BW 5 (bsU bs) cW) (HRN' : Row w7 BN 5 (bsU bs') cN)
    (HRO' : RegOk R) (HQ' : QOk q) (HCC' : 0 ≤ cc' ∧ cc' ≤ 3) (HLN' : bs.length = n ∧ bs'.length = n) (HFB' : ∀ j, gt bs' j ≠ gt bs j → (frN q R ≤ j ∧ j < toN q R) ∧ stP p.k (gt ks (j / 2048)) = true) (HFR' : FrD q R R') (hle : n ≤ cW) (hcap : cW ≤ 9223372036854775807) (hle' : n ≤ cN) (hcap' : cN ≤ 9223372036854775807) (hn1 : 2048 ≤ n) (hn2 : n ≤ 65536) (KX' : Sk w7 I T q R p x y z x1) (hop : q.op = 223) :
    Code.wp Tryz.prog (rst 8 (bodyC Tryz.f7)) (bodyPost Tryz.prog Tryz.f7 (New w (.bool true))) { tmps := #[u 0, u 1, .pointer (some ⟨I, 0, none⟩), .pointer (some ⟨T, 0, none⟩), .bool false, .pointer (some ⟨A, 0, none⟩), u 6, .slice (some ⟨BW, 0, none⟩) n cW, .pointer (some ⟨B8, 0, none⟩), .pointer (some ⟨B8 + 1, 0, none⟩), u 10, .slice (some ⟨BN, 0, none⟩) n cN, .int .i64 (adF q R : Int), u 13, u 14, u 15, u 16, u 17, u 18, u 19, u 20, u 21, u 22, u 23, u 24, u 25, u 26, u 27, u 28, u 29, u 30, u 31, u 32, u 33, u 34, u 35, u 36, u 37, u 38, u 39, u 40, u 41, u 42, u 43, u 44, u 45, u 46, u 47, u 48, u 49, u 50, u 51, u 52, u 53, u 54, u 55, u 56, u 57, u 58, u 59, u 60, u 61, u 62, u 63, u 64, u 65, u 66, u 67, u 68, u 69, u 70, u 71, u 72, u 73, u 74, u 75, u 76, u 77, u 78, u 79, u 80, u 81, u 82, u 83, u 84, u 85, u 86, u 87, u 88, u 89, u 90, u 91, u 92, u 93, u 94, u 95, u 96, u 97, u 98, u 99, u 100, u 101, u 102, u 103, u 104, u 105, u 106, u 107, u 108, u 109, u 110, u 111, u 112, u 113, u 114, u 115, u 116, u 117, u 118, u 119, u 120, u 121, u 122, u 123, u 124, u 125, u 126, u 127, u 128, u 129, u 130, u 131, u 132, u 133, u 134, u 135, u 136, u 137, u 138, u 139, u 140, u 141, u 142, u 143, u 144, u 145, u 146, u 147, u 148, u 149, u 150, u 151, u 152, u 153, u 154, u 155, u 156, u 157, u 158, u 159, u 160, u 161, u 162, u 163, u 164, u 165, u 166, u 167, u 168, u 169, u 170, u 171, u 172, u 173, u 174, u 175, u 176, u 177, u 178, u 179, u 180, u 181, u 182, u 183, u 184, u 185, u 186, u 187, u 188, u 189, u 190, u 191, u 192, u 193, u 194, u 195, u 196, u 197, u 198, u 199, u 200, u 201, u 202, u 203, u 204, u 205, u 206, u 207, u 208, u 209, u 210, u 211, u 212, u 213, u 214, u 215, u 216], defers := [] } x1 := by
  have HST7 := Lib.hid HST7'
  have HB7 := Lib.hid HB7'
  have HR7 := Lib.hid HR7'
  have HRW7 := Lib.hid HRW7'
  have HRN := Lib.hid HRN'
  have HRO := Lib.hid HRO'
  have HQ := Lib.hid HQ'
  have HCC := Lib.hid HCC'
  have HLN := Lib.hid HLN'
  have HFBB := Lib.hid HFB'
  have HFR := Lib.hid HFR'
  have KX := Lib.hid KX'
  have HKEY := Lib.hid (fun X (hX : Below w7.heap.size w7 X) k hk => key_at A g h n m bs' ks k X (HST7'.below hX) hk)
  have HBS := Lib.hid (fun k (hk : k < 16) W => base_any R k hk W HRO')
  unfold regA at HBS
  have HA1 : Hid True := Lib.hid trivial
  have HTO : Hid (wrap64 (wrap64 ((adF q R : Int) + (q.l1 : Int)) + 1) = ((adF q R + (q.l1 + 1) : Nat) : Int)) := Lib.hid (to_any R HQ')
  clear HST7' HB7' HR7' HRW7' HRN' HRO' HQ' HCC' HLN' HFB' HFR' KX'
  change Code.wp _ (Code.seq (Code.region _ _ _) _) _ _ _
  have e78 : ((q.op : Int) == 78) = false := by rw [hop]; rfl
  have e79 : ((q.op : Int) == 79) = false := by rw [hop]; rfl
  have e249 : ((q.op : Int) == 249) = false := by rw [hop]; rfl
  have e223 : ((q.op : Int) == 223) = true := by rw [hop]; rfl
  have HFE : frN q R = adF q R ∧ toN q R = adF q R + (q.l1 + 1) := ⟨fr_f (by omega), to_f (by omega) (by omega)⟩
  have HFBC : Hid (∀ j, gt bs' j ≠ gt bs j → (adF q R ≤ j ∧ j < adF q R + (q.l1 + 1)) ∧ stP p.k (gt ks (j / 2048)) = true) := Lib.hid (fun j hj => by
    have h := HFBB.out j hj
    rw [HFE.1, HFE.2] at h
    exact h)
  obtain ⟨hfr, h24⟩ := HFR.out.2.2.1 hop
  have hz1 : (R' 1 / 16777216 != R 1 / 16777216) = false := by rw [h24]; simp
  have hz2 : ((R' 1).tdiv 16777216 != (R 1).tdiv 16777216) = false := by
    rw [Int.tdiv_eq_ediv_of_nonneg (HFR.out.1 1).1, Int.tdiv_eq_ediv_of_nonneg (HRO.out 1).1, h24]
    simp
  clear h24
  clear HFE HFBB HFR
  have hto := HTO.out
  clear HTO HA1
  generalize adF q R + (q.l1 + 1) = T1 at hto HFBC
  generalize adF q R = F1 at *
  have ci0 := KX.out.i0
  have ci9 := KX.out.i9
  clear hop
  go_wp2
  rw [hto]
  clear ci0 ci9 hto
  go_loopw [14] (fun i wr => ∃ k : Nat, k ≤ n ∧ i = .int .i64 (k : Int) ∧ Hid (Sk w7 I T q R p x y z wr)) (fun i _ => n - (intOf i).toNat)
  case atStart => exact ⟨0, Nat.zero_le _, rfl, KX⟩
  case round =>
    clear KX
    obtain ⟨k, hk, rfl, KW⟩ := hrel
    by_cases hlt : k < n
    · have hlt' : (k : Int) < (n : Int) := by omega
      have HKY := Lib.hid (HKEY.out wr KW.out.bel k hlt)
      have HSTP := Lib.hid (HFBC.out k)
      go_wp2_with fail
      refine HKY.out.mono ?_
      rintro e w8 ⟨rfl, hb⟩
      have KV := Lib.hid (KW.out.next hb)
      clear hb KW HKY
      have f1 := (HRW7.out.below KV.out.bel).cell k (by rw [bsU_len, HLN.out.1]; exact hlt)
      rw [bsU_get _ k (by rw [HLN.out.1]; exact hlt)] at f1
      have f2 := (HRN.out.below KV.out.bel).cell k (by rw [bsU_len, HLN.out.2]; exact hlt)
      rw [bsU_get _ k (by rw [HLN.out.2]; exact hlt)] at f2
      have f3 := KV.out.st.cell 17
      change _ = some (Value.int .i64 p.k) at f3
      by_cases heq : gt bs' k = gt bs k
      · rw [heq] at f2
        clear HSTP
        generalize (gt bs k).toNat = u at f1 f2
        generalize (gt ks (k / 2048)).toNat = v
        go_wp2
        go_quiet (fail)
        go_wp2
        go_roundw
        case rel => exact ⟨k + 1, hlt, by go_num, Lib.hid (KV.out.next (E.belowDraw _ _))⟩
        case measure => simp [intOf]; omega
      · obtain ⟨⟨hF, hT⟩, hs⟩ := HSTP.out heq
        have hne : (((gt bs k).toNat : Int) != ((gt bs' k).toNat : Int)) = true := by
          simp only [bne_iff_ne, ne_eq]
          intro e
          exact heq (UInt8.toNat_inj.1 (by omega))
        have hF' : ¬ ((k : Int) < (F1 : Int)) := by omega
        have hT' : ¬ ((k : Int) ≥ (T1 : Int)) := by omega
        have hF1 : decide ((k : Int) < (F1 : Int)) = false := decide_eq_false hF'
        have hF2 : decide (k < F1) = false := decide_eq_false (by omega)
        have hT1 : decide ((k : Int) ≥ (T1 : Int)) = false := decide_eq_false hT'
        have hT2 : decide (T1 ≤ k) = false := decide_eq_false (by omega)
        have hT3 : decide ((T1 : Int) ≤ (k : Int)) = false := decide_eq_false (by omega)
        have hT4 : decide (k ≥ T1) = false := decide_eq_false (by omega)
        have hT7 : decide ((k : Int) < (T1 : Int)) = true := decide_eq_true (by omega)
        have hT8 : decide (k < T1) = true := decide_eq_true (by omega)
        clear hF' hT'
        unfold stP at hs
        clear HSTP heq hF hT
        have hv := (gt ks (k / 2048)).toNat_lt
        generalize (gt ks (k / 2048)).toNat = v at hs hv ⊢
        generalize (gt bs k).toNat = u at f1 hne
        generalize (gt bs' k).toNat = u' at f2 hne
        by_cases hp0 : p.k = 0
        · have e1 : (p.k != 0) = false := by rw [hp0]; rfl
          have e2 : (p.k == 0) = true := by rw [hp0]; rfl
          clear hs hp0
          go_wp2
          go_quiet (fail)
          go_wp2
          go_roundw
          case rel => exact ⟨k + 1, hlt, by go_num, Lib.hid (KV.out.next (E.belowDraw _ _))⟩
          case measure => simp [intOf]; omega
        · have hpv : ((v : Int) / 2) = p.k := by
            simp only [Bool.or_eq_true, beq_iff_eq] at hs
            omega
          have e1 : (p.k != 0) = true := by simpa using hp0
          have e2 : ((v : Int) / 2 != p.k) = false := by rw [hpv]; simp
          have e3 : (Int.tdiv (v : Int) 2 != p.k) = false := by rw [Int.tdiv_eq_ediv_of_nonneg (by omega), hpv]; simp
          have hvI : (v : Int) < 256 := by omega
          clear hs hp0 hpv
          go_wp2
          go_quiet (fail)
          go_wp2
          go_roundw
          case rel => exact ⟨k + 1, hlt, by go_num, Lib.hid (KV.out.next (E.belowDraw _ _))⟩
          case measure => simp [intOf]; omega
    · obtain rfl : k = n := by omega
      have c0 := KW.out.i0
      have c23 := KW.out.st.cell 23
      change _ = some (Value.int .i64 p.cc) at c23
      have t1 := KW.out.ins.lt
      have t2 := KW.out.st.lt
      have hr8 := HR7.out.1.below KW.out.bel
      have hr9 := HR7.out.2.below KW.out.bel
      have d7 := hr9.cell 7
      change _ = some (Value.int .i64 cc') at d7
      have t3 := hr9.lt
      have t4 := hr8.lt
      have L9 := Lib.hid (fun X (hX : Below wr.heap.size wr X) => run_loadVar_row (P := Tryz.prog) X (B8 + 1) _ 30 _ _ _ (hr9.below hX) Tryz.underlying30 rfl (by kernel_rfl))
      have LT := Lib.hid (fun X (hX : Below wr.heap.size wr X) => sta_regs (KW.out.st.below hX))
      have LP := Lib.hid (fun X (hX : Below wr.heap.size wr X) => sta_psw (KW.out.st.below hX))
      obtain ⟨g1, g2⟩ := HCC.out
      have h8 : Bx wr B8 28 #[.int .u32 (R 0), .int .u32 (R' 1), .int .u32 (R 2), .int .u32 (R 3), .int .u32 (R 4), .int .u32 (R 5), .int .u32 (R 6), .int .u32 (R 7), .int .u32 (R 8), .int .u32 (R 9), .int .u32 (R 10), .int .u32 (R 11), .int .u32 (R 12), .int .u32 (R 13), .int .u32 (R 14), .int .u32 (R 15)] := by
        have h := hr8
        rw [hfr 0 (by decide), hfr 2 (by decide), hfr 3 (by decide), hfr 4 (by decide), hfr 5 (by decide), hfr 6 (by decide), hfr 7 (by decide), hfr 8 (by decide), hfr 9 (by decide), hfr 10 (by decide), hfr 11 (by decide), hfr 12 (by decide), hfr 13 (by decide), hfr 14 (by decide), hfr 15 (by decide)] at h
        exact h
      have q1 := h8.cell 1
      change _ = some (Value.int .u32 (R' 1)) at q1
      have q2 := KW.out.st.cell 1
      change _ = some (Value.int .u32 (R 1)) at q2
      have L8 := Lib.hid (run_loadVar_row (P := Tryz.prog) wr B8 _ 28 #[.int .u32 (R 0), .int .u32 (R' 1), .int .u32 (R 2), .int .u32 (R 3), .int .u32 (R 4), .int .u32 (R 5), .int .u32 (R 6), .int .u32 (R 7), .int .u32 (R 8), .int .u32 (R 9), .int .u32 (R 10), .int .u32 (R 11), .int .u32 (R 12), .int .u32 (R 13), .int .u32 (R 14), .int .u32 (R 15)] _ _ h8 Tryz.underlying28 rfl (by kernel_rfl))
      have LQ : Hid ((loadVar 28 ⟨wr.heap.size, 0, none⟩).run Tryz.prog ((wr.alloc (.cells #[.int .u32 (R 0), .int .u32 (R 1), .int .u32 (R 2), .int .u32 (R 3), .int .u32 (R 4), .int .u32 (R 5), .int .u32 (R 6), .int .u32 (R 7), .int .u32 (R 8), .int .u32 (R 9), .int .u32 (R 10), .int .u32 (R 11), .int .u32 (R 12), .int .u32 (R 13), .int .u32 (R 14), .int .u32 (R 15)] 28)).alloc (.cells #[.int .i64 p.m, .int .i64 p.k, .bool p.ma, .bool p.wa, .bool p.pr, .int .i64 p.co, .int .i64 p.il, .int .i64 p.cc, .int .i64 p.pg, .int .i64 p.ad] 30)) = .ok (.agg #[.int .u32 (R 0), .int .u32 (R 1), .int .u32 (R 2), .int .u32 (R 3), .int .u32 (R 4), .int .u32 (R 5), .int .u32 (R 6), .int .u32 (R 7), .int .u32 (R 8), .int .u32 (R 9), .int .u32 (R 10), .int .u32 (R 11), .int .u32 (R 12), .int .u32 (R 13), .int .u32 (R 14), .int .u32 (R 15)]) ((wr.alloc (.cells #[.int .u32 (R 0), .int .u32 (R 1), .int .u32 (R 2), .int .u32 (R 3), .int .u32 (R 4), .int .u32 (R 5), .int .u32 (R 6), .int .u32 (R 7), .int .u32 (R 8), .int .u32 (R 9), .int .u32 (R 10), .int .u32 (R 11), .int .u32 (R 12), .int .u32 (R 13), .int .u32 (R 14), .int .u32 (R 15)] 28)).alloc (.cells #[.int .i64 p.m, .int .i64 p.k, .bool p.ma, .bool p.wa, .bool p.pr, .int .i64 p.co, .int .i64 p.il, .int .i64 p.cc, .int .i64 p.pg, .int .i64 p.ad] 30))) := Lib.hid (run_loadVar_row (P := Tryz.prog) _ wr.heap.size _ 28 _ _ _ ((Bx.new wr 28 #[.int .u32 (R 0), .int .u32 (R 1), .int .u32 (R 2), .int .u32 (R 3), .int .u32 (R 4), .int .u32 (R 5), .int .u32 (R 6), .int .u32 (R 7), .int .u32 (R 8), .int .u32 (R 9), .int .u32 (R 10), .int .u32 (R 11), .int .u32 (R 12), .int .u32 (R 13), .int .u32 (R 14), .int .u32 (R 15)]).below (below_new _ _)) Tryz.underlying28 rfl (by kernel_rfl))
      have LU : Hid ((loadVar 30 ⟨wr.heap.size + 1, 0, none⟩).run Tryz.prog ((wr.alloc (.cells #[.int .u32 (R 0), .int .u32 (R 1), .int .u32 (R 2), .int .u32 (R 3), .int .u32 (R 4), .int .u32 (R 5), .int .u32 (R 6), .int .u32 (R 7), .int .u32 (R 8), .int .u32 (R 9), .int .u32 (R 10), .int .u32 (R 11), .int .u32 (R 12), .int .u32 (R 13), .int .u32 (R 14), .int .u32 (R 15)] 28)).alloc (.cells #[.int .i64 p.m, .int .i64 p.k, .bool p.ma, .bool p.wa, .bool p.pr, .int .i64 p.co, .int .i64 p.il, .int .i64 p.cc, .int .i64 p.pg, .int .i64 p.ad] 30)) = .ok (.agg #[.int .i64 p.m, .int .i64 p.k, .bool p.ma, .bool p.wa, .bool p.pr, .int .i64 p.co, .int .i64 p.il, .int .i64 p.cc, .int .i64 p.pg, .int .i64 p.ad]) ((wr.alloc (.cells #[.int .u32 (R 0), .int .u32 (R 1), .int .u32 (R 2), .int .u32 (R 3), .int .u32 (R 4), .int .u32 (R 5), .int .u32 (R 6), .int .u32 (R 7), .int .u32 (R 8), .int .u32 (R 9), .int .u32 (R 10), .int .u32 (R 11), .int .u32 (R 12), .int .u32 (R 13), .int .u32 (R 14), .int .u32 (R 15)] 28)).alloc (.cells #[.int .i64 p.m, .int .i64 p.k, .bool p.ma, .bool p.wa, .bool p.pr, .int .i64 p.co, .int .i64 p.il, .int .i64 p.cc, .int .i64 p.pg, .int .i64 p.ad] 30))) := Lib.hid (by
        have h1 := Bx.new (wr.alloc (.cells #[.int .u32 (R 0), .int .u32 (R 1), .int .u32 (R 2), .int .u32 (R 3), .int .u32 (R 4), .int .u32 (R 5), .int .u32 (R 6), .int .u32 (R 7), .int .u32 (R 8), .int .u32 (R 9), .int .u32 (R 10), .int .u32 (R 11), .int .u32 (R 12), .int .u32 (R 13), .int .u32 (R 14), .int .u32 (R 15)] 28)) 30 #[.int .i64 p.m, .int .i64 p.k, .bool p.ma, .bool p.wa, .bool p.pr, .int .i64 p.co, .int .i64 p.il, .int .i64 p.cc, .int .i64 p.pg, .int .i64 p.ad]
        rw [World.size_alloc] at h1
        exact run_loadVar_row (P := Tryz.prog) _ (wr.heap.size + 1) _ 30 _ _ _ h1 Tryz.underlying30 rfl (by kernel_rfl))
      have HBW := Lib.hid KW.out.bel
      clear KW HKEY HFBC HRW7 HRN HST7 HR7 hr8 hr9 h8
      generalize R' 1 = v1 at *
      go_wp2_with (first | (refine wpList_valW (by rfl) (exec_load 28 _ rfl ⟨B8, 0, none⟩ rfl L8.out) ?_) | (refine wpList_valW (by rfl) (exec_load 28 _ rfl ⟨T, 0, none⟩ rfl (LT.out _ (by first | exact below_new _ _ | exact bel0 (below_new _ _) (below_new _ _)))) ?_) | (refine wpList_valW (by rfl) (exec_load 30 _ rfl ⟨T, 16, none⟩ rfl (LP.out _ (by first | exact below_new _ _ | exact bel0 (below_new _ _) (below_new _ _)))) ?_) | (refine wpList_valW (by rfl) (exec_load 30 _ rfl ⟨B8 + 1, 0, none⟩ rfl (L9.out _ (by first | exact below_new _ _ | exact bel0 (below_new _ _) (below_new _ _)))) ?_) | (refine wpList_valW (by rfl) (exec_load 28 _ rfl ⟨wr.heap.size, 0, none⟩ rfl LQ.out) ?_) | (refine wpList_valW (by rfl) (exec_load 30 _ rfl ⟨wr.heap.size + 1, 0, none⟩ rfl LU.out) ?_))
      go_ret
      exact ⟨rfl, bel0 HB7.out (bel0 HBW.out (bel0 (below_new _ _) (below_new _ _)))⟩

end M
end Go.Proofs.YtbcncohjjnmdcaaGreatDoor
namespace Go.Proofs.YtbcncohjjnmdcaaGreatDoor
namespace E
end E
open Go.RowKit Go.Shelf E
set_option linter.unusedVariables false
namespace M

attribute [local go_sem 5000] regs_self psw_self
set_option maxRecDepth 100000 in
set_option maxHeartbeats 8000000 in
theorem dc_78 (A g h n m : Nat) (bs bs' ks : List UInt8) (q : Qn) (R R' : Nat → Int) (p : Psw) (cc' : Int) (x y z : Value) (w w7 x1 : World) (I T B8 BW BN cW cN : Nat) (u : Nat → Value)
    (HST7' : Sto w7 A g h n m bs' ks) (HB7' : Below w.heap.size w w7) (HR7' : Bx w7 B8 28 #[.int .u32 (R' 0), .int .u32 (R' 1), .int .u32 (R' 2), .int .u32 (R' 3), .int .u32 (R' 4), .int .u32 (R' 5), .int .u32 (R' 6), .int .u32 (R' 7), .int .u32 (R' 8), .int .u32 (R' 9), .int .u32 (R' 10), .int .u32 (R' 11), .int .u32 (R' 12), .int .u32 (R' 13), .int .u32 (R' 14), .int .u32 (R' 15)] ∧ Bx w7 (B8 + 1) 30 #[.int .i64 p.m, .int .i64 p.k, .bool p.ma, .bool p.wa, .bool p.pr, .int .i64 p.co, .int .i64 p.il, .int .i64 cc', .int .i64 p.pg, .int .i64 p.ad]) (HRW7' : Row w7 BW 5 (bsU bs) cW) (HRN' : Row w7 BN 5 (bsU bs') cN)
    (HRO' : RegOk R) (HQ' : QOk q) (HCC' : 0 ≤ cc' ∧ cc' ≤ 3) (HLN' : bs.length = n ∧ bs'.length = n) (HFB' : ∀ j, gt bs' j ≠ gt bs j → (frN q R ≤ j ∧ j < toN q R) ∧ stP p.k (gt ks (j / 2048)) = true) (HFR' : FrD q R R') (hle : n ≤ cW) (hcap : cW ≤ 9223372036854775807) (hle' : n ≤ cN) (hcap' : cN ≤ 9223372036854775807) (hn1 : 2048 ≤ n) (hn2 : n ≤ 65536) (KX' : Sk w7 I T q R p x y z x1) (hop : q.op = 78) :
    Code.wp Tryz.prog (rst 8 (bodyC Tryz.f7)) (bodyPost Tryz.prog Tryz.f7 (New w (.bool true))) { tmps := #[u 0, u 1, .pointer (some ⟨I, 0, none⟩), .pointer (some ⟨T, 0, none⟩), .bool false, .pointer (some ⟨A, 0, none⟩), u 6, .slice (some ⟨BW, 0, none⟩) n cW, .pointer (some ⟨B8, 0, none⟩), .pointer (some ⟨B8 + 1, 0, none⟩), u 10, .slice (some ⟨BN, 0, none⟩) n cN, .int .i64 (adF q R : Int), u 13, u 14, u 15, u 16, u 17, u 18, u 19, u 20, u 21, u 22, u 23, u 24, u 25, u 26, u 27, u 28, u 29, u 30, u 31, u 32, u 33, u 34, u 35, u 36, u 37, u 38, u 39, u 40, u 41, u 42, u 43, u 44, u 45, u 46, u 47, u 48, u 49, u 50, u 51, u 52, u 53, u 54, u 55, u 56, u 57, u 58, u 59, u 60, u 61, u 62, u 63, u 64, u 65, u 66, u 67, u 68, u 69, u 70, u 71, u 72, u 73, u 74, u 75, u 76, u 77, u 78, u 79, u 80, u 81, u 82, u 83, u 84, u 85, u 86, u 87, u 88, u 89, u 90, u 91, u 92, u 93, u 94, u 95, u 96, u 97, u 98, u 99, u 100, u 101, u 102, u 103, u 104, u 105, u 106, u 107, u 108, u 109, u 110, u 111, u 112, u 113, u 114, u 115, u 116, u 117, u 118, u 119, u 120, u 121, u 122, u 123, u 124, u 125, u 126, u 127, u 128, u 129, u 130, u 131, u 132, u 133, u 134, u 135, u 136, u 137, u 138, u 139, u 140, u 141, u 142, u 143, u 144, u 145, u 146, u 147, u 148, u 149, u 150, u 151, u 152, u 153, u 154, u 155, u 156, u 157, u 158, u 159, u 160, u 161, u 162, u 163, u 164, u 165, u 166, u 167, u 168, u 169, u 170, u 171, u 172, u 173, u 174, u 175, u 176, u 177, u 178, u 179, u 180, u 181, u 182, u 183, u 184, u 185, u 186, u 187, u 188, u 189, u 190, u 191, u 192, u 193, u 194, u 195, u 196, u 197, u 198, u 199, u 200, u 201, u 202, u 203, u 204, u 205, u 206, u 207, u 208, u 209, u 210, u 211, u 212, u 213, u 214, u 215, u 216], defers := [] } x1 := by
  have HST7 := Lib.hid HST7'
  have HB7 := Lib.hid HB7'
  have HR7 := Lib.hid HR7'
  have HRW7 := Lib.hid HRW7'
  have HRN := Lib.hid HRN'
  have HRO := Lib.hid HRO'
  have HQ := Lib.hid HQ'
  have HCC := Lib.hid HCC'
  have HLN := Lib.hid HLN'
  have HFBB := Lib.hid HFB'
  have HFR := Lib.hid HFR'
  have KX := Lib.hid KX'
  have HKEY := Lib.hid (fun X (hX : Below w7.heap.size w7 X) k hk => key_at A g h n m bs' ks k X (HST7'.below hX) hk)
  have HBS := Lib.hid (fun k (hk : k < 16) W => base_any R k hk W HRO')
  unfold regA at HBS
  have HA1 : Hid True := Lib.hid trivial
  have HTO : Hid (wrap64 (wrap64 ((adF q R : Int) + (q.l1 : Int)) + 1) = ((adF q R + (q.l1 + 1) : Nat) : Int)) := Lib.hid (to_any R HQ')
  clear HST7' HB7' HR7' HRW7' HRN' HRO' HQ' HCC' HLN' HFB' HFR' KX'
  change Code.wp _ (Code.seq (Code.region _ _ _) _) _ _ _
  have e78 : ((q.op : Int) == 78) = true := by rw [hop]; rfl
  have e79 : ((q.op : Int) == 79) = false := by rw [hop]; rfl
  have e249 : ((q.op : Int) == 249) = false := by rw [hop]; rfl
  have e223 : ((q.op : Int) == 223) = false := by rw [hop]; rfl
  have hRR : R = R' := (HFR.out.2.2.2 (by omega) (by omega)).symm
  subst hRR
  have HFE : frN q R = adT q R ∧ toN q R = adT q R + 8 := by
    unfold toN frN
    rw [hop]
    simp
  have HFBC : Hid (∀ j, gt bs' j ≠ gt bs j → (adT q R ≤ j ∧ j < adT q R + 8) ∧ stP p.k (gt ks (j / 2048)) = true) := Lib.hid (fun j hj => by
    have h := HFBB.out j hj
    rw [HFE.1, HFE.2] at h
    exact h)
  have HA2 : Hid (IntKind.i64.wrap (bsV R q.b2 + bsV R q.x2) = bsV R q.b2 + bsV R q.x2 ∧ IntKind.i64.wrap (bsV R q.b2 + bsV R q.x2 + (q.d2 : Int)) = bsV R q.b2 + bsV R q.x2 + (q.d2 : Int) ∧ (bsV R q.b2 + bsV R q.x2 + (q.d2 : Int)).tmod 16777216 = (adT q R : Int)) := Lib.hid (by
    have h1 := bsV_bd HRO.out q.b2
    have h2 := bsV_bd HRO.out q.x2
    have h3 := HQ.out.d2
    refine ⟨wrap_i64s (by omega) (by omega), wrap_i64s (by omega) (by omega), ?_⟩
    rw [Int.tmod_eq_emod_of_nonneg (by omega)]
    exact adT_base HRO.out q h3)
  clear HFE HFBB HFR HTO
  have KY : Hid (Sk w7 I T q R p x y z x1.drew) := Lib.hid (KX.out.next (bel_drew _))
  have ci0 := KX.out.i0
  have ci9 := KX.out.i9
  clear KX
  go_wp2_with fail
  clear ci0 ci9
  refine wp_region_held_drew (S := Sk w7 I T q R p x y z) (by kernel_rfl) KY.out (fun k0 => ?_)
  show wpAnyH _ _ _ _ _ 16 #[false, false, false, false, false, false, false, false, false, false, false, false, false, false, false, false] _ _
  refine wpAnyH_take (i := 0) (oi := { dst := some 88, op := Go.Op.fieldAddr 36 (Go.Operand.tmp 3) 0, type := 0, pos := "outright.go:33", after := #[], guard := none }) (v := .pointer (some ⟨T, 0, none⟩)) rfl (by kernel_rfl) (by kernel_rfl) (by kernel_rfl) (fun _ _ _ h => h) (Or.inl ⟨by rfl, fun W hSw => by (try dsimp only at hSw); go_simp⟩) k0 ?_
  try simp only [Act.put, List.setIfInBounds_toArray, List.set_cons_zero, List.set_cons_succ]
  refine wpAnyH_take (i := 1) (oi := { dst := some 89, op := Go.Op.load 28 (Go.Operand.tmp 88), type := 28, pos := "outright.go:33", after := #[{ on := 0, ground := Go.Ground.data }], guard := none }) (v := .agg #[.int .u32 (R 0), .int .u32 (R 1), .int .u32 (R 2), .int .u32 (R 3), .int .u32 (R 4), .int .u32 (R 5), .int .u32 (R 6), .int .u32 (R 7), .int .u32 (R 8), .int .u32 (R 9), .int .u32 (R 10), .int .u32 (R 11), .int .u32 (R 12), .int .u32 (R 13), .int .u32 (R 14), .int .u32 (R 15)]) rfl (by kernel_rfl) (by kernel_rfl) (by kernel_rfl) (fun _ _ _ h => h) (Or.inl ⟨by rfl, fun W hSw => exec_load _ _ rfl _ rfl (sta_regs hSw.st)⟩) k0 ?_
  try simp only [Act.put, List.setIfInBounds_toArray, List.set_cons_zero, List.set_cons_succ]
  refine wpAnyH_take (i := 2) (oi := { dst := some 90, op := Go.Op.fieldAddr 25 (Go.Operand.tmp 2) 7, type := 0, pos := "outright.go:33", after := #[], guard := none }) (v := .pointer (some ⟨I, 7, none⟩)) rfl (by kernel_rfl) (by kernel_rfl) (by kernel_rfl) (fun _ _ _ h => h) (Or.inl ⟨by rfl, fun W hSw => by (try dsimp only at hSw); go_simp⟩) k0 ?_
  try simp only [Act.put, List.setIfInBounds_toArray, List.set_cons_zero, List.set_cons_succ]
  refine wpAnyH_take (i := 3) (oi := { dst := some 91, op := Go.Op.load 3 (Go.Operand.tmp 90), type := 3, pos := "outright.go:33", after := #[{ on := 2, ground := Go.Ground.data }], guard := none }) (v := .int .i64 (q.b2 : Int)) rfl (by kernel_rfl) (by kernel_rfl) (by kernel_rfl) (fun _ _ _ h => h) (Or.inl ⟨by rfl, fun W hSw => by have cq := hSw.i7; clear hSw; go_simp⟩) k0 ?_
  try simp only [Act.put, List.setIfInBounds_toArray, List.set_cons_zero, List.set_cons_succ]
  refine wpAnyH_take (i := 5) (oi := { dst := some 93, op := Go.Op.fieldAddr 36 (Go.Operand.tmp 3) 0, type := 0, pos := "outright.go:33", after := #[], guard := none }) (v := .pointer (some ⟨T, 0, none⟩)) rfl (by kernel_rfl) (by kernel_rfl) (by kernel_rfl) (fun _ _ _ h => h) (Or.inl ⟨by rfl, fun W hSw => by (try dsimp only at hSw); go_simp⟩) k0 ?_
  try simp only [Act.put, List.setIfInBounds_toArray, List.set_cons_zero, List.set_cons_succ]
  refine wpAnyH_take (i := 6) (oi := { dst := some 94, op := Go.Op.load 28 (Go.Operand.tmp 93), type := 28, pos := "outright.go:33", after := #[{ on := 5, ground := Go.Ground.data }], guard := none }) (v := .agg #[.int .u32 (R 0), .int .u32 (R 1), .int .u32 (R 2), .int .u32 (R 3), .int .u32 (R 4), .int .u32 (R 5), .int .u32 (R 6), .int .u32 (R 7), .int .u32 (R 8), .int .u32 (R 9), .int .u32 (R 10), .int .u32 (R 11), .int .u32 (R 12), .int .u32 (R 13), .int .u32 (R 14), .int .u32 (R 15)]) rfl (by kernel_rfl) (by kernel_rfl) (by kernel_rfl) (fun _ _ _ h => h) (Or.inl ⟨by rfl, fun W hSw => exec_load _ _ rfl _ rfl (sta_regs hSw.st)⟩) k0 ?_
  try simp only [Act.put, List.setIfInBounds_toArray, List.set_cons_zero, List.set_cons_succ]
  refine wpAnyH_take (i := 7) (oi := { dst := some 95, op := Go.Op.fieldAddr 25 (Go.Operand.tmp 2) 4, type := 0, pos := "outright.go:33", after := #[], guard := none }) (v := .pointer (some ⟨I, 4, none⟩)) rfl (by kernel_rfl) (by kernel_rfl) (by kernel_rfl) (fun _ _ _ h => h) (Or.inl ⟨by rfl, fun W hSw => by (try dsimp only at hSw); go_simp⟩) k0 ?_
  try simp only [Act.put, List.setIfInBounds_toArray, List.set_cons_zero, List.set_cons_succ]
  refine wpAnyH_take (i := 8) (oi := { dst := some 96, op := Go.Op.load 3 (Go.Operand.tmp 95), type := 3, pos := "outright.go:33", after := #[{ on := 7, ground := Go.Ground.data }], guard := none }) (v := .int .i64 (q.x2 : Int)) rfl (by kernel_rfl) (by kernel_rfl) (by kernel_rfl) (fun _ _ _ h => h) (Or.inl ⟨by rfl, fun W hSw => by have cq := hSw.i4; clear hSw; go_simp⟩) k0 ?_
  try simp only [Act.put, List.setIfInBounds_toArray, List.set_cons_zero, List.set_cons_succ]
  refine wpAnyH_take (i := 11) (oi := { dst := some 99, op := Go.Op.fieldAddr 25 (Go.Operand.tmp 2) 8, type := 0, pos := "outright.go:33", after := #[], guard := none }) (v := .pointer (some ⟨I, 8, none⟩)) rfl (by kernel_rfl) (by kernel_rfl) (by kernel_rfl) (fun _ _ _ h => h) (Or.inl ⟨by rfl, fun W hSw => by (try dsimp only at hSw); go_simp⟩) k0 ?_
  try simp only [Act.put, List.setIfInBounds_toArray, List.set_cons_zero, List.set_cons_succ]
  refine wpAnyH_take (i := 12) (oi := { dst := some 100, op := Go.Op.load 3 (Go.Operand.tmp 99), type := 3, pos := "outright.go:33", after := #[{ on := 11, ground := Go.Ground.data }], guard := none }) (v := .int .i64 (q.d2 : Int)) rfl (by kernel_rfl) (by kernel_rfl) (by kernel_rfl) (fun _ _ _ h => h) (Or.inl ⟨by rfl, fun W hSw => by have cq := hSw.i8; clear hSw; go_simp⟩) k0 ?_
  try simp only [Act.put, List.setIfInBounds_toArray, List.set_cons_zero, List.set_cons_succ]
  refine wpAnyH_ready (rs := [4]) (by kernel_rfl) (by simp) ?_
  refine AllReadyH.cons (o := { dst := some 92, op := Go.Op.call { callee := Go.Callee.value (Go.Operand.func 21), args := #[Go.Operand.tmp 89, Go.Operand.tmp 91], argTypes := #[28, 3] }, type := 3, pos := "outright.go:33", after := #[{ on := 1, ground := Go.Ground.data }, { on := 3, ground := Go.Ground.data }], guard := none }) rfl (fun K hK => ?_) AllReadyH.nil
  go_simp
  go_at_call 21
  refine (HBS.out _ HQ.out.b2 _).mono ?_
  rintro e x2 ⟨rfl, hb⟩
  have kk := k0.next hb
  clear hb
  go_wp2_with fail
  refine hK.out _ _ kk (fun k1 => ?_)
  clear kk
  clear hK K
  try simp only [List.setIfInBounds_toArray, List.set_cons_zero, List.set_cons_succ]
  refine wpAnyH_ready (rs := [9]) (by kernel_rfl) (by simp) ?_
  refine AllReadyH.cons (o := { dst := some 97, op := Go.Op.call { callee := Go.Callee.value (Go.Operand.func 21), args := #[Go.Operand.tmp 94, Go.Operand.tmp 96], argTypes := #[28, 3] }, type := 3, pos := "outright.go:33", after := #[{ on := 6, ground := Go.Ground.data }, { on := 8, ground := Go.Ground.data }, { on := 4, ground := Go.Ground.chain }], guard := none }) rfl (fun K hK => ?_) AllReadyH.nil
  go_simp
  go_at_call 21
  refine (HBS.out _ HQ.out.x2 _).mono ?_
  rintro e x3 ⟨rfl, hb⟩
  have kk := k1.next hb
  clear hb
  go_wp2_with fail
  refine hK.out _ _ kk (fun k2 => ?_)
  clear kk
  clear hK K
  try simp only [List.setIfInBounds_toArray, List.set_cons_zero, List.set_cons_succ]
  refine wpAnyH_take (i := 10) (oi := { dst := some 98, op := Go.Op.binOp Go.BinOp.add 3 (Go.Operand.tmp 92) (Go.Operand.tmp 97) 3, type := 3, pos := "outright.go:33", after := #[{ on := 4, ground := Go.Ground.data }, { on := 9, ground := Go.Ground.data }], guard := none }) (v := .int .i64 (bsV R q.b2 + bsV R q.x2)) rfl (by kernel_rfl) (by kernel_rfl) (by kernel_rfl) (fun _ _ _ h => h) (Or.inl ⟨by rfl, fun W hSw => by clear hSw; go_simp; exact HA2.out.1⟩) k2 ?_
  try simp only [Act.put, List.setIfInBounds_toArray, List.set_cons_zero, List.set_cons_succ]
  refine wpAnyH_take (i := 13) (oi := { dst := some 101, op := Go.Op.binOp Go.BinOp.add 3 (Go.Operand.tmp 98) (Go.Operand.tmp 100) 3, type := 3, pos := "outright.go:33", after := #[{ on := 10, ground := Go.Ground.data }, { on := 12, ground := Go.Ground.data }], guard := none }) (v := .int .i64 (bsV R q.b2 + bsV R q.x2 + (q.d2 : Int))) rfl (by kernel_rfl) (by kernel_rfl) (by kernel_rfl) (fun _ _ _ h => h) (Or.inl ⟨by rfl, fun W hSw => by clear hSw; go_simp; exact HA2.out.2.1⟩) k2 ?_
  try simp only [Act.put, List.setIfInBounds_toArray, List.set_cons_zero, List.set_cons_succ]
  refine wpAnyH_take (i := 14) (oi := { dst := some 102, op := Go.Op.binOp Go.BinOp.rem 3 (Go.Operand.tmp 101) (Go.Operand.const (Go.Value.int Go.IntKind.i64 16777216)) 3, type := 3, pos := "outright.go:33", after := #[{ on := 13, ground := Go.Ground.data }], guard := none }) (v := .int .i64 (adT q R : Int)) rfl (by kernel_rfl) (by kernel_rfl) (by kernel_rfl) (fun _ _ _ h => h) (Or.inl ⟨by rfl, fun W hSw => by clear hSw; go_simp; exact HA2.out.2.2⟩) k2 ?_
  try simp only [Act.put, List.setIfInBounds_toArray, List.set_cons_zero, List.set_cons_succ]
  refine wpAnyH_take (i := 15) (oi := { dst := some 12, op := Go.Op.assign (Go.Operand.tmp 102), type := 3, pos := "outright.go:33", after := #[{ on := 14, ground := Go.Ground.data }, { on := 9, ground := Go.Ground.chain }, { on := 0, ground := Go.Ground.phase }, { on := 1, ground := Go.Ground.phase }, { on := 2, ground := Go.Ground.phase }, { on := 3, ground := Go.Ground.phase }, { on := 4, ground := Go.Ground.phase }, { on := 5, ground := Go.Ground.phase }, { on := 6, ground := Go.Ground.phase }, { on := 7, ground := Go.Ground.phase }, { on := 8, ground := Go.Ground.phase }, { on := 9, ground := Go.Ground.phase }, { on := 10, ground := Go.Ground.phase }, { on := 11, ground := Go.Ground.phase }, { on := 12, ground := Go.Ground.phase }, { on := 13, ground := Go.Ground.phase }, { on := 14, ground := Go.Ground.phase }], guard := none }) (v := .int .i64 (adT q R : Int)) rfl (by kernel_rfl) (by kernel_rfl) (by kernel_rfl) (fun _ _ _ h => h) (Or.inl ⟨by rfl, fun W hSw => by (try dsimp only at hSw); go_simp⟩) k2 ?_
  try simp only [Act.put, List.setIfInBounds_toArray, List.set_cons_zero, List.set_cons_succ]
  refine wpAnyH_done (by kernel_rfl) ?_ _
  refine id ?_
  have KX := Lib.hid k2
  clear k0
  have hto := to8_any q R
  clear HA1 HA2
  generalize adT q R + 8 = T1 at hto HFBC
  generalize adT q R = F1 at *
  have ci0 := KX.out.i0
  clear hop
  go_wp2
  rw [hto]
  clear ci0 hto
  go_loopw [14] (fun i wr => ∃ k : Nat, k ≤ n ∧ i = .int .i64 (k : Int) ∧ Hid (Sk w7 I T q R p x y z wr)) (fun i _ => n - (intOf i).toNat)
  case atStart => exact ⟨0, Nat.zero_le _, rfl, KX⟩
  case round =>
    clear KX
    obtain ⟨k, hk, rfl, KW⟩ := hrel
    by_cases hlt : k < n
    · have hlt' : (k : Int) < (n : Int) := by omega
      have HKY := Lib.hid (HKEY.out wr KW.out.bel k hlt)
      have HSTP := Lib.hid (HFBC.out k)
      go_wp2_with fail
      refine HKY.out.mono ?_
      rintro e w8 ⟨rfl, hb⟩
      have KV := Lib.hid (KW.out.next hb)
      clear hb KW HKY
      have f1 := (HRW7.out.below KV.out.bel).cell k (by rw [bsU_len, HLN.out.1]; exact hlt)
      rw [bsU_get _ k (by rw [HLN.out.1]; exact hlt)] at f1
      have f2 := (HRN.out.below KV.out.bel).cell k (by rw [bsU_len, HLN.out.2]; exact hlt)
      rw [bsU_get _ k (by rw [HLN.out.2]; exact hlt)] at f2
      have f3 := KV.out.st.cell 17
      change _ = some (Value.int .i64 p.k) at f3
      by_cases heq : gt bs' k = gt bs k
      · rw [heq] at f2
        clear HSTP
        generalize (gt bs k).toNat = u at f1 f2
        generalize (gt ks (k / 2048)).toNat = v
        go_wp2
        go_quiet (fail)
        go_wp2
        go_roundw
        case rel => exact ⟨k + 1, hlt, by go_num, Lib.hid (KV.out.next (E.belowDraw _ _))⟩
        case measure => simp [intOf]; omega
      · obtain ⟨⟨hF, hT⟩, hs⟩ := HSTP.out heq
        have hne : (((gt bs k).toNat : Int) != ((gt bs' k).toNat : Int)) = true := by
          simp only [bne_iff_ne, ne_eq]
          intro e
          exact heq (UInt8.toNat_inj.1 (by omega))
        have hF' : ¬ ((k : Int) < (F1 : Int)) := by omega
        have hT' : ¬ ((k : Int) ≥ (T1 : Int)) := by omega
        have hF1 : decide ((k : Int) < (F1 : Int)) = false := decide_eq_false hF'
        have hF2 : decide (k < F1) = false := decide_eq_false (by omega)
        have hT1 : decide ((k : Int) ≥ (T1 : Int)) = false := decide_eq_false hT'
        have hT2 : decide (T1 ≤ k) = false := decide_eq_false (by omega)
        have hT3 : decide ((T1 : Int) ≤ (k : Int)) = false := decide_eq_false (by omega)
        have hT4 : decide (k ≥ T1) = false := decide_eq_false (by omega)
        have hT7 : decide ((k : Int) < (T1 : Int)) = true := decide_eq_true (by omega)
        have hT8 : decide (k < T1) = true := decide_eq_true (by omega)
        clear hF' hT'
        unfold stP at hs
        clear HSTP heq hF hT
        have hv := (gt ks (k / 2048)).toNat_lt
        generalize (gt ks (k / 2048)).toNat = v at hs hv ⊢
        generalize (gt bs k).toNat = u at f1 hne
        generalize (gt bs' k).toNat = u' at f2 hne
        by_cases hp0 : p.k = 0
        · have e1 : (p.k != 0) = false := by rw [hp0]; rfl
          have e2 : (p.k == 0) = true := by rw [hp0]; rfl
          clear hs hp0
          go_wp2
          go_quiet (fail)
          go_wp2
          go_roundw
          case rel => exact ⟨k + 1, hlt, by go_num, Lib.hid (KV.out.next (E.belowDraw _ _))⟩
          case measure => simp [intOf]; omega
        · have hpv : ((v : Int) / 2) = p.k := by
            simp only [Bool.or_eq_true, beq_iff_eq] at hs
            omega
          have e1 : (p.k != 0) = true := by simpa using hp0
          have e2 : ((v : Int) / 2 != p.k) = false := by rw [hpv]; simp
          have e3 : (Int.tdiv (v : Int) 2 != p.k) = false := by rw [Int.tdiv_eq_ediv_of_nonneg (by omega), hpv]; simp
          have hvI : (v : Int) < 256 := by omega
          clear hs hp0 hpv
          go_wp2
          go_quiet (fail)
          go_wp2
          go_roundw
          case rel => exact ⟨k + 1, hlt, by go_num, Lib.hid (KV.out.next (E.belowDraw _ _))⟩
          case measure => simp [intOf]; omega
    · obtain rfl : k = n := by omega
      have c0 := KW.out.i0
      have c23 := KW.out.st.cell 23
      change _ = some (Value.int .i64 p.cc) at c23
      have t1 := KW.out.ins.lt
      have t2 := KW.out.st.lt
      have hr8 := HR7.out.1.below KW.out.bel
      have hr9 := HR7.out.2.below KW.out.bel
      have d7 := hr9.cell 7
      change _ = some (Value.int .i64 cc') at d7
      have t3 := hr9.lt
      have t4 := hr8.lt
      have L9 := Lib.hid (fun X (hX : Below wr.heap.size wr X) => run_loadVar_row (P := Tryz.prog) X (B8 + 1) _ 30 _ _ _ (hr9.below hX) Tryz.underlying30 rfl (by kernel_rfl))
      have LT := Lib.hid (fun X (hX : Below wr.heap.size wr X) => sta_regs (KW.out.st.below hX))
      have LP := Lib.hid (fun X (hX : Below wr.heap.size wr X) => sta_psw (KW.out.st.below hX))
      obtain ⟨g1, g2⟩ := HCC.out
      have h8 : Bx wr B8 28 #[.int .u32 (R 0), .int .u32 (R 1), .int .u32 (R 2), .int .u32 (R 3), .int .u32 (R 4), .int .u32 (R 5), .int .u32 (R 6), .int .u32 (R 7), .int .u32 (R 8), .int .u32 (R 9), .int .u32 (R 10), .int .u32 (R 11), .int .u32 (R 12), .int .u32 (R 13), .int .u32 (R 14), .int .u32 (R 15)] := hr8
      have L8 := Lib.hid (run_loadVar_row (P := Tryz.prog) wr B8 _ 28 #[.int .u32 (R 0), .int .u32 (R 1), .int .u32 (R 2), .int .u32 (R 3), .int .u32 (R 4), .int .u32 (R 5), .int .u32 (R 6), .int .u32 (R 7), .int .u32 (R 8), .int .u32 (R 9), .int .u32 (R 10), .int .u32 (R 11), .int .u32 (R 12), .int .u32 (R 13), .int .u32 (R 14), .int .u32 (R 15)] _ _ h8 Tryz.underlying28 rfl (by kernel_rfl))
      have LQ : Hid ((loadVar 28 ⟨wr.heap.size, 0, none⟩).run Tryz.prog ((wr.alloc (.cells #[.int .u32 (R 0), .int .u32 (R 1), .int .u32 (R 2), .int .u32 (R 3), .int .u32 (R 4), .int .u32 (R 5), .int .u32 (R 6), .int .u32 (R 7), .int .u32 (R 8), .int .u32 (R 9), .int .u32 (R 10), .int .u32 (R 11), .int .u32 (R 12), .int .u32 (R 13), .int .u32 (R 14), .int .u32 (R 15)] 28)).alloc (.cells #[.int .i64 p.m, .int .i64 p.k, .bool p.ma, .bool p.wa, .bool p.pr, .int .i64 p.co, .int .i64 p.il, .int .i64 p.cc, .int .i64 p.pg, .int .i64 p.ad] 30)) = .ok (.agg #[.int .u32 (R 0), .int .u32 (R 1), .int .u32 (R 2), .int .u32 (R 3), .int .u32 (R 4), .int .u32 (R 5), .int .u32 (R 6), .int .u32 (R 7), .int .u32 (R 8), .int .u32 (R 9), .int .u32 (R 10), .int .u32 (R 11), .int .u32 (R 12), .int .u32 (R 13), .int .u32 (R 14), .int .u32 (R 15)]) ((wr.alloc (.cells #[.int .u32 (R 0), .int .u32 (R 1), .int .u32 (R 2), .int .u32 (R 3), .int .u32 (R 4), .int .u32 (R 5), .int .u32 (R 6), .int .u32 (R 7), .int .u32 (R 8), .int .u32 (R 9), .int .u32 (R 10), .int .u32 (R 11), .int .u32 (R 12), .int .u32 (R 13), .int .u32 (R 14), .int .u32 (R 15)] 28)).alloc (.cells #[.int .i64 p.m, .int .i64 p.k, .bool p.ma, .bool p.wa, .bool p.pr, .int .i64 p.co, .int .i64 p.il, .int .i64 p.cc, .int .i64 p.pg, .int .i64 p.ad] 30))) := Lib.hid (run_loadVar_row (P := Tryz.prog) _ wr.heap.size _ 28 _ _ _ ((Bx.new wr 28 #[.int .u32 (R 0), .int .u32 (R 1), .int .u32 (R 2), .int .u32 (R 3), .int .u32 (R 4), .int .u32 (R 5), .int .u32 (R 6), .int .u32 (R 7), .int .u32 (R 8), .int .u32 (R 9), .int .u32 (R 10), .int .u32 (R 11), .int .u32 (R 12), .int .u32 (R 13), .int .u32 (R 14), .int .u32 (R 15)]).below (below_new _ _)) Tryz.underlying28 rfl (by kernel_rfl))
      have LU : Hid ((loadVar 30 ⟨wr.heap.size + 1, 0, none⟩).run Tryz.prog ((wr.alloc (.cells #[.int .u32 (R 0), .int .u32 (R 1), .int .u32 (R 2), .int .u32 (R 3), .int .u32 (R 4), .int .u32 (R 5), .int .u32 (R 6), .int .u32 (R 7), .int .u32 (R 8), .int .u32 (R 9), .int .u32 (R 10), .int .u32 (R 11), .int .u32 (R 12), .int .u32 (R 13), .int .u32 (R 14), .int .u32 (R 15)] 28)).alloc (.cells #[.int .i64 p.m, .int .i64 p.k, .bool p.ma, .bool p.wa, .bool p.pr, .int .i64 p.co, .int .i64 p.il, .int .i64 p.cc, .int .i64 p.pg, .int .i64 p.ad] 30)) = .ok (.agg #[.int .i64 p.m, .int .i64 p.k, .bool p.ma, .bool p.wa, .bool p.pr, .int .i64 p.co, .int .i64 p.il, .int .i64 p.cc, .int .i64 p.pg, .int .i64 p.ad]) ((wr.alloc (.cells #[.int .u32 (R 0), .int .u32 (R 1), .int .u32 (R 2), .int .u32 (R 3), .int .u32 (R 4), .int .u32 (R 5), .int .u32 (R 6), .int .u32 (R 7), .int .u32 (R 8), .int .u32 (R 9), .int .u32 (R 10), .int .u32 (R 11), .int .u32 (R 12), .int .u32 (R 13), .int .u32 (R 14), .int .u32 (R 15)] 28)).alloc (.cells #[.int .i64 p.m, .int .i64 p.k, .bool p.ma, .bool p.wa, .bool p.pr, .int .i64 p.co, .int .i64 p.il, .int .i64 p.cc, .int .i64 p.pg, .int .i64 p.ad] 30))) := Lib.hid (by
        have h1 := Bx.new (wr.alloc (.cells #[.int .u32 (R 0), .int .u32 (R 1), .int .u32 (R 2), .int .u32 (R 3), .int .u32 (R 4), .int .u32 (R 5), .int .u32 (R 6), .int .u32 (R 7), .int .u32 (R 8), .int .u32 (R 9), .int .u32 (R 10), .int .u32 (R 11), .int .u32 (R 12), .int .u32 (R 13), .int .u32 (R 14), .int .u32 (R 15)] 28)) 30 #[.int .i64 p.m, .int .i64 p.k, .bool p.ma, .bool p.wa, .bool p.pr, .int .i64 p.co, .int .i64 p.il, .int .i64 p.cc, .int .i64 p.pg, .int .i64 p.ad]
        rw [World.size_alloc] at h1
        exact run_loadVar_row (P := Tryz.prog) _ (wr.heap.size + 1) _ 30 _ _ _ h1 Tryz.underlying30 rfl (by kernel_rfl))
      have HBW := Lib.hid KW.out.bel
      clear KW HKEY HFBC HRW7 HRN HST7 HR7 hr8 hr9 h8
      go_wp2_with (first | (refine wpList_valW (by rfl) (exec_load 28 _ rfl ⟨B8, 0, none⟩ rfl L8.out) ?_) | (refine wpList_valW (by rfl) (exec_load 28 _ rfl ⟨T, 0, none⟩ rfl (LT.out _ (by first | exact below_new _ _ | exact bel0 (below_new _ _) (below_new _ _)))) ?_) | (refine wpList_valW (by rfl) (exec_load 30 _ rfl ⟨T, 16, none⟩ rfl (LP.out _ (by first | exact below_new _ _ | exact bel0 (below_new _ _) (below_new _ _)))) ?_) | (refine wpList_valW (by rfl) (exec_load 30 _ rfl ⟨B8 + 1, 0, none⟩ rfl (L9.out _ (by first | exact below_new _ _ | exact bel0 (below_new _ _) (below_new _ _)))) ?_) | (refine wpList_valW (by rfl) (exec_load 28 _ rfl ⟨wr.heap.size, 0, none⟩ rfl LQ.out) ?_) | (refine wpList_valW (by rfl) (exec_load 30 _ rfl ⟨wr.heap.size + 1, 0, none⟩ rfl LU.out) ?_))
      go_ret
      exact ⟨rfl, bel0 HB7.out (bel0 HBW.out (bel0 (below_new _ _) (below_new _ _)))⟩

end M
end Go.Proofs.YtbcncohjjnmdcaaGreatDoor
