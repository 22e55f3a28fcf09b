/- The contract of field: the result field of a number. -/
import Derived.Test.YtbcncohjjnmdcaaGreatDoorRows
import Derived.Test.YtbcncohjjnmdcaaGreatDoorDcB
namespace Go.Proofs.YtbcncohjjnmdcaaGreatDoor
open Go.RowKit Go.Shelf
set_option linter.unusedVariables false
namespace E

/-- The value of the pair that a pointer points to. -/
def restV (rp : Value) (wr : World) : Nat := match rp with
  | .pointer (some a) => match wr.cell? ⟨a.block, 0, none⟩, wr.cell? ⟨a.block, 1, none⟩ with
    | some (.int _ x), some (.int _ y) => x.toNat * 18446744073709551616 + y.toNat
    | _, _ => 0
  | _ => 0
theorem restV_of {wr : World} {R : Nat} {t : TypeId} {a b x : Nat} (h : Bx wr R t #[.int .u64 (a : Int), .int .u64 (b : Int)]) (hp : Pw x a b) : restV (.pointer (some ⟨R, 0, none⟩)) wr = x := by
  unfold restV
  simp only [h.two.1.1, h.two.1.2, Int.toNat_natCast]
  exact hp.1.symm
theorem restV_lt {wr W : World} {R S : Nat} {t : TypeId} {a b x c d y : Nat} (h : Bx W S t #[.int .u64 (c : Int), .int .u64 (d : Int)]) (hp : Pw y c d) (h' : Bx wr R t #[.int .u64 (a : Int), .int .u64 (b : Int)]) (hp' : Pw x a b) (hlt : y < x) : restV (.pointer (some ⟨S, 0, none⟩)) W < restV (.pointer (some ⟨R, 0, none⟩)) wr := by
  rw [restV_of h hp, restV_of h' hp']
  exact hlt
theorem tenth_lt {x : Nat} (h : x ≠ 0) : x / 10 < x := Nat.div_lt_self (Nat.pos_of_ne_zero h) (by decide)
theorem Blk.far {w : World} {base g : Nat} {l : List UInt8} (h : Blk w base g l) {p : Addr} (hp : p.block ≠ g) (u : Value) : Blk (w.setCell p u) base g l :=
  ⟨h.1, h.2.imp fun _ hc => ⟨(heap_setCell_other w p g _ (fun e => hp e.symm)).trans hc.1, hc.2⟩⟩
theorem CvA.mk {wr W : World} {base g B N : Nat} {l : List UInt8} {v : Value} (h : Blk wr base g l) (hl : l.length = N) (hc : wr.cell? ⟨B, 0, none⟩ = some v) (hw : ApS wr W) :
    W.cell? ⟨B, 0, none⟩ = some v ∧ (Go.convert 31 9 (.slice (some ⟨g, 0, none⟩) N N)).run Tryz.prog W = .ok (.string ⟨l.toArray⟩) W ∧ ApS wr W := by
  subst hl
  exact ⟨keepC hc hw, conv_rd (h.below hw).rd, hw⟩
/-- What field leaves. -/
def FdPost (w : World) (neg : Bool) (v n : Nat) (e : Ending) (w' : World) : Prop := ∃ g, e = .returned (.tuple #[.slice (some ⟨g, 0, none⟩) n n, .bool (ovB v n)]) ∧ Blk w' w.heap.size g (fldL neg v n) ∧ Below w.heap.size w w'
/-- What Encode leaves of the characters. -/
def EyPost (w : World) (n : Nat) (l : List UInt8) (e : Ending) (w' : World) : Prop := ∃ g o, e = .returned (.tuple #[.slice (some ⟨g, 0, none⟩) n n, .bool o]) ∧ Blk w' w.heap.size g l ∧ Below w.heap.size w w'
theorem enc_fld (neg : Bool) (v n : Nat) (h1 : 1 ≤ n) (h2 : n ≤ 16) (w : World) :
    Calls Tryz.prog 186 #[.agg #[.bool neg, .string ⟨(numL (dsN v (2 * n - 1))).toArray⟩], .int .i64 (n : Int)] w (EyPost w n (fldL neg v n)) :=
  (penc_any neg ⟨(numL (dsN v (2 * n - 1))).toArray⟩ (n : Int) (numL (dsN v (2 * n - 1))) w rfl).mono fun e w' h => by
    rcases h with ⟨_, g, h3, h4, h5⟩ | ⟨ho, _⟩
    · exact ⟨g, _, h3, h4, h5⟩
    · rw [fld_enB v n h1 h2] at ho
      cases ho
set_option maxRecDepth 100000 in
set_option maxHeartbeats 1000000 in
theorem field_any (neg : Bool) (m z n c d : Nat) (w : World) (hp : Pw m c d) (hm : m < 100000000000000000000000000000000) (hz : z ≤ 100) (h1 : 1 ≤ n) (h2 : n ≤ 16) :
    Calls Tryz.prog 151 #[.agg #[.bool neg, .int .u64 (c : Int), .int .u64 (d : Int)], .int .i64 (z : Int), .int .i64 (n : Int)] w (FdPost w neg (m * 10 ^ z) n) := by
  obtain ⟨N, hN⟩ : ∃ N, N = 2 * n - 1 := ⟨_, rfl⟩
  have hNI : (2 : Int) * (n : Int) - 1 = (N : Int) := by omega
  have hN1 : 1 ≤ N := by omega
  have hN2 : N ≤ 31 := by omega
  have HTR0 := fun W => trimD_any ⟨(cL (m * 10 ^ z) N).toArray⟩ (cL (m * 10 ^ z) N) W rfl (by rw [cL_len]; omega) (by rw [cL_len]; omega)
  have htr : trL (cL (m * 10 ^ z) N) = numL (dsN (m * 10 ^ z) N) := trL_numL _ (by rw [dsN_len]; omega)
  rw [htr] at HTR0
  have HTR := Lib.hid HTR0
  have HEN := Lib.hid (fun W => enc_fld neg (m * 10 ^ z) n h1 h2 W)
  rw [← hN] at HEN
  have HPE : Hid (∀ k, m / 10 ^ k = 0 ∨ N ≤ z + k → pL m z N k = cL (m * 10 ^ z) N) := Lib.hid (fun k h => pL_end m z N k h)
  have HOY : Hid (∀ k, m / 10 ^ k ≠ 0 → N ≤ z + k → ovB (m * 10 ^ z) n = true) := Lib.hid (fun k h3 h4 => ov_yes h3 (by rw [← hN]; exact h4))
  have HON : Hid (∀ k, m / 10 ^ k = 0 → (k = 0 ∨ z + k ≤ N) → ovB (m * 10 ^ z) n = false) := Lib.hid (fun k h3 h4 => ov_no h3 (by rw [← hN]; exact h4))
  have hxk : ∀ k, m / 10 ^ k ≤ m := fun k => Nat.div_le_self _ _
  have HXK := Lib.hid hxk
  have HP := Lib.hid hp
  have HRP := Lib.hid (fun B W (h : W.cell? ⟨B, 0, none⟩ = some (.int .u8 ((48 : UInt8).toNat : Int))) => repeat_any 48 B N W (by omega) (by omega) h)
  have h48 : (((48 : UInt8).toNat : Int)) = 48 := rfl
  rw [h48] at HRP
  obtain ⟨v, hv⟩ : ∃ v, v = m * 10 ^ z := ⟨_, rfl⟩
  rw [← hv] at HTR HEN HPE HOY HON ⊢
  clear HTR0 htr hxk hp h48 hv
  have HB0 := Lib.hid (below2 w (.cells #[.bool neg, .int .u64 (c : Int), .int .u64 (d : Int)] 167) (.cells #[.int .u8 48] 5))
  have HN0 := Lib.hid ((Bx.new w 167 #[.bool neg, .int .u64 (c : Int), .int .u64 (d : Int)]).below (below_new _ (.cells #[.int .u8 48] 5)))
  have h48c : ((w.alloc (.cells #[.bool neg, .int .u64 (c : Int), .int .u64 (d : Int)] 167)).alloc (.cells #[.int .u8 48] 5)).cell? ⟨w.heap.size + 1, 0, none⟩ = some (.int .u8 48) := by
    have h := (second_new w (.cells #[.bool neg, .int .u64 (c : Int), .int .u64 (d : Int)] 167) (.cells #[.int .u8 48] 5) _ _ rfl).cell 0
    rw [h]
    rfl
  have H48 := Lib.hid h48c
  clear h48c hN
  unfold RepPost at HRP
  go_enter Tryz.func151, Tryz.ntmps151
  go_wp2_with fail
  refine (HRP.out _ _ H48.out).mono ?_
  rintro e w1 ⟨rfl, hch, hb⟩
  rw [List.length_replicate, World.size_alloc, World.size_alloc]
  rw [World.size_alloc, World.size_alloc, ← pL_zero m z N] at hch
  have HB1 := Lib.hid (bel0 HB0.out hb)
  have HN1 := Lib.hid (HN0.out.below hb)
  have HCH1 := Lib.hid hch
  have hsz1 : w.heap.size + 1 + 1 < w1.heap.size := hch.lt
  clear hb hch HB0 HN0 H48 HRP
  go_wp2_with fail
  refine (dwriter_any _ N N z _ (by omega) (by omega)).mono ?_
  rintro e w2 ⟨rfl, rfl⟩
  have HB2 := Lib.hid (bel0 HB1.out (below2 w1 (.cells #[.slice (some ⟨w.heap.size + 1 + 1, 0, none⟩) N N] 31) (.cells #[.int .i64 ((N : Int) - 1 - z)] 3)))
  have HN2 := Lib.hid (HN1.out.below (below2 w1 (.cells #[.slice (some ⟨w.heap.size + 1 + 1, 0, none⟩) N N] 31) (.cells #[.int .i64 ((N : Int) - 1 - z)] 3)))
  have HCH2 := Lib.hid (HCH1.out.below (below2 w1 (.cells #[.slice (some ⟨w.heap.size + 1 + 1, 0, none⟩) N N] 31) (.cells #[.int .i64 ((N : Int) - 1 - z)] 3)))
  have HCB2 := Lib.hid ((Bx.new w1 31 #[.slice (some ⟨w.heap.size + 1 + 1, 0, none⟩) N N]).below (below_new _ (.cells #[.int .i64 ((N : Int) - 1 - z)] 3)))
  have HNB2 := Lib.hid (second_new w1 (.cells #[.slice (some ⟨w.heap.size + 1 + 1, 0, none⟩) N N] 31) (.cells #[.int .i64 ((N : Int) - 1 - z)] 3) _ _ rfl)
  obtain ⟨W2, hW2⟩ : ∃ W2, W2 = (w1.alloc (.cells #[.slice (some ⟨w.heap.size + 1 + 1, 0, none⟩) N N] 31)).alloc (.cells #[.int .i64 ((N : Int) - 1 - z)] 3) := ⟨_, rfl⟩
  rw [← hW2] at HB2 HN2 HCH2 HCB2 HNB2 ⊢
  have hsz2 : w1.heap.size + 1 + 1 ≤ W2.heap.size := by rw [hW2]; simp
  clear hW2 HB1 HN1 HCH1
  obtain ⟨⟨n1, n2, n3⟩, _⟩ := HN2.out.three
  have HB3 := Lib.hid (bel0 HB2.out (below_new W2 (.cells #[.int .u64 (c : Int), .int .u64 (d : Int)] 165)))
  have HN3 := Lib.hid (HN2.out.below (below_new W2 (.cells #[.int .u64 (c : Int), .int .u64 (d : Int)] 165)))
  have HCH3 := Lib.hid (HCH2.out.below (below_new W2 (.cells #[.int .u64 (c : Int), .int .u64 (d : Int)] 165)))
  have HCB3 := Lib.hid (HCB2.out.below (below_new W2 (.cells #[.int .u64 (c : Int), .int .u64 (d : Int)] 165)))
  have HNB3 := Lib.hid (HNB2.out.below (below_new W2 (.cells #[.int .u64 (c : Int), .int .u64 (d : Int)] 165)))
  have HR3 := Lib.hid (Bx.new W2 165 #[.int .u64 (c : Int), .int .u64 (d : Int)])
  clear HB2 HN2 HCH2 HCB2 HNB2
  go_wp2_with fail
  clear n1 n2 n3
  obtain ⟨CB, hCB⟩ : ∃ CB, CB = w1.heap.size := ⟨_, rfl⟩
  rw [← hCB] at HCB3 HNB3 hsz1 hsz2 ⊢
  clear hCB
  go_loopw [7, 10, 11] (fun ov rp dg wr => Below w.heap.size w wr ∧ Bx wr w.heap.size 167 #[.bool neg, .int .u64 (c : Int), .int .u64 (d : Int)] ∧ Bx wr CB 31 #[.slice (some ⟨w.heap.size + 1 + 1, 0, none⟩) N N] ∧ ∃ k R a b : Nat, Bx wr (CB + 1) 3 #[.int .i64 ((N : Int) - 1 - z - k)] ∧ Blk wr w.heap.size (w.heap.size + 1 + 1) (pL m z N k) ∧ rp = .pointer (some ⟨R, 0, none⟩) ∧ CB + 1 + 1 ≤ R ∧ Bx wr R 165 #[.int .u64 (a : Int), .int .u64 (b : Int)] ∧
      ((ov = .bool false ∧ Pw (m / 10 ^ k) a b ∧ (k = 0 ∨ z + k ≤ N)) ∨ (ov = .bool true ∧ Pw (m / 10 ^ k / 10) a b ∧ m / 10 ^ k ≠ 0 ∧ N ≤ z + k))) (fun _ rp _ wr => restV rp wr)
  case atStart => exact ⟨HB3.out, HN3.out, HCB3.out, 0, W2.heap.size, c, d, by rw [show ((N : Int) - 1 - z - ((0 : Nat) : Int)) = (N : Int) - 1 - z by omega]; exact HNB3.out, HCH3.out.base' (by omega), rfl, by omega, HR3.out, .inl ⟨rfl, by rw [Nat.pow_zero, Nat.div_one]; exact HP.out, .inl rfl⟩⟩
  case round =>
    clear HB3 HN3 HCB3 HNB3 HCH3 HR3 HP hsz2
    obtain ⟨hb, hn, hcb, k, R, a, b, hnb, hch, rfl, hR, hr, hst⟩ := hrel
    have HB := Lib.hid hb
    have HN := Lib.hid hn
    have HCB := Lib.hid hcb
    have HNB := Lib.hid hnb
    have HCH := Lib.hid hch
    have HR := Lib.hid hr
    obtain ⟨⟨r1, r2⟩, f1, f2⟩ := hr.two
    clear hb hn hcb hnb hch hr
    rcases hst with ⟨rfl, hpw, hk⟩ | ⟨rfl, hpw, hne, hk⟩
    · by_cases h0 : m / 10 ^ k = 0
      · -- nothing is left: the field is full
        have hov := HON.out k h0 hk
        have hpe := HPE.out k (.inl h0)
        have hch := HCH.out
        rw [hpe] at hch
        have HOV := Lib.hid hov
        have HCH' := HCH
        clear HCH
        have HCH := Lib.hid hch
        obtain ⟨q1, q2⟩ := hpw
        rw [h0] at q1
        obtain rfl : a = 0 := by omega
        obtain rfl : b = 0 := by omega
        clear hov hpe hch h0 hk q1 q2 HCH' HPE HOY HON HXK HNB HCB HR
        have c0 : wr.cell? ⟨w.heap.size, 0, none⟩ = some (.bool neg) := by
          have h := HN.out.cell 0
          rw [h]
          rfl
        have C0 := Lib.hid c0
        clear c0
        go_wp2_with fail
        clear r1 r2 f1 f2
        have H0 : Hid (wr.drew.cell? ⟨w.heap.size, 0, none⟩ = some (.bool neg) ∧ (Go.convert 31 9 (.slice (some ⟨w.heap.size + 1 + 1, 0, none⟩) N N)).run Tryz.prog wr.drew = .ok (.string ⟨(cL v N).toArray⟩) wr.drew ∧ ApS wr wr.drew) := Lib.hid (CvA.mk HCH.out (cL_len _ _) C0.out (Below.refl _ _).drew)
        go_region_held3 (fun W => W.cell? ⟨w.heap.size, 0, none⟩ = some (.bool neg) ∧ (Go.convert 31 9 (.slice (some ⟨w.heap.size + 1 + 1, 0, none⟩) N N)).run Tryz.prog W = .ok (.string ⟨(cL v N).toArray⟩) W ∧ ApS wr W)
          (first | assumption | exact H0.out | exact CvA.mk HCH.out (cL_len _ _) C0.out (belowDraw _ _))
          (first
            | (go_at_call 187; refine (HTR.out _).mono ?_; rintro e w5 ⟨rfl, m5, rfl⟩)
            | (go_at_call 186; refine (HEN.out _).mono ?_; rintro e w6 ⟨g2, o2, rfl, hk6, hb6⟩; have hs6 := CvA.mk HCH.out (cL_len _ _) C0.out (bel_app (And.right (And.right (a := _ = _) (b := _ ∧ ApS wr _) (by assumption))) hb6); have HK6 := Lib.hid hk6; clear hk6))
        all_goals have HF6 : Hid (Below w.heap.size w w6) := Lib.hid (bel0 HB.out hs6.2.2)
        all_goals go_wp2
        all_goals go_ret2
        all_goals exact ⟨g2, by rw [HOV.out]; rfl, HK6.out.base' (Nat.le_trans HB.out.size (by simp)), HF6.out⟩
      · -- one digit more
        have hdm := HXK.out k
        have HD := Lib.hid (fun W => pdiv_cells (m / 10 ^ k) 10 a b W hpw (by omega) (by omega) (by omega))
        have h10 : (((10 : Nat)) : Int) = 10 := rfl
        rw [h10] at HD
        have HPW := Lib.hid hpw
        have HK := Lib.hid hk
        have H0 := Lib.hid h0
        have HR0 := HR
        clear hk h0 hdm
        by_cases ha : a = 0
        · subst ha
          have hb0 : b ≠ 0 := fun e => H0.out (by rw [hpw.1, e])
          have hbz : ((b : Int) == 0) = false := by simpa using hb0
          have h00 : (((0 : Nat)) : Int) = 0 := rfl
          rw [h00] at HD r1
          clear h00 hpw hb0
          go_wp2_with fail
          refine (HD.out _).mono ?_
          rintro e w3 ⟨a', b', hq, rfl, hb⟩
          have HB3 := Lib.hid (bel0 HB.out hb)
          have HN3 := Lib.hid (HN.out.below hb)
          have HCB3 := Lib.hid (HCB.out.below hb)
          have HNB3 := Lib.hid (HNB.out.below hb)
          have HCH3 := Lib.hid (HCH.out.below hb)
          have HR3 := Lib.hid (HR.out.below hb)
          have HQ := Lib.hid hq
          clear hb hq r1 r2 f1 f2 HB HN HCB HNB HCH HR
          obtain ⟨⟨r1, r2⟩, f1, f2⟩ := HR3.out.two
          obtain ⟨W4, hW4⟩ : ∃ W4, W4 = (w3.setCell ⟨R, 0, none⟩ (.int .u64 (a' : Int))).setCell ⟨R, 1, none⟩ (.int .u64 (b' : Int)) := ⟨_, rfl⟩
          have HB4 : Hid (Below w.heap.size w W4) := Lib.hid (by rw [hW4]; exact (HB3.out.setCell (p := ⟨R, 0, none⟩) (by simp; omega) _).setCell (p := ⟨R, 1, none⟩) (by simp; omega) _)
          have HN4 : Hid (Bx W4 w.heap.size 167 #[.bool neg, .int .u64 (c : Int), .int .u64 (d : Int)]) := Lib.hid (by rw [hW4]; exact (HN3.out.far (by simp; omega) _).far (by simp; omega) _)
          have HCB4 : Hid (Bx W4 CB 31 #[.slice (some ⟨w.heap.size + 1 + 1, 0, none⟩) N N]) := Lib.hid (by rw [hW4]; exact (HCB3.out.far (by simp; omega) _).far (by simp; omega) _)
          have HNB4 : Hid (Bx W4 (CB + 1) 3 #[.int .i64 ((N : Int) - 1 - z - k)]) := Lib.hid (by rw [hW4]; exact (HNB3.out.far (by simp; omega) _).far (by simp; omega) _)
          have HCH4 : Hid (Blk W4 w.heap.size (w.heap.size + 1 + 1) (pL m z N k)) := Lib.hid (by rw [hW4]; exact (HCH3.out.far (by simp; omega) _).far (by simp; omega) _)
          have HR4 : Hid (Bx W4 R 165 #[.int .u64 (a' : Int), .int .u64 (b' : Int)]) := Lib.hid (by rw [hW4]; exact HR3.out.set2 _ _)
          clear HB3 HN3 HCB3 HNB3 HCH3
          have hd9 : m / 10 ^ k % 10 ≤ 9 := by omega
          by_cases hlt : z + k < N
          · have hkk : (N : Int) - 1 - z - k = ((N - 1 - z - k : Nat) : Int) := by omega
            have hnb := HNB4.out
            rw [hkk] at hnb
            have hkl : N - 1 - z - k < N := by omega
            have hcell := HCH4.out.cell (N - 1 - z - k) (by rw [pL_len]; exact hkl)
            have hfr := HCH4.out.frozen (N - 1 - z - k)
            have HPUT := Lib.hid (put_yes (m / 10 ^ k % 10) (CB + 1) CB (w.heap.size + 1 + 1) N N (N - 1 - z - k) _ W4 hd9 hkl (by omega) hnb HCB4.out hcell hfr (by omega))
            have hst1 := (HCH4.out.stored (N - 1 - z - k) (chr (dj m k))).1
            rw [pL_step m z N k hlt] at hst1
            have hchr : ((chr (dj m k)).toNat : Int) = 48 + ((m / 10 ^ k % 10 : Nat) : Int) := by
              rw [chr_nat, Int.natCast_add]
              rfl
            rw [hchr] at hst1
            obtain ⟨W5, hW5⟩ : ∃ W5, W5 = (W4.setCell ⟨w.heap.size + 1 + 1, N - 1 - z - k, none⟩ (.int .u8 (48 + ((m / 10 ^ k % 10 : Nat) : Int)))).setCell ⟨CB + 1, 0, none⟩ (.int .i64 (((N - 1 - z - k : Nat) : Int) - 1)) := ⟨_, rfl⟩
            rw [← hW5] at HPUT
            have HB5 : Hid (Below w.heap.size w W5) := Lib.hid (by rw [hW5]; exact (HB4.out.setCell (p := ⟨w.heap.size + 1 + 1, N - 1 - z - k, none⟩) (by simp; omega) _).setCell (p := ⟨CB + 1, 0, none⟩) (by simp; omega) _)
            have HN5 : Hid (Bx W5 w.heap.size 167 #[.bool neg, .int .u64 (c : Int), .int .u64 (d : Int)]) := Lib.hid (by rw [hW5]; exact (HN4.out.far (by simp; omega) _).far (by simp; omega) _)
            have HCB5 : Hid (Bx W5 CB 31 #[.slice (some ⟨w.heap.size + 1 + 1, 0, none⟩) N N]) := Lib.hid (by rw [hW5]; exact (HCB4.out.far (by simp; omega) _).far (by simp) _)
            have HNB5 : Hid (Bx W5 (CB + 1) 3 #[.int .i64 ((N : Int) - 1 - z - ((k + 1 : Nat) : Int))]) := Lib.hid (by
              rw [hW5, show (N : Int) - 1 - z - ((k + 1 : Nat) : Int) = ((N - 1 - z - k : Nat) : Int) - 1 by omega]
              exact (HNB4.out.far (p := ⟨w.heap.size + 1 + 1, N - 1 - z - k, none⟩) (by simp; omega) _).set 0 _)
            have HCH5 : Hid (Blk W5 w.heap.size (w.heap.size + 1 + 1) (pL m z N (k + 1))) := Lib.hid (by rw [hW5]; exact hst1.far (by simp; omega) _)
            have HR5 : Hid (Bx W5 R 165 #[.int .u64 (a' : Int), .int .u64 (b' : Int)]) := Lib.hid (by rw [hW5]; exact (HR4.out.far (by simp; omega) _).far (by simp; omega) _)
            have hsz5 : CB + 1 + 1 ≤ W5.heap.size := Nat.le_trans hR (Nat.le_of_lt HR5.out.lt)
            clear hkk hnb hcell hfr hst1 hchr hW5 HB4 HN4 HCB4 HNB4 HCH4 HR4
            go_wp2_with fail
            rw [← hW4]
            refine (HPUT.out).mono ?_
            rintro e w6 ⟨rfl, rfl⟩
            clear hW4 HPUT r1 r2 f1 f2
            obtain ⟨⟨r1, r2⟩, f1, f2⟩ := HR5.out.two
            have hbn := below_new w6 (.cells #[.int .u64 (a' : Int), .int .u64 (b' : Int)] 165)
            have HBN := Lib.hid hbn
            have HRN := Lib.hid (Bx.new w6 165 #[.int .u64 (a' : Int), .int .u64 (b' : Int)])
            have hpw2 : Pw (m / 10 ^ (k + 1)) a' b' := by rw [div_step]; exact HQ.out
            have HP2 := Lib.hid hpw2
            have hzk : z + (k + 1) ≤ N := by omega
            clear hbn hpw2
            go_wp2_with fail
            go_roundw
            case rel => exact ⟨bel0 HB5.out HBN.out, HN5.out.below HBN.out, HCB5.out.below HBN.out, k + 1, w6.heap.size, a', b', HNB5.out.below HBN.out, HCH5.out.below HBN.out, rfl, hsz5, HRN.out, .inl ⟨rfl, HP2.out, .inr hzk⟩⟩
            case measure => exact restV_lt HRN.out HP2.out HR0.out HPW.out (by rw [div_step]; exact tenth_lt H0.out)
          · have hnk : N ≤ z + k := by omega
            have HPUT := Lib.hid (put_no (m / 10 ^ k % 10) (CB + 1) CB ((N : Int) - 1 - z - k) W4 (by omega) HNB4.out)
            have hsz5 : CB + 1 + 1 ≤ W4.heap.size := Nat.le_trans hR (Nat.le_of_lt HR4.out.lt)
            go_wp2_with fail
            rw [← hW4]
            refine (HPUT.out).mono ?_
            rintro e w6 ⟨rfl, rfl⟩
            clear hW4 HPUT r1 r2 f1 f2
            obtain ⟨⟨r1, r2⟩, f1, f2⟩ := HR4.out.two
            have hbn := below_new W4 (.cells #[.int .u64 (a' : Int), .int .u64 (b' : Int)] 165)
            have HBN := Lib.hid hbn
            have HRN := Lib.hid (Bx.new W4 165 #[.int .u64 (a' : Int), .int .u64 (b' : Int)])
            clear hbn
            go_wp2_with fail
            go_roundw
            case rel => exact ⟨bel0 HB4.out HBN.out, HN4.out.below HBN.out, HCB4.out.below HBN.out, k, W4.heap.size, a', b', HNB4.out.below HBN.out, HCH4.out.below HBN.out, rfl, hsz5, HRN.out, .inr ⟨rfl, HQ.out, H0.out, hnk⟩⟩
            case measure => exact restV_lt HRN.out HQ.out HR0.out HPW.out (tenth_lt H0.out)
        · have haz : ((a : Int) == 0) = false := by simpa using ha
          clear ha hpw
          go_wp2_with fail
          refine (HD.out _).mono ?_
          rintro e w3 ⟨a', b', hq, rfl, hb⟩
          have HB3 := Lib.hid (bel0 HB.out hb)
          have HN3 := Lib.hid (HN.out.below hb)
          have HCB3 := Lib.hid (HCB.out.below hb)
          have HNB3 := Lib.hid (HNB.out.below hb)
          have HCH3 := Lib.hid (HCH.out.below hb)
          have HR3 := Lib.hid (HR.out.below hb)
          have HQ := Lib.hid hq
          clear hb hq r1 r2 f1 f2 HB HN HCB HNB HCH HR
          obtain ⟨⟨r1, r2⟩, f1, f2⟩ := HR3.out.two
          obtain ⟨W4, hW4⟩ : ∃ W4, W4 = (w3.setCell ⟨R, 0, none⟩ (.int .u64 (a' : Int))).setCell ⟨R, 1, none⟩ (.int .u64 (b' : Int)) := ⟨_, rfl⟩
          have HB4 : Hid (Below w.heap.size w W4) := Lib.hid (by rw [hW4]; exact (HB3.out.setCell (p := ⟨R, 0, none⟩) (by simp; omega) _).setCell (p := ⟨R, 1, none⟩) (by simp; omega) _)
          have HN4 : Hid (Bx W4 w.heap.size 167 #[.bool neg, .int .u64 (c : Int), .int .u64 (d : Int)]) := Lib.hid (by rw [hW4]; exact (HN3.out.far (by simp; omega) _).far (by simp; omega) _)
          have HCB4 : Hid (Bx W4 CB 31 #[.slice (some ⟨w.heap.size + 1 + 1, 0, none⟩) N N]) := Lib.hid (by rw [hW4]; exact (HCB3.out.far (by simp; omega) _).far (by simp; omega) _)
          have HNB4 : Hid (Bx W4 (CB + 1) 3 #[.int .i64 ((N : Int) - 1 - z - k)]) := Lib.hid (by rw [hW4]; exact (HNB3.out.far (by simp; omega) _).far (by simp; omega) _)
          have HCH4 : Hid (Blk W4 w.heap.size (w.heap.size + 1 + 1) (pL m z N k)) := Lib.hid (by rw [hW4]; exact (HCH3.out.far (by simp; omega) _).far (by simp; omega) _)
          have HR4 : Hid (Bx W4 R 165 #[.int .u64 (a' : Int), .int .u64 (b' : Int)]) := Lib.hid (by rw [hW4]; exact HR3.out.set2 _ _)
          clear HB3 HN3 HCB3 HNB3 HCH3
          have hd9 : m / 10 ^ k % 10 ≤ 9 := by omega
          by_cases hlt : z + k < N
          · have hkk : (N : Int) - 1 - z - k = ((N - 1 - z - k : Nat) : Int) := by omega
            have hnb := HNB4.out
            rw [hkk] at hnb
            have hkl : N - 1 - z - k < N := by omega
            have hcell := HCH4.out.cell (N - 1 - z - k) (by rw [pL_len]; exact hkl)
            have hfr := HCH4.out.frozen (N - 1 - z - k)
            have HPUT := Lib.hid (put_yes (m / 10 ^ k % 10) (CB + 1) CB (w.heap.size + 1 + 1) N N (N - 1 - z - k) _ W4 hd9 hkl (by omega) hnb HCB4.out hcell hfr (by omega))
            have hst1 := (HCH4.out.stored (N - 1 - z - k) (chr (dj m k))).1
            rw [pL_step m z N k hlt] at hst1
            have hchr : ((chr (dj m k)).toNat : Int) = 48 + ((m / 10 ^ k % 10 : Nat) : Int) := by
              rw [chr_nat, Int.natCast_add]
              rfl
            rw [hchr] at hst1
            obtain ⟨W5, hW5⟩ : ∃ W5, W5 = (W4.setCell ⟨w.heap.size + 1 + 1, N - 1 - z - k, none⟩ (.int .u8 (48 + ((m / 10 ^ k % 10 : Nat) : Int)))).setCell ⟨CB + 1, 0, none⟩ (.int .i64 (((N - 1 - z - k : Nat) : Int) - 1)) := ⟨_, rfl⟩
            rw [← hW5] at HPUT
            have HB5 : Hid (Below w.heap.size w W5) := Lib.hid (by rw [hW5]; exact (HB4.out.setCell (p := ⟨w.heap.size + 1 + 1, N - 1 - z - k, none⟩) (by simp; omega) _).setCell (p := ⟨CB + 1, 0, none⟩) (by simp; omega) _)
            have HN5 : Hid (Bx W5 w.heap.size 167 #[.bool neg, .int .u64 (c : Int), .int .u64 (d : Int)]) := Lib.hid (by rw [hW5]; exact (HN4.out.far (by simp; omega) _).far (by simp; omega) _)
            have HCB5 : Hid (Bx W5 CB 31 #[.slice (some ⟨w.heap.size + 1 + 1, 0, none⟩) N N]) := Lib.hid (by rw [hW5]; exact (HCB4.out.far (by simp; omega) _).far (by simp) _)
            have HNB5 : Hid (Bx W5 (CB + 1) 3 #[.int .i64 ((N : Int) - 1 - z - ((k + 1 : Nat) : Int))]) := Lib.hid (by
              rw [hW5, show (N : Int) - 1 - z - ((k + 1 : Nat) : Int) = ((N - 1 - z - k : Nat) : Int) - 1 by omega]
              exact (HNB4.out.far (p := ⟨w.heap.size + 1 + 1, N - 1 - z - k, none⟩) (by simp; omega) _).set 0 _)
            have HCH5 : Hid (Blk W5 w.heap.size (w.heap.size + 1 + 1) (pL m z N (k + 1))) := Lib.hid (by rw [hW5]; exact hst1.far (by simp; omega) _)
            have HR5 : Hid (Bx W5 R 165 #[.int .u64 (a' : Int), .int .u64 (b' : Int)]) := Lib.hid (by rw [hW5]; exact (HR4.out.far (by simp; omega) _).far (by simp; omega) _)
            have hsz5 : CB + 1 + 1 ≤ W5.heap.size := Nat.le_trans hR (Nat.le_of_lt HR5.out.lt)
            clear hkk hnb hcell hfr hst1 hchr hW5 HB4 HN4 HCB4 HNB4 HCH4 HR4
            go_wp2_with fail
            rw [← hW4]
            refine (HPUT.out).mono ?_
            rintro e w6 ⟨rfl, rfl⟩
            clear hW4 HPUT r1 r2 f1 f2
            obtain ⟨⟨r1, r2⟩, f1, f2⟩ := HR5.out.two
            have hbn := below_new w6 (.cells #[.int .u64 (a' : Int), .int .u64 (b' : Int)] 165)
            have HBN := Lib.hid hbn
            have HRN := Lib.hid (Bx.new w6 165 #[.int .u64 (a' : Int), .int .u64 (b' : Int)])
            have hpw2 : Pw (m / 10 ^ (k + 1)) a' b' := by rw [div_step]; exact HQ.out
            have HP2 := Lib.hid hpw2
            have hzk : z + (k + 1) ≤ N := by omega
            clear hbn hpw2
            go_wp2_with fail
            go_roundw
            case rel => exact ⟨bel0 HB5.out HBN.out, HN5.out.below HBN.out, HCB5.out.below HBN.out, k + 1, w6.heap.size, a', b', HNB5.out.below HBN.out, HCH5.out.below HBN.out, rfl, hsz5, HRN.out, .inl ⟨rfl, HP2.out, .inr hzk⟩⟩
            case measure => exact restV_lt HRN.out HP2.out HR0.out HPW.out (by rw [div_step]; exact tenth_lt H0.out)
          · have hnk : N ≤ z + k := by omega
            have HPUT := Lib.hid (put_no (m / 10 ^ k % 10) (CB + 1) CB ((N : Int) - 1 - z - k) W4 (by omega) HNB4.out)
            have hsz5 : CB + 1 + 1 ≤ W4.heap.size := Nat.le_trans hR (Nat.le_of_lt HR4.out.lt)
            go_wp2_with fail
            rw [← hW4]
            refine (HPUT.out).mono ?_
            rintro e w6 ⟨rfl, rfl⟩
            clear hW4 HPUT r1 r2 f1 f2
            obtain ⟨⟨r1, r2⟩, f1, f2⟩ := HR4.out.two
            have hbn := below_new W4 (.cells #[.int .u64 (a' : Int), .int .u64 (b' : Int)] 165)
            have HBN := Lib.hid hbn
            have HRN := Lib.hid (Bx.new W4 165 #[.int .u64 (a' : Int), .int .u64 (b' : Int)])
            clear hbn
            go_wp2_with fail
            go_roundw
            case rel => exact ⟨bel0 HB4.out HBN.out, HN4.out.below HBN.out, HCB4.out.below HBN.out, k, W4.heap.size, a', b', HNB4.out.below HBN.out, HCH4.out.below HBN.out, rfl, hsz5, HRN.out, .inr ⟨rfl, HQ.out, H0.out, hnk⟩⟩
            case measure => exact restV_lt HRN.out HQ.out HR0.out HPW.out (tenth_lt H0.out)
    · -- over
      have hov := HOY.out k hne hk
      have hpe := HPE.out k (.inr hk)
      have hch := HCH.out
      rw [hpe] at hch
      have HOV := Lib.hid hov
      have HCH' := HCH
      clear HCH
      have HCH := Lib.hid hch
      clear hov hpe hch hne hk hpw HCH' HPE HOY HON HXK HNB HCB HR
      have c0 : wr.cell? ⟨w.heap.size, 0, none⟩ = some (.bool neg) := by
        have h := HN.out.cell 0
        rw [h]
        rfl
      have C0 := Lib.hid c0
      clear c0
      go_wp2_with fail
      all_goals
        clear r1 r2 f1 f2
        have H0 : Hid (wr.drew.cell? ⟨w.heap.size, 0, none⟩ = some (.bool neg) ∧ (Go.convert 31 9 (.slice (some ⟨w.heap.size + 1 + 1, 0, none⟩) N N)).run Tryz.prog wr.drew = .ok (.string ⟨(cL v N).toArray⟩) wr.drew ∧ ApS wr wr.drew) := Lib.hid (CvA.mk HCH.out (cL_len _ _) C0.out (Below.refl _ _).drew)
        go_region_held3 (fun W => W.cell? ⟨w.heap.size, 0, none⟩ = some (.bool neg) ∧ (Go.convert 31 9 (.slice (some ⟨w.heap.size + 1 + 1, 0, none⟩) N N)).run Tryz.prog W = .ok (.string ⟨(cL v N).toArray⟩) W ∧ ApS wr W)
          (first | assumption | exact H0.out | exact CvA.mk HCH.out (cL_len _ _) C0.out (belowDraw _ _))
          (first
            | (go_at_call 187; refine (HTR.out _).mono ?_; rintro e w5 ⟨rfl, m5, rfl⟩)
            | (go_at_call 186; refine (HEN.out _).mono ?_; rintro e w6 ⟨g2, o2, rfl, hk6, hb6⟩; have hs6 := CvA.mk HCH.out (cL_len _ _) C0.out (bel_app (And.right (And.right (a := _ = _) (b := _ ∧ ApS wr _) (by assumption))) hb6); have HK6 := Lib.hid hk6; clear hk6))
        all_goals have HF6 : Hid (Below w.heap.size w w6) := Lib.hid (bel0 HB.out hs6.2.2)
        all_goals go_wp2
        all_goals go_ret2
        all_goals exact ⟨g2, by rw [HOV.out]; rfl, HK6.out.base' (Nat.le_trans HB.out.size (by simp)), HF6.out⟩

end E
end Go.Proofs.YtbcncohjjnmdcaaGreatDoor
