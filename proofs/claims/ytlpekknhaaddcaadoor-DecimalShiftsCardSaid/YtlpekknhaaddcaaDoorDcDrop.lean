/- The contracts of drop and of the reading of a number. -/
import Derived.Test.YtlpekknhaaddcaaDoorDcCmp
namespace Go.Proofs.YtlpekknhaaddcaaDoor
open Go.RowKit Go.Shelf
set_option linter.unusedVariables false
namespace E

/-- A pair's two words, and what they say. -/
def Pw (x c d : Nat) : Prop := x = c * 18446744073709551616 + d ∧ d < 18446744073709551616
theorem Pw.pv {x c d : Nat} (h : Pw x c d) : pv x = .agg #[.int .u64 (c : Int), .int .u64 (d : Int)] := pv_mk h.1 h.2
theorem Pw.ex (x : Nat) : ∃ c d, Pw x c d := ⟨x / 18446744073709551616, x % 18446744073709551616, by omega, Nat.mod_lt _ (by decide)⟩
/-- A quotient's words, and a remainder. -/
def QcPost (w : World) (q r : Nat) (e : Ending) (w' : World) : Prop := ∃ c d, Pw q c d ∧ e = .returned (.tuple #[.agg #[.int .u64 (c : Int), .int .u64 (d : Int)], .int .u64 (r : Int)]) ∧ Below w.heap.size w w'
theorem pdiv_cells (x y c d : Nat) (w : World) (hp : Pw x c d) (hx : x < 340282366920938463463374607431768211456) (h0 : 0 < y) (hy : y < 18446744073709551616) :
    Calls Tryd.prog 55 #[.agg #[.int .u64 (c : Int), .int .u64 (d : Int)], .int .u64 (y : Int)] w (QcPost w (x / y) (x % y)) := by
  rw [← hp.pv]
  refine (pdiv_any x y w hx h0 hy).mono fun e w' h => ?_
  obtain ⟨he, hb⟩ := h
  obtain ⟨c', d', hq⟩ := Pw.ex (x / y)
  exact ⟨c', d', hq, by rw [he, hq.pv], hb⟩
/-- A number's words are returned. -/
def PwPost (w : World) (x : Nat) (e : Ending) (w' : World) : Prop := ∃ c d, Pw x c d ∧ e = .returned (.agg #[.int .u64 (c : Int), .int .u64 (d : Int)]) ∧ Below w.heap.size w w'
theorem New.pw {f : Nat} {args : Array Value} {w : World} {x : Nat} (h : Calls Tryd.prog f args w (New w (pv x))) : Calls Tryd.prog f args w (PwPost w x) :=
  h.mono fun e w' ⟨he, hb⟩ => by
    obtain ⟨c, d, hq⟩ := Pw.ex x
    exact ⟨c, d, hq, by rw [he, hq.pv], hb⟩
theorem pplus_cells (x y a b c d : Nat) (w : World) (hp : Pw x a b) (hq : Pw y c d) (h : x + y < 340282366920938463463374607431768211456) :
    Calls Tryd.prog 62 #[.agg #[.int .u64 (a : Int), .int .u64 (b : Int)], .agg #[.int .u64 (c : Int), .int .u64 (d : Int)]] w (PwPost w (x + y)) := by
  rw [← hp.pv, ← hq.pv]
  exact New.pw (pplus_any x y w h)
theorem pminus_cells (x y a b c d : Nat) (w : World) (hp : Pw x a b) (hq : Pw y c d) (hx : x < 340282366920938463463374607431768211456) (h : y ≤ x) :
    Calls Tryd.prog 64 #[.agg #[.int .u64 (a : Int), .int .u64 (b : Int)], .agg #[.int .u64 (c : Int), .int .u64 (d : Int)]] w (PwPost w (x - y)) := by
  rw [← hp.pv, ← hq.pv]
  exact New.pw (pminus_any x y w hx h)
theorem ptimes_cells (x y a b : Nat) (w : World) (hp : Pw x a b) (hx : x < 340282366920938463463374607431768211456) (hy : y < 18446744073709551616) (h : x * y < 340282366920938463463374607431768211456) :
    Calls Tryd.prog 50 #[.agg #[.int .u64 (a : Int), .int .u64 (b : Int)], .int .u64 (y : Int)] w (PwPost w (x * y)) := by
  rw [← hp.pv]
  exact New.pw (ptimes_any x y w hx hy h)
theorem pcompare_cells (x y a b c d : Nat) (w : World) (hp : Pw x a b) (hq : Pw y c d) (hx : x < 340282366920938463463374607431768211456) (hy : y < 340282366920938463463374607431768211456) :
    Calls Tryd.prog 63 #[.agg #[.int .u64 (a : Int), .int .u64 (b : Int)], .agg #[.int .u64 (c : Int), .int .u64 (d : Int)]] w (CpPost w x y) := by
  rw [← hp.pv, ← hq.pv]
  exact pcompare_any x y w hx hy
/-- What is left of a number without its last digits, rounded. -/
def dropN (x n r : Nat) : Nat := x / 10 ^ n + if 10 ≤ x / 10 ^ (n - 1) % 10 + r then 1 else 0
theorem div_step (x k : Nat) : x / 10 ^ (k + 1) = x / 10 ^ k / 10 := by rw [Nat.pow_succ, Nat.div_div_eq_div_mul]
set_option maxRecDepth 100000 in
set_option maxHeartbeats 2000000 in
theorem pdrop_any (x n r a b : Nat) (w : World) (hp : Pw x a b) (hx : x < 100000000000000000000000000000000) (h1 : 1 ≤ n) (h2 : n ≤ 100) (hr : r ≤ 9) :
    Calls Tryd.prog 57 #[.agg #[.int .u64 (a : Int), .int .u64 (b : Int)], .int .i64 (n : Int), .int .u64 (r : Int)] w (PwPost w (dropN x n r)) := by
  have hbx : Bx ((w.alloc (.cells #[.int .u64 (a : Int), .int .u64 (b : Int)] 43)).alloc (.cells #[.int .u64 0, .int .u64 0] 43)) w.heap.size 43 #[.int .u64 (a : Int), .int .u64 (b : Int)] := (Bx.new w _ _).below (below_new _ _)
  have hby : Bx ((w.alloc (.cells #[.int .u64 (a : Int), .int .u64 (b : Int)] 43)).alloc (.cells #[.int .u64 0, .int .u64 0] 43)) (w.heap.size + 1) 43 #[.int .u64 0, .int .u64 0] := by
    have h := Bx.new (w.alloc (.cells #[.int .u64 (a : Int), .int .u64 (b : Int)] 43)) 43 #[.int .u64 0, .int .u64 0]
    rw [World.size_alloc] at h
    exact h
  have hb2 := below2 w (.cells #[.int .u64 (a : Int), .int .u64 (b : Int)] 43) (.cells #[.int .u64 0, .int .u64 0] 43)
  have HX := Lib.hid hbx
  have HY := Lib.hid hby
  have HB := Lib.hid hb2
  have HP := Lib.hid hp
  clear hbx hby hb2 hp
  have hxk : ∀ k, x / 10 ^ k ≤ x := fun k => Nat.div_le_self _ _
  have HXK := Lib.hid hxk
  clear hxk
  go_enter Tryd.func57, Tryd.ntmps57
  go_wp2
  go_loopw [7, 9] (fun dv i wr => Below w.heap.size w wr ∧ Bx wr (w.heap.size + 1) 43 #[.int .u64 0, .int .u64 0] ∧ ∃ k c d g : Nat, k ≤ n ∧ i = .int .i64 k ∧ dv = .int .u64 g ∧ g ≤ 9 ∧ (1 ≤ k → g = x / 10 ^ (k - 1) % 10) ∧ Pw (x / 10 ^ k) c d ∧ Bx wr w.heap.size 43 #[.int .u64 c, .int .u64 d]) (fun _ i _ => n - (intOf i).toNat)
  case atStart => exact ⟨HB.out, HY.out, 0, a, b, 0, Nat.zero_le _, rfl, rfl, by omega, fun h => absurd h (by omega), by rw [Nat.pow_zero, Nat.div_one]; exact HP.out, HX.out⟩
  case round =>
    clear HX HY HB HP
    obtain ⟨hbw, hby, k, c, d, g, hk, rfl, rfl, hg9, hg, hpw, hbx⟩ := hrel
    obtain ⟨⟨c1, c2⟩, f1, f2⟩ := hbx.two
    have HBW := Lib.hid hbw
    have HY := Lib.hid hby
    have HX := Lib.hid hbx
    have HPW := Lib.hid hpw
    have HG := Lib.hid hg
    clear hbw hby hbx hpw hg
    by_cases hlt : k < n
    · have HD := Lib.hid (pdiv_cells (x / 10 ^ k) 10 c d wr HPW.out (by have := HXK.out k; omega) (by omega) (by omega))
      clear c1 c2 f1 f2
      obtain ⟨⟨c1, c2⟩, f1, f2⟩ := HX.out.two
      go_wp2_with fail
      refine (HD.out).mono ?_
      rintro e w1 ⟨c', d', hq, rfl, hb⟩
      have HB1 := Lib.hid (bel0 HBW.out hb)
      have HX1 := Lib.hid (HX.out.below hb)
      have HY1 := Lib.hid (HY.out.below hb)
      have HQ := Lib.hid hq
      clear c1 c2 f1 f2 hb hq HD
      obtain ⟨⟨c1, c2⟩, f1, f2⟩ := HX1.out.two
      have hm9 : x / 10 ^ k % 10 ≤ 9 := by omega
      have hkn : k + 1 ≤ n := by omega
      go_wp2
      go_roundw
      case rel => exact ⟨(HB1.out.setCell (p := ⟨w.heap.size, 0, none⟩) (Nat.le_refl _) _).setCell (p := ⟨w.heap.size, 1, none⟩) (Nat.le_refl _) _, (HY1.out.far (by simp) _).far (by simp) _, k + 1, c', d', x / 10 ^ k % 10, hkn, by go_num, rfl, hm9, fun _ => rfl, by rw [div_step]; exact HQ.out, HX1.out.set2 _ _⟩
      case measure => simp [intOf]; omega
    · obtain rfl : k = n := by omega
      have hgv := HG.out h1
      have HGV := Lib.hid hgv
      clear hgv
      by_cases hge : 10 ≤ g + r
      · have hv : dropN x k r = x / 10 ^ k + 1 := by
          unfold dropN
          rw [← HGV.out, if_pos hge]
        have HV := Lib.hid hv
        have HPL := Lib.hid (pplus_cells (x / 10 ^ k) 1 c d 0 1 wr HPW.out ⟨by omega, by omega⟩ (by have := HXK.out k; omega))
        have h00 : (((0 : Nat)) : Int) = 0 := rfl
        have h01 : (((1 : Nat)) : Int) = 1 := rfl
        rw [h00, h01] at HPL
        clear hv h00 h01
        go_wp2_with fail
        refine (HPL.out).mono ?_
        rintro e w1 ⟨c', d', hq, rfl, hb⟩
        have HB1 := Lib.hid (bel0 HBW.out hb)
        have HY1 := Lib.hid (HY.out.below hb)
        have HQ := Lib.hid hq
        clear c1 c2 f1 f2 hb hq HPL
        obtain ⟨⟨c1, c2⟩, f1, f2⟩ := HY1.out.two
        go_wp2
        refine bodyPost_ret (v := .agg #[.int .u64 (c' : Int), .int .u64 (d' : Int)]) ?_ rfl ⟨c', d', by rw [HV.out]; exact HQ.out, rfl, ?_⟩
        · rw [results_cell1 rfl]
          go_simp
        · exact (HB1.out.setCell (p := ⟨w.heap.size + 1, 0, none⟩) (Nat.le_succ _) _).setCell (p := ⟨w.heap.size + 1, 1, none⟩) (Nat.le_succ _) _
      · have hv : dropN x k r = x / 10 ^ k := by
          unfold dropN
          rw [← HGV.out, if_neg hge]
          rfl
        have HV := Lib.hid hv
        clear hv
        obtain ⟨⟨d1, d2⟩, e1, e2⟩ := HY.out.two
        go_wp2
        refine bodyPost_ret (v := .agg #[.int .u64 (c : Int), .int .u64 (d : Int)]) ?_ rfl ⟨c, d, by rw [HV.out]; exact HPW.out, rfl, ?_⟩
        · rw [results_cell1 rfl]
          go_simp
        · exact (HBW.out.setCell (p := ⟨w.heap.size + 1, 0, none⟩) (Nat.le_succ _) _).setCell (p := ⟨w.heap.size + 1, 1, none⟩) (Nat.le_succ _) _

end E
end Go.Proofs.YtlpekknhaaddcaaDoor
