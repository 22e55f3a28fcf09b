/- The contracts of slices.Reverse of bytes and of strings.TrimLeft of zeros. -/
import Derived.Test.YtbcncohjjnmdcaaGreatDoorRows
import Derived.Laws.ResultCell
import Derived.Lib.Strings
import Derived.Test.YtbcncohjjnmdcaaGreatDoorPkB
namespace Go.Proofs.YtbcncohjjnmdcaaGreatDoor
open Go.RowKit
set_option linter.unusedVariables false
namespace E

/-- A list whose first k and last k places are exchanged. -/
def revK (l : List UInt8) (k : Nat) : List UInt8 := (List.range l.length).map fun i => if i < k ∨ l.length - k ≤ i then gt l (l.length - 1 - i) else gt l i
theorem revK_len (l : List UInt8) (k : Nat) : (revK l k).length = l.length := by simp [revK]
theorem gt_revK (l : List UInt8) (k i : Nat) (h : i < l.length) : gt (revK l k) i = if i < k ∨ l.length - k ≤ i then gt l (l.length - 1 - i) else gt l i := by
  rw [gt_lt (by rw [revK_len]; exact h)]
  simp [revK]
theorem gt_ext {l m : List UInt8} (hl : l.length = m.length) (h : ∀ i, i < l.length → gt l i = gt m i) : l = m :=
  List.ext_getElem hl fun i h1 h2 => by
    have := h i h1
    rwa [gt_lt h1, gt_lt h2] at this
theorem revK_zero (l : List UInt8) : revK l 0 = l := gt_ext (revK_len _ _) fun i hi => by
  rw [revK_len] at hi
  rw [gt_revK _ _ _ hi, if_neg (by omega)]
theorem revK_end (l : List UInt8) (k : Nat) (h : l.length ≤ 2 * k + 1) (h2 : 2 * k ≤ l.length) : revK l k = l.reverse := gt_ext (by rw [revK_len]; simp) fun i hi => by
  rw [revK_len] at hi
  have hr : gt l.reverse i = gt l (l.length - 1 - i) := by
    rw [gt_lt (by simpa using hi), gt_lt (by omega), List.getElem_reverse]
  rw [gt_revK _ _ _ hi, hr]
  by_cases hc : i < k ∨ l.length - k ≤ i
  · rw [if_pos hc]
  · rw [if_neg hc]; congr 1; omega
theorem revK_step (l : List UInt8) (k q : Nat) (h : q + 1 + k = l.length) (hkq : k < q) : ((revK l k).set k (gt (revK l k) q)).set q (gt (revK l k) k) = revK l (k + 1) := gt_ext (by simp [revK_len]) fun i hi => by
  rw [List.length_set, List.length_set, revK_len] at hi
  rw [gt_set _ _ _ _ (by rw [List.length_set, revK_len]; omega), gt_set _ _ _ _ (by rw [revK_len]; omega), gt_revK l (k + 1) i hi]
  have e1 : gt (revK l k) q = gt l q := by rw [gt_revK l k q (by omega), if_neg (by omega)]
  have e2 : gt (revK l k) k = gt l k := by rw [gt_revK l k k (by omega), if_neg (by omega)]
  rw [e1, e2]
  by_cases h1 : q = i
  · subst h1
    rw [if_pos rfl, if_pos (by omega)]; congr 1; omega
  rw [if_neg h1]
  by_cases h2 : k = i
  · subst h2
    rw [if_pos rfl, if_pos (by omega)]; congr 1; omega
  rw [if_neg h2, gt_revK l k i hi]
  by_cases hc : i < k ∨ l.length - k ≤ i
  · rw [if_pos hc, if_pos (by omega)]
  · rw [if_neg hc, if_neg (by omega)]
set_option maxRecDepth 100000 in
theorem reverse_any (g c base : Nat) (l : List UInt8) (w : World) (hl : 1 ≤ l.length) (hn : l.length ≤ 1000) (hr : Blk w base g l) :
    Calls Tryz.prog 221 #[.slice (some ⟨g, 0, none⟩) l.length c] w fun e w' => (∃ v, e = .returned v) ∧ Blk w' base g l.reverse ∧ w.grownBy w' (some g) := by
  obtain ⟨n, hln⟩ : ∃ n, n = l.length := ⟨_, rfl⟩
  rw [← hln] at hl hn ⊢
  have HL := Lib.hid hln
  rw [← revK_zero l] at hr
  clear hln
  go_enter Tryz.func221, Tryz.ntmps221
  go_wp2
  go_loopw [2, 3] (fun i j wr => ∃ k q : Nat, q + 1 + k = n ∧ k ≤ q + 1 ∧ i = .int .i64 k ∧ j = .int .i64 q ∧ Blk wr base g (revK l k) ∧ w.grownBy wr (some g)) (fun i _ _ => n - (intOf i).toNat)
  case atStart => exact ⟨0, n - 1, by omega, by omega, rfl, by congr 1; omega, hr, grown_drewN4 w 0 _⟩
  case round =>
    clear hr
    obtain ⟨k, q, hq, hkq, rfl, rfl, hb, hg⟩ := hrel
    have HB := Lib.hid hb
    have HG := Lib.hid hg
    clear hb hg
    by_cases hlt : k < q
    · have c1 := HB.out.cell k (by rw [revK_len, ← HL.out]; omega)
      have c2 := HB.out.cell q (by rw [revK_len, ← HL.out]; omega)
      have f1 := HB.out.frozen k
      have f2 := HB.out.frozen q
      have hne : ¬ k = q := by omega
      have hkn : k < n := by omega
      have hqn : q < n := by omega
      go_wp2
      go_region
      go_wp2
      obtain ⟨b1, g1⟩ := HB.out.stored k (gt (revK l k) q)
      obtain ⟨b2, g2⟩ := b1.stored q (gt (revK l k) k)
      rw [revK_step l k q (by rw [← HL.out]; exact hq) hlt] at b2
      refine ⟨⟨k + 1, q - 1, by omega, by omega, by go_num, by congr 1; omega, b2.below (Below.refl _ _).drew, ?_⟩, by simp [intOf]; omega⟩
      exact World.grownBy.trans (World.grownBy.trans (World.grownBy.trans HG.out g1) g2) (grown_drewN4 _ 1 _)
    · go_wp2
      go_end0
      have hb := HB.out
      rw [revK_end l k (by rw [← HL.out]; omega) (by rw [← HL.out]; omega)] at hb
      exact ⟨⟨_, rfl⟩, hb, HG.out⟩
theorem drop_one {l : List UInt8} {k : Nat} (h : k < l.length) : l.drop k = gt l k :: l.drop (k + 1) := by
  rw [gt_lt h]
  exact List.drop_eq_getElem_cons h
theorem trimByte_any (s : ByteArray) (x : UInt8) (l : List UInt8) (w : World) (hs : s.data.toList = l) (hn : l.length ≤ 1000) :
    Calls Tryz.prog 225 #[.string s, .int .u8 (x.toNat : Int)] w fun e w' => e = .returned (.string ⟨(l.dropWhile (· == x)).toArray⟩) ∧ w = w' := by
  go_enter Tryz.func225, Tryz.ntmps225
  go_wp2
  go_loop [0] (fun v => ∃ (k : Nat) (t : ByteArray), k ≤ l.length ∧ v = .string t ∧ t.data.toList = l.drop k ∧ l.dropWhile (· == x) = (l.drop k).dropWhile (· == x)) (fun v => (match v with | .string t => t.size | _ => 0))
  case atStart => exact ⟨0, s, Nat.zero_le _, rfl, by simpa using hs, by simp⟩
  case round =>
    clear hs
    obtain ⟨k, t, hk, rfl, ht, hd⟩ := hrel
    have htz : t.size = l.length - k := by
      have := congrArg List.length ht
      rw [List.length_drop] at this
      exact this
    by_cases hlt : k < l.length
    · have h0 : 0 < t.size := by omega
      have hst : t[0] = gt l k := by
        rw [str_at t 0 h0, ht, drop_one hlt]
        rfl
      have HD := Lib.hid hd
      have HT := Lib.hid ht
      have HZ := Lib.hid htz
      clear hd ht htz
      by_cases hx : gt l k = x
      · have h1 : (1 : Int) ≤ (t.size : Int) := by omega
        have hdr : l.dropWhile (· == x) = (l.drop (k + 1)).dropWhile (· == x) := by
          rw [HD.out, drop_one hlt, List.dropWhile_cons, if_pos (by simp [hx])]
        have hex : (t.extract 1 t.size).data.toList = l.drop (k + 1) := by
          rw [Lib.extract_data, HT.out, List.drop_drop, List.take_of_length_le (by rw [List.length_drop]; rw [HZ.out]; omega)]
        have hesz : (t.extract 1 t.size).size < t.size := by simp; omega
        have HR := Lib.hid hdr
        have HE := Lib.hid hex
        have HS := Lib.hid hesz
        have hi : t[0] = x := hst.trans hx
        clear hdr hex hesz hst hx
        go_wp2
        go_round
        case rel => exact ⟨k + 1, _, by omega, rfl, HE.out, HR.out⟩
        case measure => exact HS.out
      · have hi : ¬ ((gt l k).toNat : Int) = (x.toNat : Int) := fun hh => hx (UInt8.toNat_inj.1 (by omega))
        have hf : l.dropWhile (· == x) = t.data.toList := by
          rw [HD.out, HT.out, drop_one hlt, List.dropWhile_cons, if_neg (by simpa using hx)]
        have HF := Lib.hid hf
        clear hf hx
        go_wp2
        go_ret
        exact ⟨by rw [HF.out]; rfl, rfl⟩
    · have hf : l.dropWhile (· == x) = t.data.toList := by
        rw [hd, ht, List.drop_eq_nil_of_le (by omega)]
        rfl
      have HF := Lib.hid hf
      have hz : t.size = 0 := by omega
      clear hf hd ht htz
      go_wp2
      go_ret
      exact ⟨by rw [HF.out]; rfl, rfl⟩
set_option maxRecDepth 100000 in
theorem trimLeft_any (s : ByteArray) (l : List UInt8) (w : World) (hs : s.data.toList = l) (h0 : 1 ≤ l.length) (hn : l.length ≤ 1000) :
    Calls Tryz.prog 210 #[.string s, .string ⟨#[48]⟩] w fun e w' => e = .returned (.string ⟨(l.dropWhile (· == 48)).toArray⟩) ∧ w = w' := by
  have HB := Lib.hid (fun W => trimByte_any s 48 l W hs hn)
  have hz : s.size = l.length := by rw [← hs]; rfl
  have hne : s.toList.isEmpty = false := by
    rw [Lib.toList_data, hs]
    cases l with
    | nil => simp at h0
    | cons _ _ => rfl
  go_enter Tryz.func210, Tryz.ntmps210
  go_wp2_with fail
  refine (HB.out _).mono ?_
  rintro e w' ⟨rfl, rfl⟩
  go_wp2
  go_ret
  exact ⟨rfl, rfl⟩

end E
end Go.Proofs.YtbcncohjjnmdcaaGreatDoor
namespace Go.Proofs.YtbcncohjjnmdcaaGreatDoor
open Go.RowKit Go.Shelf
set_option linter.unusedVariables false
namespace E
attribute [local go_sem] Oper.semAt_some

/-- Are they decimal digits? -/
def okD (ds : List (Fin 16)) : Bool := ds.all fun d => decide (d.val ≤ 9)
/-- What join leaves. -/
def JoinPost (w : World) (ds : List (Fin 16)) (e : Ending) (w' : World) : Prop :=
  e = .returned (.tuple #[.string (if okD ds then ⟨(numL ds).toArray⟩ else ⟨#[]⟩), .bool (okD ds)]) ∧ Below w.heap.size w w'
/-- Between two rounds. -/
def JI (D : Nat) (pre : List (Fin 16)) (W : World) : Prop :=
  (∃ v, Boxed W (D + 2) 31 v ∧ W.ownsRow D 5 1 v pre.length (bsU (pre.map chr)) ∧ True) ∧ Boxed W D 9 (.string ⟨#[]⟩) ∧ Boxed W (D + 1) 4 (.bool false) ∧ okD pre = true
theorem JI.own (D : Nat) : Go.Own (JI D) := fun s X Y row ⟨h1, h2, h3, h4⟩ hg hr =>
  ⟨holdsRow_own D (D + 2) 31 5 1 (fun pre : List (Fin 16) => pre.length) (fun pre => bsU (pre.map chr)) (fun _ _ => True) s X Y row h1 hg hr, Boxed.ab h2 hg hr, Boxed.ab h3 hg hr, h4⟩
/-- A round has left: the digit is none. -/
def JX (D : Nat) (c : Code) (pre : List (Fin 16)) (W : World) : Prop :=
  c = .ret ∧ Boxed W D 9 (.string ⟨#[]⟩) ∧ Boxed W (D + 1) 4 (.bool false) ∧ okD pre = false
theorem JX.own (D : Nat) (c : Code) : Go.Own (JX D c) := fun s X Y row ⟨h1, h2, h3, h4⟩ hg hr => ⟨h1, Boxed.ab h2 hg hr, Boxed.ab h3 hg hr, h4⟩
theorem okD_snoc (ds : List (Fin 16)) (d : Fin 16) : okD (ds ++ [d]) = (okD ds && decide (d.val ≤ 9)) := by simp [okD]
theorem hold_blk {w : World} {base : Nat} {v : Value} {l : List UInt8} (hl : 1 ≤ l.length) (h : w.ownsRow base 5 1 v l.length (bsU l)) : ∃ g c, v = .slice (some ⟨g, 0, none⟩) l.length c ∧ Blk w base g l := by
  obtain ⟨_, ⟨_, h2⟩ | ⟨g, cap, cur, hv, hg, hh, _, _, _, ht⟩⟩ := h
  · omega
  · exact ⟨g, cap, hv, hg, cur, hh, by simpa using ht⟩
set_option maxRecDepth 100000 in
set_option maxHeartbeats 2000000 in
theorem join_any (gf : Nat) (lb : Array Value) (hgf : ∀ args w, (callFunc gf args).run Tryz.prog w = .ok (.enter gf args) w) (ds : List (Fin 16)) (w : World) (N : Nat) (h1 : 1 ≤ ds.length) (h2 : ds.length ≤ 100) (hN : N ≤ 100)
    (hseq : ∀ m, 1 ≤ m → SeqStopsK Fence.wide m Tryz.prog gf lb encD (Below w.heap.size) (fun ys => ys = ds) (fun pre => pre <+: ds) N w) :
    Calls Tryz.prog 203 #[.func (.func gf) #[] lb] w (JoinPost w ds) := by
  refine (callsIn_wide (n := 5)).1 ?_
  have hro : Fence.wide.round = none := rfl
  obtain ⟨i0, hi, hz0, hz1, hz2⟩ := info_parts info5
  have HQ := Lib.hid hseq
  have HG := Lib.hid hgf
  clear hseq hgf
  refine callsIn_of_wp_marks Tryz.func203 rfl trivial ?_ hro
  simp only [Tryz.ntmps203, List.size_toArray, List.length_cons, List.length_nil, Nat.reduceAdd, Nat.reduceSub, Array.replicate_succ, Array.replicate_zero, List.push_toArray, List.append_toArray, List.nil_append, List.cons_append]
  gi_wp2_with fail
  have bS := ((Boxed.new w 9 (.string ⟨#[]⟩)).alloc (.cells #[.bool false] 4)).alloc (.cells #[.slice none 0 0] 31)
  have bO := (boxed_new2 w (.cells #[.string ⟨#[]⟩] 9) 4 (.bool false)).alloc (.cells #[.slice none 0 0] 31)
  have bC := boxed_new34 w (.cells #[.string ⟨#[]⟩] 9) (.cells #[.bool false] 4) 31 (.slice none 0 0)
  have hB0 : Below w.heap.size w (((w.alloc (.cells #[.string ⟨#[]⟩] 9)).alloc (.cells #[.bool false] 4)).alloc (.cells #[.slice none 0 0] 31)) := (((Below.refl _ w).alloc (Nat.le_refl _) _).alloc (by simp) _).alloc (by simp; omega) _
  refine wpIn_rangeFunc_ownG hro (by omega) (gf := gf) (lb := lb) rfl trivial HG.out
    (HQ.out _ (by omega)) belowK_t (belowK_b (by simp; omega)) hB0 (fun _ => rfl)
    (fun pre W => JI w.heap.size pre W ∧ Below w.heap.size w W)
    (fun c pre W => JX w.heap.size c pre W ∧ Below w.heap.size w W)
    (OwnFrom.and (Own.from (JI.own _) _) (ownFrom_below (Nat.le_refl _) (by simp; omega)))
    (fun c => OwnFrom.and (Own.from (JX.own _ c) _) (ownFrom_below (Nat.le_refl _) (by simp; omega)))
    ⟨⟨⟨_, bC, World.ownsRow_nil _ _ _ _, trivial⟩, bS, bO, rfl⟩, hB0⟩
    (fun x => { tmps := #[.func (.func gf) #[] lb, undef, .pointer (some ⟨w.heap.size, 0, none⟩), .pointer (some ⟨w.heap.size + 1, 0, none⟩), .pointer (some ⟨w.heap.size + 1 + 1, 0, none⟩), .int .u8 (x.val : Int), undef, .func (.func gf) #[] lb,
        .int .u8 (x.val : Int), undef, undef, undef, undef, undef, undef, undef, undef, undef, undef, undef, undef, undef, undef, undef], defers := [] }) ?assign ?body ?done ?stop
  case assign =>
    intro l x W K hK
    unfold encD
    gi_wp2
    exact hK
  case body =>
    rintro l pre x W ⟨⟨⟨v, hv, hrow, _⟩, hs, ho, hk⟩, hB⟩ hlt
    have hx16 := x.isLt
    by_cases h9 : x.val ≤ 9
    · have hc := hv.cell
      have hlen : pre.length + 1 ≤ 100 := by omega
      have HB := Lib.hid hB
      have HS := Lib.hid hs
      have HO := Lib.hid ho
      have HV := Lib.hid hv
      have HR := Lib.hid hrow
      have HK := Lib.hid hk
      clear hB hs ho hv hrow hk
      gi_wp2_with (gi_at_builtin; refine wpListIn_append_own _ rfl _ _ 31 rfl w.heap.size 5 i0 (.int .u8 0) 1 1 Tryz.underlying31 hi hz0 hz1 hz2 rfl (by decide) _ _ _ rfl (HR.out.alloc _) ⟨W.heap.size, 0, none⟩ 1 1 [.int .u8 (48 + (x.val : Int))] rfl rfl (cellNew _ _ _) (by simp [Value.oneCell']) (by unfold maxLen; omega) (by omega) (by have := HB.out.size; simp; omega) ?_; intro v' w1 hown' hgrow _; obtain ⟨g', cap', rfl⟩ := ownsRow_succ hown'; obtain ⟨hv1, hv2, hr2, hk2, hb2⟩ := HV.out.appended (by decide) HR.out HB.out.size (by omega) hown' hgrow; have hc1 := hv1.cell; have hf1 := hv1.frozen)
      have es : (pre ++ [x]).length = pre.length + 1 := by simp
      have eb : bsU ((pre ++ [x]).map chr) = bsU (pre.map chr) ++ [.int .u8 (48 + (x.val : Int))] := by
        rw [List.map_append, List.map_cons, List.map_nil, bsU_snoc, chr_nat]
        push_cast
        rfl
      refine ⟨hk2.from _, hb2, ⟨⟨_, hv2, ?_, trivial⟩, ?_, ?_, ?_⟩, HB.out.trans hb2⟩
      · rw [es, eb]; exact hr2
      · exact ((HS.out.alloc _).kept hgrow (HS.out.not_row (by decide) HR.out)).other (by omega) _
      · exact ((HO.out.alloc _).kept hgrow (HO.out.not_row (by decide) HR.out)).other (by omega) _
      · rw [okD_snoc, HK.out, decide_eq_true h9]; rfl
    · have h9' : 9 < x.val := by omega
      have c1 := hs.cell
      have f1 := hs.frozen
      have c2 := ho.cell
      have f2 := ho.frozen
      have HB := Lib.hid hB
      have HS := Lib.hid hs
      have HO := Lib.hid ho
      clear hB hs ho hv hrow hk
      gi_wp2
      have k1 := grownBy_setCell' W w.heap.size (.string ⟨#[]⟩)
      have k2 := grownBy_setCell' (W.setCell ⟨w.heap.size, 0, none⟩ (.string ⟨#[]⟩)) (w.heap.size + 1) (.bool false)
      refine ⟨((KeepsOthers.setCell _ _ _).trans (KeepsOthers.setCell _ _ _)).from _, ⟨rfl, (HS.out.set _).kept k2 (by simp), (HO.out.kept k1 (by simp)).set _, ?_⟩, ?_⟩
      · rw [okD_snoc, decide_eq_false h9]; simp
      · exact (HB.out.setCell (p := ⟨w.heap.size, 0, none⟩) (Nat.le_refl _) _).setCell (p := ⟨w.heap.size + 1, 0, none⟩) (by simp) _
  case done =>
    rintro D ys W hD rfl ⟨⟨⟨v, hv, hrow, _⟩, hs, ho, hk⟩, hB⟩ hK
    obtain ⟨L, hL⟩ : ∃ L, L = ys.map chr := ⟨_, rfl⟩
    have hLl : L.length = ys.length := by rw [hL, List.length_map]
    rw [← hL, ← hLl] at hrow
    obtain ⟨g, c, rfl, hblk⟩ := hold_blk (by omega) hrow
    have c1 := hv.cell
    have HLL := Lib.hid hL
    have HLl := Lib.hid hLl
    have HB := Lib.hid hB
    have HS := Lib.hid hs
    have HO := Lib.hid ho
    have HV := Lib.hid hv
    have HR := Lib.hid hblk
    have HK := Lib.hid hk
    have HKD := Lib.hid hK
    have hl1 : 1 ≤ L.length := by omega
    have hl2 : L.length ≤ 100 := by omega
    clear hL hLl hB hs ho hv hrow hk hblk hK
    gi_wp2_with fail
    refine ⟨trivial, (callsIn_wide.2 (reverse_any g c w.heap.size L W hl1 (by omega) HR.out)).mono ?_⟩
    rintro e w1 ⟨⟨u, rfl⟩, hb1, hg1⟩
    have hv1 := HV.out.kept hg1 (fun e => E.Boxed.not_blk HV.out (by decide) HR.out (Option.some.inj e))
    have hs1 := HS.out.kept hg1 (fun e => E.Boxed.not_blk HS.out (by decide) HR.out (Option.some.inj e))
    have ho1 := HO.out.kept hg1 (fun e => E.Boxed.not_blk HO.out (by decide) HR.out (Option.some.inj e))
    have hK1 : w1.heap[D]? = some (.deferred (some [])) := (hg1.block D (Array.getElem?_eq_some_iff.1 HKD.out).1 (fun e => by
      obtain rfl : D = g := Option.some.inj e
      have := HR.out.cells _ HKD.out
      cases this)).trans HKD.out
    have hbw1 : Below w.heap.size w w1 := HB.out.grown hg1 HB.out.size (fun j ej => by cases ej; exact HR.out.1)
    have c1' := hv1.cell
    have hs1c := hs1.cell
    have hs1f := hs1.frozen
    have ho1c := ho1.cell
    have ho1f := ho1.frozen
    have hconv := conv_rd (c := c) hb1.rd
    rw [List.length_reverse] at hconv
    have htl := trimLeft_any ⟨L.reverse.toArray⟩ L.reverse w1 rfl (by simpa using hl1) (by simp; omega)
    have hnum : numL ys = if L.reverse.dropWhile (· == 48) = [] then [48] else L.reverse.dropWhile (· == 48) := by
      unfold numL
      rw [HLL.out, List.map_reverse]
    have HK1 := Lib.hid hK1
    have HB1 := Lib.hid hbw1
    have HS1 := Lib.hid hs1
    have HO1 := Lib.hid ho1
    have HTL := Lib.hid htl
    clear hK1 hbw1 hs1 ho1 htl c1 hg1 hv1
    gi_wp2_with fail
    refine ⟨trivial, (callsIn_wide.2 HTL.out).mono ?_⟩
    rintro e w' ⟨rfl, rfl⟩
    by_cases hT : L.reverse.dropWhile (· == 48) = []
    · rw [if_pos hT] at hnum
      have HN := Lib.hid hnum
      rw [hT]
      clear hnum hT hconv
      gi_wp2
      have k1 := grownBy_setCell' w1 w.heap.size (.string ⟨#[48]⟩)
      have k2 := grownBy_setCell' (w1.setCell ⟨w.heap.size, 0, none⟩ (.string ⟨#[48]⟩)) (w.heap.size + 1) (.bool true)
      have b1 := (HS1.out.set (.string ⟨#[48]⟩)).kept k2 (by simp)
      have b2 := (HO1.out.kept k1 (by simp)).set (.bool true)
      have hK2 := ((KeepsOthers.setCell w1 ⟨w.heap.size, 0, none⟩ (.string ⟨#[48]⟩)).trans (KeepsOthers.setCell _ ⟨w.heap.size + 1, 0, none⟩ (.bool true))).same D _ HK1.out rfl
      have hB2 := (HB1.out.setCell (p := ⟨w.heap.size, 0, none⟩) (Nat.le_refl _) (.string ⟨#[48]⟩)).setCell (p := ⟨w.heap.size + 1, 0, none⟩) (by simp) (.bool true)
      have hnr : ∀ r, some D = some r → ∃ o : Obj, ((w1.setCell ⟨w.heap.size, 0, none⟩ (.string ⟨#[48]⟩)).setCell ⟨w.heap.size + 1, 0, none⟩ (.bool true)).heap[r]? = some o ∧ o.isCells = false := fun r e => by cases e; exact ⟨_, hK2, rfl⟩
      have b1' := Boxed.ab b1 (grownBy_putObj' _ D (.deferred none)) hnr
      have b2' := Boxed.ab b2 (grownBy_putObj' _ D (.deferred none)) hnr
      refine ⟨by simp, .inl ⟨_, _, rfl, run_takeDeferred hK2, ?_⟩⟩
      exact ⟨_, results_cell2 rfl rfl rfl b1'.cell b2'.cell Tryz.underlying9 rfl Tryz.underlying4 rfl, by rw [HK.out, if_pos rfl, HN.out], hB2.trans (belowK_b (w := w) (Nat.le_refl _) _ D _ _ (by simp at hD; omega) hK2 rfl rfl)⟩
    · rw [if_neg hT] at hnum
      obtain ⟨t, ht⟩ : ∃ t : ByteArray, t = ⟨(L.reverse.dropWhile (· == 48)).toArray⟩ := ⟨_, rfl⟩
      have hne : t.toList.isEmpty = false := by
        rw [Lib.toList_data, ht]
        show (L.reverse.dropWhile (· == 48)).isEmpty = false
        cases hq : L.reverse.dropWhile (· == 48) with
        | nil => exact absurd hq hT
        | cons _ _ => rfl
      have hnum2 : (⟨(numL ys).toArray⟩ : ByteArray) = t := by rw [hnum, ht]
      have HN := Lib.hid hnum2
      rw [← ht]
      clear hnum hT hconv ht hnum2
      gi_wp2
      have k1 := grownBy_setCell' w1 w.heap.size (.string t)
      have k2 := grownBy_setCell' (w1.setCell ⟨w.heap.size, 0, none⟩ (.string t)) (w.heap.size + 1) (.bool true)
      have b1 := (HS1.out.set (.string t)).kept k2 (by simp)
      have b2 := (HO1.out.kept k1 (by simp)).set (.bool true)
      have hK2 := ((KeepsOthers.setCell w1 ⟨w.heap.size, 0, none⟩ (.string t)).trans (KeepsOthers.setCell _ ⟨w.heap.size + 1, 0, none⟩ (.bool true))).same D _ HK1.out rfl
      have hB2 := (HB1.out.setCell (p := ⟨w.heap.size, 0, none⟩) (Nat.le_refl _) (.string t)).setCell (p := ⟨w.heap.size + 1, 0, none⟩) (by simp) (.bool true)
      have hnr : ∀ r, some D = some r → ∃ o : Obj, ((w1.setCell ⟨w.heap.size, 0, none⟩ (.string t)).setCell ⟨w.heap.size + 1, 0, none⟩ (.bool true)).heap[r]? = some o ∧ o.isCells = false := fun r e => by cases e; exact ⟨_, hK2, rfl⟩
      have b1' := Boxed.ab b1 (grownBy_putObj' _ D (.deferred none)) hnr
      have b2' := Boxed.ab b2 (grownBy_putObj' _ D (.deferred none)) hnr
      refine ⟨by simp, .inl ⟨_, _, rfl, run_takeDeferred hK2, ?_⟩⟩
      exact ⟨_, results_cell2 rfl rfl rfl b1'.cell b2'.cell Tryz.underlying9 rfl Tryz.underlying4 rfl, by rw [HK.out, if_pos rfl, HN.out], hB2.trans (belowK_b (w := w) (Nat.le_refl _) _ D _ _ (by simp at hD; omega) hK2 rfl rfl)⟩
  case stop =>
    rintro D c pre W hD hp ⟨hX, hB⟩ hK
    obtain ⟨rfl, hs, ho, hk⟩ := hX
    gi_wp2
    have hnr : ∀ r, some D = some r → ∃ o : Obj, W.heap[r]? = some o ∧ o.isCells = false := fun r e => by cases e; exact ⟨_, hK, rfl⟩
    have b1' := Boxed.ab hs (grownBy_putObj' _ D (.deferred none)) hnr
    have b2' := Boxed.ab ho (grownBy_putObj' _ D (.deferred none)) hnr
    have hod : okD ds = false := by
      obtain ⟨t, ht⟩ := hp
      rw [← ht]
      unfold okD at hk ⊢
      rw [List.all_append, hk]; rfl
    refine ⟨by simp, .inl ⟨_, _, rfl, run_takeDeferred hK, ?_⟩⟩
    exact ⟨_, results_cell2 rfl rfl rfl b1'.cell b2'.cell Tryz.underlying9 rfl Tryz.underlying4 rfl, by rw [hod]; rfl, hB.trans (belowK_b (w := w) (Nat.le_refl _) _ D _ _ (by simp at hD; omega) hK rfl rfl)⟩

end E
end Go.Proofs.YtbcncohjjnmdcaaGreatDoor
namespace Go.Proofs.YtbcncohjjnmdcaaGreatDoor
open Go.RowKit Go.Shelf
set_option linter.unusedVariables false
namespace E

theorem grown_below {w w' : World} (h : w.grownBy w' none) : Below w.heap.size w w' := (Below.refl _ _).grown h (Nat.le_refl _) (fun j ej => by cases ej)
/-- What is held of each world of the last statement. -/
def CvS (w0 : World) (p : Option Addr) (bs : List UInt8) (W : World) : Prop := Below w0.heap.size w0 W ∧ Rd W p bs
theorem CvS.next {w0 : World} {p : Option Addr} {bs : List UInt8} {W W' : World} (h : CvS w0 p bs W) (hb : Below W.heap.size W W') : CvS w0 p bs W' := ⟨h.1.trans (hb.mono h.1.size), h.2.below hb⟩
/-- The cells of the two layouts, and what is held. -/
abbrev CvC (w0 : World) (D : Nat) (p : Option Addr) (bs : List UInt8) (a1 a2 a3 b1 b2 b3 : Nat) (a4 b4 : UInt8) (W : World) : Prop :=
  (W.cell? ⟨D, 0, none⟩ = some (.int .i64 (a1 : Int)) ∧ W.cell? ⟨D, 1, none⟩ = some (.int .i64 (a2 : Int)) ∧ W.cell? ⟨D, 2, none⟩ = some (.int .i64 (a3 : Int)) ∧ W.cell? ⟨D, 3, none⟩ = some (.int .u8 (a4.toNat : Int))) ∧
  (W.cell? ⟨D + 1, 0, none⟩ = some (.int .i64 (b1 : Int)) ∧ W.cell? ⟨D + 1, 1, none⟩ = some (.int .i64 (b2 : Int)) ∧ W.cell? ⟨D + 1, 2, none⟩ = some (.int .i64 (b3 : Int)) ∧ W.cell? ⟨D + 1, 3, none⟩ = some (.int .u8 (b4.toNat : Int))) ∧ CvS w0 p bs W
theorem keepC {W W' : World} {D j : Nat} {v : Value} (h : W.cell? ⟨D, j, none⟩ = some v) (hb : Below W.heap.size W W') : W'.cell? ⟨D, j, none⟩ = some v := (hb.cell (p := ⟨D, j, none⟩) (World.block_lt_of_cell? W _ h)).trans h
theorem CvC.next {w0 W W' : World} {D : Nat} {p : Option Addr} {bs : List UInt8} {a1 a2 a3 b1 b2 b3 : Nat} {a4 b4 : UInt8} (h : CvC w0 D p bs a1 a2 a3 b1 b2 b3 a4 b4 W) (hb : Below W.heap.size W W') : CvC w0 D p bs a1 a2 a3 b1 b2 b3 a4 b4 W' :=
  ⟨⟨keepC h.1.1 hb, keepC h.1.2.1 hb, keepC h.1.2.2.1 hb, keepC h.1.2.2.2 hb⟩, ⟨keepC h.2.1.1 hb, keepC h.2.1.2.1 hb, keepC h.2.1.2.2.1 hb, keepC h.2.1.2.2.2 hb⟩, h.2.2.next hb⟩
theorem CvC.rd {w0 W : World} {D : Nat} {p : Option Addr} {bs : List UInt8} {a1 a2 a3 b1 b2 b3 : Nat} {a4 b4 : UInt8} (h : CvC w0 D p bs a1 a2 a3 b1 b2 b3 a4 b4 W) : Rd W p bs := h.2.2.2
theorem CvC.below {w0 W : World} {D : Nat} {p : Option Addr} {bs : List UInt8} {a1 a2 a3 b1 b2 b3 : Nat} {a4 b4 : UInt8} (h : CvC w0 D p bs a1 a2 a3 b1 b2 b3 a4 b4 W) : Below w0.heap.size w0 W := h.2.2.1
/-- What digits leaves. -/
def DigPost (w : World) (p : Option Addr) (n c la st : Nat) (e : Ending) (w' : World) : Prop :=
  ∃ B0 B1 B2, e = .returned (.func (.func 191) #[] #[.pointer (some ⟨B1, 0, none⟩), .pointer (some ⟨B0, 0, none⟩), .pointer (some ⟨B2, 0, none⟩)]) ∧
    Boxed w' B0 31 (.slice p n c) ∧ Boxed w' B1 3 (.int .i64 (la : Int)) ∧ Boxed w' B2 3 (.int .i64 (st : Int)) ∧ Below w.heap.size w w'
theorem digits_ex (p : Option Addr) (n c la st : Nat) (w : World) : Calls Tryz.prog 159 #[.slice p n c, .int .i64 (la : Int), .int .i64 (st : Int)] w (DigPost w p n c la st) :=
  (digits_any p n c la st w).mono fun e w' ⟨he, q1, q2, q3, hg⟩ => ⟨_, _, _, he, q1, q2, q3, grown_below hg⟩
theorem build_digits (p : Option Addr) (c n K1 a2 a3 K2 b1 b2 b3 : Nat) (b4 : UInt8) (s : Fin 16) (bs : List UInt8) (W : World) (B0 B1 B2 : Nat) (hl2 : bs.length ≤ 16) (hn : 1 ≤ n) (hn2 : n ≤ 16)
    (ha2 : a2 ≤ 4) (ha3 : 1 ≤ a3) (ha4 : a3 ≤ 2) (hK1 : ∀ i, i < K1 ↔ a2 + a3 * i < 2 * bs.length)
    (hb : b1 < 2 * n) (hb2 : b2 ≤ 4) (hb3 : 1 ≤ b3) (hb4 : b3 ≤ 2) (hne : ∀ j, b1 ≠ b2 + b3 * j) (hK2 : ∀ i, i < K2 ↔ b2 + b3 * i < 2 * n)
    (q1 : Boxed W B0 31 (.slice p bs.length c)) (q2 : Boxed W B1 3 (.int .i64 (a2 : Int))) (q3 : Boxed W B2 3 (.int .i64 (a3 : Int))) (hr : Rd W p bs) :
    Calls Tryz.prog 157 #[.agg #[.int .i64 (b1 : Int), .int .i64 (b2 : Int), .int .i64 (b3 : Int), .int .u8 (b4.toNat : Int)], .int .u8 (s.val : Int), .func (.func 191) #[] #[.pointer (some ⟨B1, 0, none⟩), .pointer (some ⟨B0, 0, none⟩), .pointer (some ⟨B2, 0, none⟩)], .int .i64 (n : Int)] W
      (BuildPost W n K2 b1 b2 b3 b4 s (dg bs a2 a3 K1)) :=
  build_any 191 _ (enters_of Tryz.func191 (by kernel_rfl) rfl) n K2 b1 b2 b3 b4 s (dg bs a2 a3 K1) W K1 hn hn2 hb4 hb3 hb2 hb hne hK2 (fun m hm => digits_stops m hm _ _ _ p c a2 a3 K1 bs W (by omega) ha2 ha4 ha3 hK1 q2 q1 q3 hr)
/-- Are the sizes of both fields valid? -/
def szB (m : Nat) (n : Int) : Bool := decide (1 ≤ m ∧ m ≤ 16) && decide (1 ≤ n ∧ n ≤ 16)
/-- What a move leaves: a new field; nil, where a size is invalid. -/
def MvPost (w : World) (ok : Bool) (n : Int) (l : List UInt8) (e : Ending) (w' : World) : Prop :=
  (ok = true ∧ ∃ g, e = .returned (.slice (some ⟨g, 0, none⟩) n.toNat n.toNat) ∧ Blk w' w.heap.size g l ∧ Below w.heap.size w w') ∨ (ok = false ∧ New w (.slice none 0 0) e w')
theorem MvPost.from {w0 w w' : World} {ok : Bool} {n : Int} {l : List UInt8} {e : Ending} (h : MvPost w ok n l e w') (hb : Below w0.heap.size w0 w) : MvPost w0 ok n l e w' := by
  rcases h with ⟨h1, g, h2, h3, h4⟩ | ⟨h1, h2, h3⟩
  · exact .inl ⟨h1, g, h2, h3.base' hb.size, hb.trans (h4.mono hb.size)⟩
  · exact .inr ⟨h1, h2, hb.trans (h3.mono hb.size)⟩
/-- What Pack returns. -/
def packL (bs : List UInt8) (n : Nat) : List UInt8 := outL n 0 1 1 0 (nib bs 1) (dg bs 0 2 bs.length)
/-- What Unpack returns. -/
def unpackL (bs : List UInt8) (n : Nat) : List UInt8 := outL n 1 0 2 240 (nib bs 0) (dg bs 1 1 (2 * bs.length - 1))
/-- What Offset returns. -/
def offL (ds bs : List UInt8) : List UInt8 := outL ds.length 0 1 1 0 (nib ds 0) (dg bs 0 1 (2 * bs.length))
theorem packL_len (bs : List UInt8) (n : Nat) : (packL bs n).length = n := outL_len _ _ _ _ _ _ _
theorem unpackL_len (bs : List UInt8) (n : Nat) : (unpackL bs n).length = n := outL_len _ _ _ _ _ _ _
theorem offL_len (ds bs : List UInt8) : (offL ds bs).length = ds.length := outL_len _ _ _ _ _ _ _
/-- The cells of the layout, and what is held. -/
abbrev OfC (w0 : World) (D : Nat) (p q : Option Addr) (ds bs : List UInt8) (W : World) : Prop :=
  (W.cell? ⟨D, 0, none⟩ = some (.int .i64 0) ∧ W.cell? ⟨D, 1, none⟩ = some (.int .i64 1) ∧ W.cell? ⟨D, 2, none⟩ = some (.int .i64 1) ∧ W.cell? ⟨D, 3, none⟩ = some (.int .u8 0)) ∧ CvS w0 p ds W ∧ CvS w0 q bs W
theorem OfC.next {w0 W W' : World} {D : Nat} {p q : Option Addr} {ds bs : List UInt8} (h : OfC w0 D p q ds bs W) (hb : Below W.heap.size W W') : OfC w0 D p q ds bs W' :=
  ⟨⟨keepC h.1.1 hb, keepC h.1.2.1 hb, keepC h.1.2.2.1 hb, keepC h.1.2.2.2 hb⟩, h.2.1.next hb, h.2.2.next hb⟩
theorem OfC.rd1 {w0 W : World} {D : Nat} {p q : Option Addr} {ds bs : List UInt8} (h : OfC w0 D p q ds bs W) : Rd W p ds := h.2.1.2
theorem OfC.rd2 {w0 W : World} {D : Nat} {p q : Option Addr} {ds bs : List UInt8} (h : OfC w0 D p q ds bs W) : Rd W q bs := h.2.2.2
theorem OfC.below {w0 W : World} {D : Nat} {p q : Option Addr} {ds bs : List UInt8} (h : OfC w0 D p q ds bs W) : Below w0.heap.size w0 W := h.2.1.1
end E
end Go.Proofs.YtbcncohjjnmdcaaGreatDoor
namespace Go.Proofs.YtbcncohjjnmdcaaGreatDoor
open Go.RowKit Go.Shelf
set_option linter.unusedVariables false
namespace E

/-- What a digit means at the place of the sign: 0 none, 1 plus, 2 minus. -/
def signV (d : Fin 16) : Nat := if d.val < 10 then 0 else if d.val = 11 ∨ d.val = 13 then 2 else 1
theorem signV_le (d : Fin 16) : signV d ≤ 2 := by
  unfold signV
  split
  · omega
  · split <;> omega
/-- The table of the signs lies as the program's text lays it. -/
def Sg (w : World) : Prop := ∀ d : Fin 16, w.cell? ⟨0, d.val, none⟩ = some (.int .i64 (signV d : Int))
theorem Sg.below {w w' : World} (h : Sg w) (hb : Below w.heap.size w w') : Sg w' := fun d => keepC (h d) hb
/-- Is the field valid? -/
def dOk (bs : List UInt8) : Bool := decide (1 ≤ bs.length ∧ bs.length ≤ 16) && (decide (signV (nib bs 0) ≠ 0) && okD (dg bs 1 1 (2 * bs.length - 1)))
/-- The sign of the number in a field. -/
def dNeg (bs : List UInt8) : Bool := dOk bs && decide (signV (nib bs 0) = 2)
/-- The digits of the number in a field. -/
def dDig (bs : List UInt8) : List UInt8 := if dOk bs then numL (dg bs 1 1 (2 * bs.length - 1)) else []
/-- What Decode leaves. -/
def DecPost (w : World) (bs : List UInt8) (e : Ending) (w' : World) : Prop :=
  e = .returned (.tuple #[.agg #[.bool (dNeg bs), .string ⟨(dDig bs).toArray⟩], .bool (dOk bs)]) ∧ Below w.heap.size w w'
theorem join_digits (p : Option Addr) (c : Nat) (bs : List UInt8) (W : World) (B0 B1 B2 : Nat) (hl : 1 ≤ bs.length) (hl2 : bs.length ≤ 16)
    (q1 : Boxed W B0 31 (.slice p bs.length c)) (q2 : Boxed W B1 3 (.int .i64 1)) (q3 : Boxed W B2 3 (.int .i64 1)) (hr : Rd W p bs) :
    Calls Tryz.prog 203 #[.func (.func 191) #[] #[.pointer (some ⟨B1, 0, none⟩), .pointer (some ⟨B0, 0, none⟩), .pointer (some ⟨B2, 0, none⟩)]] W
      (JoinPost W (dg bs 1 1 (2 * bs.length - 1))) :=
  join_any 191 _ (enters_of Tryz.func191 (by kernel_rfl) rfl) _ W (2 * bs.length - 1) (by rw [dg_len]; omega) (by rw [dg_len]; omega) (by omega) (fun m hm => digits_stops m hm _ _ _ p c 1 1 _ bs W (by omega) (by omega) (by omega) (by omega) (by intro i; omega) q2 q1 q3 hr)
/-- A number that lies in a block. -/
def DecB (w : World) (D : Nat) (neg : Bool) (s : ByteArray) : Prop := w.heap[D]? = some (.cells #[.bool neg, .string s] 199 (0, 0))
theorem DecB.new (w : World) (neg : Bool) (s : ByteArray) : DecB (w.alloc (.cells #[.bool neg, .string s] 199)) w.heap.size neg s := World.alloc_heap_new w _
theorem DecB.lt {w : World} {D : Nat} {neg : Bool} {s : ByteArray} (h : DecB w D neg s) : D < w.heap.size := (Array.getElem?_eq_some_iff.1 h).1
theorem DecB.below {w w' : World} {D : Nat} {neg : Bool} {s : ByteArray} (h : DecB w D neg s) (hb : Below w.heap.size w w') : DecB w' D neg s := (hb.block D h.lt).trans h
theorem DecB.cells {w : World} {D : Nat} {neg : Bool} {s : ByteArray} (h : DecB w D neg s) : (w.cell? ⟨D, 0, none⟩ = some (.bool neg) ∧ w.cell? ⟨D, 1, none⟩ = some (.string s)) ∧ w.frozen? ⟨D, 0, none⟩ = false ∧ w.frozen? ⟨D, 1, none⟩ = false := by
  have h' : w.heap[D]? = _ := h
  refine ⟨⟨?_, ?_⟩, ?_, ?_⟩ <;> simp [World.cell?, World.frozen?, h']
set_option maxRecDepth 100000 in
theorem decode_no (p : Option Addr) (n c : Nat) (w : World) (hl : ¬ (1 ≤ n ∧ n ≤ 16)) :
    Calls Tryz.prog 181 #[.slice p n c] w (New w (.tuple #[.agg #[.bool false, .string ⟨#[]⟩], .bool false])) := by
  have hs1 := fun W => isSize_any (n : Int) W
  rw [decide_eq_false (by omega)] at hs1
  have S1 := Lib.hid hs1
  clear hs1
  go_enter Tryz.func181, Tryz.ntmps181
  go_wp2_with fail
  refine (S1.out _).mono ?_
  rintro e w' ⟨rfl, rfl⟩
  go_wp2
  refine bodyPost_ret (v := .tuple #[.agg #[.bool false, .string ⟨#[]⟩], .bool false]) ?_ rfl ⟨rfl, ?_⟩
  · rw [results_cell_tmp rfl]
    go_simp
  · exact below_new _ _
set_option maxRecDepth 100000 in
theorem decode_yes (p : Option Addr) (c : Nat) (bs : List UInt8) (w : World) (hl : 1 ≤ bs.length) (hl2 : bs.length ≤ 16) (hr : Rd w p bs) (hg : Sg w) :
    Calls Tryz.prog 181 #[.slice p bs.length c] w (DecPost w bs) := by
  have hs1 := fun W => isSize_any (bs.length : Int) W
  rw [decide_eq_true (by omega)] at hs1
  have S1 := Lib.hid hs1
  have HR := Lib.hid hr
  have HG := Lib.hid hg
  have hda : ∀ W, Rd W p bs → Calls Tryz.prog 158 #[.slice p bs.length c, .int .i64 0] W fun e w' => e = .returned (.int .u8 ((nib bs 0).val : Int)) ∧ W = w' := fun W hr => digitAt_any p c 0 bs W (by omega) (by omega) hr
  have HDA := Lib.hid hda
  clear hs1 hr hg hda
  go_enter Tryz.func181, Tryz.ntmps181
  go_wp2_with fail
  refine (S1.out _).mono ?_
  rintro e w' ⟨rfl, rfl⟩
  have HB0 := Lib.hid (below_new w (.cells #[.bool false, .string ⟨#[]⟩] 199))
  go_wp2_with fail
  refine (packedLayout_any _).mono ?_
  rintro e w1 ⟨rfl, hb1⟩
  have hbw1 := HB0.out.trans (hb1.mono HB0.out.size)
  have hd1 := (DecB.new w false ⟨#[]⟩).below hb1
  have hbl := below_new w1 (.cells #[.int .i64 0, .int .i64 1, .int .i64 1, .int .u8 0] 174)
  have hbw2 := hbw1.trans (hbl.mono hbw1.size)
  have hd2 := hd1.below hbl
  have hsg := (HG.out.below hbw2) (nib bs 0)
  have HB2 := Lib.hid hbw2
  have HD2 := Lib.hid hd2
  clear hb1 hbw1 hd1 hbl hbw2 hd2 HB0
  have e1 : layV 0 1 1 0 = .agg #[.int .i64 0, .int .i64 1, .int .i64 1, .int .u8 0] := rfl
  rw [e1]
  clear e1
  have hnl := (nib bs 0).isLt
  go_wp2_with fail
  refine (HDA.out _ (HR.out.below HB2.out)).mono ?_
  rintro e w' ⟨rfl, rfl⟩
  go_wp2_with fail
  refine (digits_ex p bs.length c 1 1 _).mono ?_
  rintro e w2 ⟨B0, B1, B2, rfl, q1, q2, q3, hb2⟩
  have hj := join_digits p c bs w2 B0 B1 B2 hl hl2 q1 q2 q3 (HR.out.below (HB2.out.trans (hb2.mono HB2.out.size)))
  have HJ := Lib.hid hj
  have HB2' := Lib.hid (HB2.out.trans (hb2.mono HB2.out.size))
  have HD2' := Lib.hid (HD2.out.below hb2)
  clear hj q1 q2 q3 hb2 HB2 HD2 hsg HG HDA S1 hnl
  obtain ⟨sv, hsv⟩ : ∃ sv, sv = signV (nib bs 0) := ⟨_, rfl⟩
  obtain ⟨ok, hok⟩ : ∃ ok, ok = okD (dg bs 1 1 (2 * bs.length - 1)) := ⟨_, rfl⟩
  have hsv2 : sv ≤ 2 := by rw [hsv]; exact signV_le _
  have HSV := Lib.hid hsv
  have HOK := Lib.hid hok
  rw [← hsv]
  clear hsv hok
  go_wp2_with fail
  refine (HJ.out).mono ?_
  rintro e w3 ⟨rfl, hb3⟩
  rw [← HOK.out]
  have HB3 := Lib.hid (HB2'.out.trans (hb3.mono HB2'.out.size))
  obtain ⟨⟨c1, c2⟩, f1, f2⟩ := (HD2'.out.below hb3).cells
  clear hb3 HB2' HD2' HJ HR
  have hlen : decide (1 ≤ bs.length ∧ bs.length ≤ 16) = true := decide_eq_true ⟨hl, hl2⟩
  have HLN := Lib.hid hlen
  clear hlen
  by_cases h0 : sv = 0
  · subst h0
    have hv : dNeg bs = false ∧ dDig bs = [] ∧ dOk bs = false := by
      have : dOk bs = false := by unfold dOk; rw [← HSV.out]; simp
      exact ⟨by unfold dNeg; rw [this]; rfl, by unfold dDig; rw [this]; rfl, this⟩
    have HV := Lib.hid hv
    clear hv
    cases ok
    · go_wp2
      refine bodyPost_ret (v := .tuple #[.agg #[.bool false, .string ⟨#[]⟩], .bool false]) ?_ rfl ⟨?_, ?_⟩
      · rw [results_cell_tmp rfl]
        go_simp
      · rw [HV.out.1, HV.out.2.1, HV.out.2.2]
      · exact (HB3.out.setCell (p := ⟨w.heap.size, 0, none⟩) (Nat.le_refl _) _).setCell (p := ⟨w.heap.size, 1, none⟩) (Nat.le_refl _) _
    · go_wp2
      refine bodyPost_ret (v := .tuple #[.agg #[.bool false, .string ⟨#[]⟩], .bool false]) ?_ rfl ⟨?_, ?_⟩
      · rw [results_cell_tmp rfl]
        go_simp
      · rw [HV.out.1, HV.out.2.1, HV.out.2.2]
      · exact (HB3.out.setCell (p := ⟨w.heap.size, 0, none⟩) (Nat.le_refl _) _).setCell (p := ⟨w.heap.size, 1, none⟩) (Nat.le_refl _) _
  have hz : ((sv : Int) == 0) = false := by simpa using h0
  cases ok
  · have hv : dNeg bs = false ∧ dDig bs = [] ∧ dOk bs = false := by
      have : dOk bs = false := by unfold dOk; rw [← HOK.out]; simp
      exact ⟨by unfold dNeg; rw [this]; rfl, by unfold dDig; rw [this]; rfl, this⟩
    have HV := Lib.hid hv
    clear hv
    · go_wp2
      refine bodyPost_ret (v := .tuple #[.agg #[.bool false, .string ⟨#[]⟩], .bool false]) ?_ rfl ⟨?_, ?_⟩
      · rw [results_cell_tmp rfl]
        go_simp
      · rw [HV.out.1, HV.out.2.1, HV.out.2.2]
      · exact (HB3.out.setCell (p := ⟨w.heap.size, 0, none⟩) (Nat.le_refl _) _).setCell (p := ⟨w.heap.size, 1, none⟩) (Nat.le_refl _) _
  · have hokb : dOk bs = true := by unfold dOk; rw [HLN.out, ← HOK.out, ← HSV.out]; simp [h0]
    have hdig : dDig bs = numL (dg bs 1 1 (2 * bs.length - 1)) := by unfold dDig; rw [hokb]; rfl
    obtain ⟨t, ht⟩ : ∃ t : ByteArray, t = ⟨(numL (dg bs 1 1 (2 * bs.length - 1))).toArray⟩ := ⟨_, rfl⟩
    simp only [if_true]
    rw [← ht]
    by_cases h2 : sv = 2
    · have hv : dNeg bs = true ∧ (⟨(dDig bs).toArray⟩ : ByteArray) = t ∧ dOk bs = true := ⟨by unfold dNeg; rw [hokb, ← HSV.out, decide_eq_true h2]; rfl, by rw [hdig, ht], hokb⟩
      have HV := Lib.hid hv
      subst h2
      clear hv hokb hdig ht
      go_wp2
      refine bodyPost_ret (v := .tuple #[.agg #[.bool true, .string t], .bool true]) ?_ rfl ⟨?_, ?_⟩
      · rw [results_cell_tmp rfl]
        go_simp
      · rw [HV.out.1, HV.out.2.1, HV.out.2.2]
      · exact (HB3.out.setCell (p := ⟨w.heap.size, 0, none⟩) (Nat.le_refl _) _).setCell (p := ⟨w.heap.size, 1, none⟩) (Nat.le_refl _) _
    · have hv : dNeg bs = false ∧ (⟨(dDig bs).toArray⟩ : ByteArray) = t ∧ dOk bs = true := ⟨by unfold dNeg; rw [hokb, ← HSV.out, decide_eq_false h2]; rfl, by rw [hdig, ht], hokb⟩
      have HV := Lib.hid hv
      have hz2 : ((sv : Int) == 2) = false := by simp; omega
      clear hv hokb hdig ht h2
      go_wp2
      refine bodyPost_ret (v := .tuple #[.agg #[.bool false, .string t], .bool true]) ?_ rfl ⟨?_, ?_⟩
      · rw [results_cell_tmp rfl]
        go_simp
      · rw [HV.out.1, HV.out.2.1, HV.out.2.2]
      · exact (HB3.out.setCell (p := ⟨w.heap.size, 0, none⟩) (Nat.le_refl _) _).setCell (p := ⟨w.heap.size, 1, none⟩) (Nat.le_refl _) _

end E
end Go.Proofs.YtbcncohjjnmdcaaGreatDoor
namespace Go.Proofs.YtbcncohjjnmdcaaGreatDoor
open Go.RowKit Go.Shelf
set_option linter.unusedVariables false
namespace E

theorem okL_false1 {l : List UInt8} (h : l.length < 1 ∨ 31 < l.length) : okL l = false := by
  rw [Bool.eq_false_iff]
  intro hh
  have := ((okL_iff l).1 hh).1
  omega
theorem okL_false2 {l : List UInt8} (h : 1 < l.length) (h0 : gt l 0 = 48) : okL l = false := by
  rw [Bool.eq_false_iff]
  intro hh
  exact ((okL_iff l).1 hh).1.2.2 h h0
theorem okL_false3 {l : List UInt8} {j : Nat} (h : j < l.length) (h0 : isD (gt l j) = false) : okL l = false := by
  rw [Bool.eq_false_iff]
  intro hh
  rw [((okL_iff l).1 hh).2 j h] at h0
  cases h0
set_option maxRecDepth 100000 in
theorem valid_any4 (neg : Bool) (s : ByteArray) (w : World) : Calls Tryz.prog 223 #[.agg #[.bool neg, .string s]] w (New w (.bool (okL s.data.toList))) := by
  obtain ⟨l, hl⟩ : ∃ l, l = s.data.toList := ⟨_, rfl⟩
  have hstr : ∀ k (h : k < s.size), s[k] = gt l k := fun k h => by rw [hl]; exact str_at s k h
  have hln : l.length = s.size := by rw [hl]; rfl
  rw [← hl]
  have HL := Lib.hid hln
  have HS := Lib.hid hstr
  clear hl hln hstr
  have HB := Lib.hid (below_new w (.cells #[.bool neg, .string s] 199))
  by_cases h1 : s.size < 1
  · have hv := okL_false1 (l := l) (.inl (by rw [HL.out]; exact h1))
    rw [hv]
    clear hv
    go_enter Tryz.func223, Tryz.ntmps223
    go_wp2
    go_ret
    exact ⟨rfl, HB.out⟩
  by_cases h2 : 31 < s.size
  · have hv := okL_false1 (l := l) (.inr (by rw [HL.out]; exact h2))
    rw [hv]
    clear hv
    go_enter Tryz.func223, Tryz.ntmps223
    go_wp2
    go_ret
    exact ⟨rfl, HB.out⟩
  have rest : (1 < s.size → gt l 0 ≠ 48) → Calls Tryz.prog 223 #[.agg #[.bool neg, .string s]] w (New w (.bool (okL l))) := by
    intro h3
    by_cases h5 : 1 < s.size
    · have hs0 := HS.out 0 (by omega)
      have hi : ¬ ((gt l 0).toNat : Int) = 48 := fun hh => h3 h5 (UInt8.toNat_inj.1 (by show (gt l 0).toNat = 48; omega))
      have hib : (((gt l 0).toNat : Int) == 48) = false := by simpa using hi
      have HX := Lib.hid h3
      clear h3 hi
      go_enter Tryz.func223, Tryz.ntmps223
      go_wp2
      go_loop [25] (fun i => ∃ k : Nat, k ≤ s.size ∧ i = .int .i64 k ∧ ∀ j, j < k → isD (gt l j) = true) (fun i => s.size - (intOf i).toNat)
      case atStart => exact ⟨0, Nat.zero_le _, rfl, fun j hj => by omega⟩
      case round =>
        obtain ⟨k, hk, rfl, ha⟩ := hrel
        have HA := Lib.hid ha
        clear ha
        by_cases hlt : k < s.size
        · have hsk := HS.out k hlt
          by_cases hd : isD (gt l k) = true
          · have hd2 := (isD_iff _).1 hd
            have HD := Lib.hid hd
            clear hd
            go_wp2
            go_round
            case rel => exact ⟨k + 1, by omega, by go_num, fun j hj => by
              rcases Nat.lt_succ_iff_lt_or_eq.1 hj with h | h
              · exact HA.out j h
              · subst h; exact HD.out⟩
            case measure => simp [intOf]; omega
          · have hv := okL_false3 (l := l) (j := k) (by rw [HL.out]; exact hlt) (by simpa using hd)
            have HV := Lib.hid hv
            have hd2 : ¬ (48 ≤ (gt l k).toNat ∧ (gt l k).toNat ≤ 57) := fun h => hd ((isD_iff _).2 h)
            clear hv hd
            by_cases hlo : (gt l k).toNat < 48
            · go_wp2
              go_ret
              exact ⟨by rw [HV.out]; rfl, HB.out⟩
            · have hhi : 57 < (gt l k).toNat := by omega
              go_wp2
              go_ret
              exact ⟨by rw [HV.out]; rfl, HB.out⟩
        · obtain rfl : k = s.size := by omega
          have hv : okL l = true := (okL_iff l).2 ⟨⟨by rw [HL.out]; omega, by rw [HL.out]; omega, fun h => HX.out (by rw [← HL.out]; exact h)⟩, fun j hj => HA.out j (by rw [← HL.out]; exact hj)⟩
          have HV := Lib.hid hv
          clear hv
          go_wp2
          go_ret
          exact ⟨by rw [HV.out]; rfl, HB.out⟩
    · have HX := Lib.hid h3
      clear h3
      go_enter Tryz.func223, Tryz.ntmps223
      go_wp2
      go_loop [25] (fun i => ∃ k : Nat, k ≤ s.size ∧ i = .int .i64 k ∧ ∀ j, j < k → isD (gt l j) = true) (fun i => s.size - (intOf i).toNat)
      case atStart => exact ⟨0, Nat.zero_le _, rfl, fun j hj => by omega⟩
      case round =>
        obtain ⟨k, hk, rfl, ha⟩ := hrel
        have HA := Lib.hid ha
        clear ha
        by_cases hlt : k < s.size
        · have hsk := HS.out k hlt
          by_cases hd : isD (gt l k) = true
          · have hd2 := (isD_iff _).1 hd
            have HD := Lib.hid hd
            clear hd
            go_wp2
            go_round
            case rel => exact ⟨k + 1, by omega, by go_num, fun j hj => by
              rcases Nat.lt_succ_iff_lt_or_eq.1 hj with h | h
              · exact HA.out j h
              · subst h; exact HD.out⟩
            case measure => simp [intOf]; omega
          · have hv := okL_false3 (l := l) (j := k) (by rw [HL.out]; exact hlt) (by simpa using hd)
            have HV := Lib.hid hv
            have hd2 : ¬ (48 ≤ (gt l k).toNat ∧ (gt l k).toNat ≤ 57) := fun h => hd ((isD_iff _).2 h)
            clear hv hd
            by_cases hlo : (gt l k).toNat < 48
            · go_wp2
              go_ret
              exact ⟨by rw [HV.out]; rfl, HB.out⟩
            · have hhi : 57 < (gt l k).toNat := by omega
              go_wp2
              go_ret
              exact ⟨by rw [HV.out]; rfl, HB.out⟩
        · obtain rfl : k = s.size := by omega
          have hv : okL l = true := (okL_iff l).2 ⟨⟨by rw [HL.out]; omega, by rw [HL.out]; omega, fun h => HX.out (by rw [← HL.out]; exact h)⟩, fun j hj => HA.out j (by rw [← HL.out]; exact hj)⟩
          have HV := Lib.hid hv
          clear hv
          go_wp2
          go_ret
          exact ⟨by rw [HV.out]; rfl, HB.out⟩
  by_cases h3 : 1 < s.size
  · have hs0 := HS.out 0 (by omega)
    by_cases h4 : gt l 0 = 48
    · have hv := okL_false2 (l := l) (by rw [HL.out]; exact h3) h4
      rw [hv]
      have hi : s[0] = 48 := hs0.trans h4
      clear hv hs0 h4 rest
      go_enter Tryz.func223, Tryz.ntmps223
      go_wp2
      go_ret
      exact ⟨rfl, HB.out⟩
    · exact rest (fun _ => h4)
  · exact rest (fun h => absurd h h3)

end E
end Go.Proofs.YtbcncohjjnmdcaaGreatDoor
namespace Go.Proofs.YtbcncohjjnmdcaaGreatDoor
open Go.RowKit Go.Shelf
set_option linter.unusedVariables false
namespace E

/-- The sign that is stored. -/
def sgn (neg : Bool) : Fin 16 := if neg then 13 else 12
/-- What figures leaves. -/
def FigPost (w : World) (s : ByteArray) (e : Ending) (w' : World) : Prop :=
  ∃ B, e = .returned (.func (.func 232) #[] #[.pointer (some ⟨B, 0, none⟩)]) ∧ Boxed w' B 9 (.string s) ∧ Below w.heap.size w w'
theorem figures_ex (s : ByteArray) (w : World) : Calls Tryz.prog 224 #[.string s] w (FigPost w s) :=
  (figures_any s w).mono fun e w' ⟨he, q1, hg⟩ => ⟨_, he, q1, grown_below hg⟩
theorem build_figures (n K2 b1 b2 b3 : Nat) (b4 : UInt8) (sg : Fin 16) (s : ByteArray) (bs : List UInt8) (W : World) (B : Nat) (hs : s.data.toList = bs) (hok : okL bs = true) (hn : 1 ≤ n) (hn2 : n ≤ 16)
    (hb : b1 < 2 * n) (hb2 : b2 ≤ 4) (hb3 : 1 ≤ b3) (hb4 : b3 ≤ 2) (hne : ∀ j, b1 ≠ b2 + b3 * j) (hK2 : ∀ i, i < K2 ↔ b2 + b3 * i < 2 * n) (q1 : Boxed W B 9 (.string s)) :
    Calls Tryz.prog 157 #[.agg #[.int .i64 (b1 : Int), .int .i64 (b2 : Int), .int .i64 (b3 : Int), .int .u8 (b4.toNat : Int)], .int .u8 (sg.val : Int), .func (.func 232) #[] #[.pointer (some ⟨B, 0, none⟩)], .int .i64 (n : Int)] W
      (BuildPost W n K2 b1 b2 b3 b4 sg (fg bs)) := by
  have h := (okL_iff bs).1 hok
  exact build_any 232 _ (enters_of Tryz.func232 (by kernel_rfl) rfl) n K2 b1 b2 b3 b4 sg (fg bs) W bs.length hn hn2 hb4 hb3 hb2 hb hne hK2 (fun m hm => figures_stops m hm B s bs W hs (by omega) h.2 q1)
/-- What Encode and Zoned leave. -/
def EnPost (w : World) (ok : Bool) (n : Int) (l : List UInt8) (over : Bool) (e : Ending) (w' : World) : Prop :=
  (ok = true ∧ ∃ g, e = .returned (.tuple #[.slice (some ⟨g, 0, none⟩) n.toNat n.toNat, .bool over]) ∧ Blk w' w.heap.size g l ∧ Below w.heap.size w w') ∨ (ok = false ∧ New w (.tuple #[.slice none 0 0, .bool false]) e w')
theorem EnPost.from {w0 w w' : World} {ok over : Bool} {n : Int} {l : List UInt8} {e : Ending} (h : EnPost w ok n l over e w') (hb : Below w0.heap.size w0 w) : EnPost w0 ok n l over e w' := by
  rcases h with ⟨h1, g, h2, h3, h4⟩ | ⟨h1, h2, h3⟩
  · exact .inl ⟨h1, g, h2, h3.base' hb.size, hb.trans (h4.mono hb.size)⟩
  · exact .inr ⟨h1, h2, hb.trans (h3.mono hb.size)⟩
/-- The cells of the number and of the layout, and what is held. -/
abbrev EnC (w0 : World) (D : Nat) (neg : Bool) (s : ByteArray) (b1 b2 b3 : Nat) (b4 : UInt8) (W : World) : Prop :=
  (W.cell? ⟨D, 0, none⟩ = some (.bool neg) ∧ W.cell? ⟨D, 1, none⟩ = some (.string s)) ∧
  (W.cell? ⟨D + 1, 0, none⟩ = some (.int .i64 (b1 : Int)) ∧ W.cell? ⟨D + 1, 1, none⟩ = some (.int .i64 (b2 : Int)) ∧ W.cell? ⟨D + 1, 2, none⟩ = some (.int .i64 (b3 : Int)) ∧ W.cell? ⟨D + 1, 3, none⟩ = some (.int .u8 (b4.toNat : Int))) ∧ CvS w0 none [] W
theorem EnC.next {w0 W W' : World} {D : Nat} {neg : Bool} {s : ByteArray} {b1 b2 b3 : Nat} {b4 : UInt8} (h : EnC w0 D neg s b1 b2 b3 b4 W) (hb : Below W.heap.size W W') : EnC w0 D neg s b1 b2 b3 b4 W' :=
  ⟨⟨keepC h.1.1 hb, keepC h.1.2 hb⟩, ⟨keepC h.2.1.1 hb, keepC h.2.1.2.1 hb, keepC h.2.1.2.2.1 hb, keepC h.2.1.2.2.2 hb⟩, h.2.2.next hb⟩
theorem EnC.below {w0 W : World} {D : Nat} {neg : Bool} {s : ByteArray} {b1 b2 b3 : Nat} {b4 : UInt8} (h : EnC w0 D neg s b1 b2 b3 b4 W) : Below w0.heap.size w0 W := h.2.2.1
theorem cell2_new (w : World) (v x : Value) (t : TypeId) : (w.alloc (.cells #[v, x] t)).cell? ⟨w.heap.size, 0, none⟩ = some v ∧ (w.alloc (.cells #[v, x] t)).cell? ⟨w.heap.size, 1, none⟩ = some x := by
  constructor <;> simp [go_sem]
set_option maxRecDepth 100000 in
theorem encode_yes (neg : Bool) (s : ByteArray) (n K2 b1 b2 b3 : Nat) (b4 : UInt8) (bs : List UInt8) (w : World) (hs : s.data.toList = bs) (hok : okL bs = true) (hn : 1 ≤ n) (hn2 : n ≤ 16)
    (hb : b1 < 2 * n) (hb2 : b2 ≤ 4) (hb3 : 1 ≤ b3) (hb4 : b3 ≤ 2) (hne : ∀ j, b1 ≠ b2 + b3 * j) (hK2 : ∀ i, i < K2 ↔ b2 + b3 * i < 2 * n) :
    Calls Tryz.prog 209 #[.agg #[.bool neg, .string s], layV b1 b2 b3 b4, .int .i64 (n : Int)] w fun e w' =>
      ∃ g, e = .returned (.tuple #[.slice (some ⟨g, 0, none⟩) n n, .bool (decide (K2 < bs.length))]) ∧ Blk w' w.heap.size g (outL n b1 b2 b3 b4 (sgn neg) (fg bs)) ∧ Below w.heap.size w w' := by
  have hv := fun W => valid_any4 neg s W
  rw [hs, hok] at hv
  have HV := Lib.hid hv
  have hs2 := fun W => isSize_any (n : Int) W
  rw [decide_eq_true (by omega)] at hs2
  have S2 := Lib.hid hs2
  have HF := Lib.hid (fun W => figures_ex s W)
  have HBD := Lib.hid (fun sg W B q1 => build_figures n K2 b1 b2 b3 b4 sg s bs W B hs hok hn hn2 hb hb2 hb3 hb4 hne hK2 q1)
  have HLen := Lib.hid (fg_len bs)
  clear hv hs2 hs hok hne hK2
  have hl := (layB_new (w.alloc (.cells #[.bool neg, .string s] 199)) b1 b2 b3 b4).cells
  rw [World.size_alloc] at hl
  have hc := cell2_new w (.bool neg) (.string s) 199
  have h00 : EnC w w.heap.size neg s b1 b2 b3 b4 ((w.alloc (.cells #[.bool neg, .string s] 199)).alloc (.cells #[.int .i64 (b1 : Int), .int .i64 (b2 : Int), .int .i64 (b3 : Int), .int .u8 (b4.toNat : Int)] 174)) :=
    ⟨⟨keepC hc.1 (below_new _ _), keepC hc.2 (below_new _ _)⟩, hl, ((Below.refl _ w).alloc (Nat.le_refl _) _).alloc (by simp) _, .inl rfl⟩
  have H00 := Lib.hid h00
  clear hl hc h00
  unfold layV
  cases neg
  · have hbd : ∀ (W : World) (B : Nat), Boxed W B 9 (.string s) → Calls Tryz.prog 157 #[.agg #[.int .i64 (b1 : Int), .int .i64 (b2 : Int), .int .i64 (b3 : Int), .int .u8 (b4.toNat : Int)], .int .u8 12, .func (.func 232) #[] #[.pointer (some ⟨B, 0, none⟩)], .int .i64 (n : Int)] W
        (BuildPost W n K2 b1 b2 b3 b4 (sgn false) (fg bs)) := fun W B q => HBD.out (sgn false) W B q
    have HB2 := Lib.hid hbd
    clear hbd HBD
    go_enter Tryz.func209, Tryz.ntmps209
    go_wp2_with fail
    refine (HV.out _).mono ?_
    rintro e w1 ⟨rfl, hb1⟩
    have h1 := EnC.next H00.out hb1
    have H1 := Lib.hid h1
    have HC := Lib.hid (EnC.next h1 (Below.refl _ _).drew)
    have hc1 := h1.1.1
    clear hb1 h1
    go_wp2_with fail
    refine (S2.out _).mono ?_
    rintro e w' ⟨rfl, rfl⟩
    go_wp2
    have hz0 := H1.out.2.2.1.size
    go_region_held3 (fun W => (W.cell? ⟨w.heap.size, 0, none⟩ = some (.bool false) ∧ W.cell? ⟨w.heap.size, 1, none⟩ = some (.string s)) ∧ (W.cell? ⟨w.heap.size + 1, 0, none⟩ = some (.int .i64 (b1 : Int)) ∧ W.cell? ⟨w.heap.size + 1, 1, none⟩ = some (.int .i64 (b2 : Int)) ∧ W.cell? ⟨w.heap.size + 1, 2, none⟩ = some (.int .i64 (b3 : Int)) ∧ W.cell? ⟨w.heap.size + 1, 3, none⟩ = some (.int .u8 (b4.toNat : Int))) ∧ CvS w none [] W)
      (first | exact HC.out | exact EnC.next (w0 := w) (D := w.heap.size) (by assumption) (by assumption))
      (first
        | (go_at_call 224; refine (HF.out _).mono ?_; rintro e w2 ⟨B, rfl, q1, hbel⟩)
        | (go_at_call 157; refine (HB2.out _ _ q1).mono ?_; rintro e w3 ⟨g, rfl, hbk, hb3⟩))
    have hz2 := hbel.size
    simp at hz2
    have hfin := EnC.below (D := w.heap.size) (w0 := w) (neg := false) (s := s) (b1 := b1) (b2 := b2) (b3 := b3) (b4 := b4) (by assumption)
    go_wp2
    go_ret2
    exact ⟨g, by rw [HLen.out]; rfl, hbk.base' (by omega), hfin⟩
  · have hbd : ∀ (W : World) (B : Nat), Boxed W B 9 (.string s) → Calls Tryz.prog 157 #[.agg #[.int .i64 (b1 : Int), .int .i64 (b2 : Int), .int .i64 (b3 : Int), .int .u8 (b4.toNat : Int)], .int .u8 13, .func (.func 232) #[] #[.pointer (some ⟨B, 0, none⟩)], .int .i64 (n : Int)] W
        (BuildPost W n K2 b1 b2 b3 b4 (sgn true) (fg bs)) := fun W B q => HBD.out (sgn true) W B q
    have HB2 := Lib.hid hbd
    clear hbd HBD
    go_enter Tryz.func209, Tryz.ntmps209
    go_wp2_with fail
    refine (HV.out _).mono ?_
    rintro e w1 ⟨rfl, hb1⟩
    have h1 := EnC.next H00.out hb1
    have H1 := Lib.hid h1
    have HC := Lib.hid (EnC.next h1 (Below.refl _ _).drew)
    have hc1 := h1.1.1
    clear hb1 h1
    go_wp2_with fail
    refine (S2.out _).mono ?_
    rintro e w' ⟨rfl, rfl⟩
    go_wp2
    have hz0 := H1.out.2.2.1.size
    go_region_held3 (fun W => (W.cell? ⟨w.heap.size, 0, none⟩ = some (.bool true) ∧ W.cell? ⟨w.heap.size, 1, none⟩ = some (.string s)) ∧ (W.cell? ⟨w.heap.size + 1, 0, none⟩ = some (.int .i64 (b1 : Int)) ∧ W.cell? ⟨w.heap.size + 1, 1, none⟩ = some (.int .i64 (b2 : Int)) ∧ W.cell? ⟨w.heap.size + 1, 2, none⟩ = some (.int .i64 (b3 : Int)) ∧ W.cell? ⟨w.heap.size + 1, 3, none⟩ = some (.int .u8 (b4.toNat : Int))) ∧ CvS w none [] W)
      (first | exact HC.out | exact EnC.next (w0 := w) (D := w.heap.size) (by assumption) (by assumption))
      (first
        | (go_at_call 224; refine (HF.out _).mono ?_; rintro e w2 ⟨B, rfl, q1, hbel⟩)
        | (go_at_call 157; refine (HB2.out _ _ q1).mono ?_; rintro e w3 ⟨g, rfl, hbk, hb3⟩))
    have hz2 := hbel.size
    simp at hz2
    have hfin := EnC.below (D := w.heap.size) (w0 := w) (neg := true) (s := s) (b1 := b1) (b2 := b2) (b3 := b3) (b4 := b4) (by assumption)
    go_wp2
    go_ret2
    exact ⟨g, by rw [HLen.out]; rfl, hbk.base' (by omega), hfin⟩
theorem encode_no1 (neg : Bool) (s : ByteArray) (n : Int) (b1 b2 b3 : Nat) (b4 : UInt8) (w : World) (hok : okL s.data.toList = false) :
    Calls Tryz.prog 209 #[.agg #[.bool neg, .string s], layV b1 b2 b3 b4, .int .i64 n] w (New w (.tuple #[.slice none 0 0, .bool false])) := by
  have hv := fun W => valid_any4 neg s W
  rw [hok] at hv
  have HV := Lib.hid hv
  have HB := Lib.hid (((Below.refl _ w).alloc (Nat.le_refl _) (.cells #[.bool neg, .string s] 199)).alloc (by simp) (.cells #[.int .i64 (b1 : Int), .int .i64 (b2 : Int), .int .i64 (b3 : Int), .int .u8 (b4.toNat : Int)] 174))
  clear hv hok
  unfold layV
  go_enter Tryz.func209, Tryz.ntmps209
  go_wp2_with fail
  refine (HV.out _).mono ?_
  rintro e w1 ⟨rfl, hb1⟩
  have HB1 := Lib.hid (HB.out.trans (hb1.mono HB.out.size))
  clear hb1
  go_wp2
  go_ret2
  exact ⟨rfl, HB1.out⟩
theorem encode_no2 (neg : Bool) (s : ByteArray) (n : Int) (b1 b2 b3 : Nat) (b4 : UInt8) (w : World) (hok : okL s.data.toList = true) (hn : ¬ (1 ≤ n ∧ n ≤ 16)) :
    Calls Tryz.prog 209 #[.agg #[.bool neg, .string s], layV b1 b2 b3 b4, .int .i64 n] w (New w (.tuple #[.slice none 0 0, .bool false])) := by
  have hv := fun W => valid_any4 neg s W
  rw [hok] at hv
  have HV := Lib.hid hv
  have hs2 := fun W => isSize_any n W
  rw [decide_eq_false (by omega)] at hs2
  have S2 := Lib.hid hs2
  have HB := Lib.hid (((Below.refl _ w).alloc (Nat.le_refl _) (.cells #[.bool neg, .string s] 199)).alloc (by simp) (.cells #[.int .i64 (b1 : Int), .int .i64 (b2 : Int), .int .i64 (b3 : Int), .int .u8 (b4.toNat : Int)] 174))
  clear hv hok hs2
  unfold layV
  go_enter Tryz.func209, Tryz.ntmps209
  go_wp2_with fail
  refine (HV.out _).mono ?_
  rintro e w1 ⟨rfl, hb1⟩
  have HB1 := Lib.hid (HB.out.trans (hb1.mono HB.out.size))
  clear hb1
  go_wp2_with fail
  refine (S2.out _).mono ?_
  rintro e w' ⟨rfl, rfl⟩
  go_wp2
  go_ret2
  exact ⟨rfl, HB1.out⟩
/-- Is there such a field? -/
def enB (l : List UInt8) (n : Int) : Bool := okL l && decide (1 ≤ n ∧ n ≤ 16)
theorem encode_any (neg : Bool) (s : ByteArray) (n : Int) (K2 : Nat → Nat) (b1 b2 b3 : Nat) (b4 : UInt8) (bs : List UInt8) (w : World) (hs : s.data.toList = bs)
    (hb : b1 ≤ 1) (hb2 : b2 ≤ 4) (hb3 : 1 ≤ b3) (hb4 : b3 ≤ 2) (hne : ∀ j, b1 ≠ b2 + b3 * j) (hK2 : ∀ m i, 1 ≤ m → (i < K2 m ↔ b2 + b3 * i < 2 * m)) :
    Calls Tryz.prog 209 #[.agg #[.bool neg, .string s], layV b1 b2 b3 b4, .int .i64 n] w (EnPost w (enB bs n) n (outL n.toNat b1 b2 b3 b4 (sgn neg) (fg bs)) (decide (K2 n.toNat < bs.length))) := by
  cases hok : okL bs
  · subst hs
    exact (encode_no1 neg s n b1 b2 b3 b4 w hok).mono fun e w' h => .inr ⟨by unfold enB; rw [hok]; rfl, h⟩
  by_cases h2 : 1 ≤ n ∧ n ≤ 16
  · obtain ⟨m, rfl⟩ := Int.eq_ofNat_of_zero_le (show 0 ≤ n by omega)
    exact (encode_yes neg s m (K2 m) b1 b2 b3 b4 bs w hs hok (by omega) (by omega) (by omega) hb2 hb3 hb4 hne (fun i => hK2 m i (by omega))).mono fun e w' h => .inl ⟨by unfold enB; rw [hok, decide_eq_true h2]; rfl, h⟩
  · subst hs
    exact (encode_no2 neg s n b1 b2 b3 b4 w hok h2).mono fun e w' h => .inr ⟨by unfold enB; rw [decide_eq_false h2]; simp, h⟩
/-- What Encode returns. -/
def encL4 (neg : Bool) (dl : List UInt8) (n : Nat) : List UInt8 := outL n 0 1 1 0 (sgn neg) (fg dl)
theorem encL_len (neg : Bool) (dl : List UInt8) (n : Nat) : (encL4 neg dl n).length = n := outL_len _ _ _ _ _ _ _
/-- The cells of the number, and what is held. -/
abbrev PenC (w0 : World) (D : Nat) (neg : Bool) (s : ByteArray) (W : World) : Prop :=
  (W.cell? ⟨D, 0, none⟩ = some (.bool neg) ∧ W.cell? ⟨D, 1, none⟩ = some (.string s)) ∧ CvS w0 none [] W
theorem PenC.next {w0 W W' : World} {D : Nat} {neg : Bool} {s : ByteArray} (h : PenC w0 D neg s W) (hb : Below W.heap.size W W') : PenC w0 D neg s W' := ⟨⟨keepC h.1.1 hb, keepC h.1.2 hb⟩, h.2.next hb⟩
theorem PenC.below {w0 W : World} {D : Nat} {neg : Bool} {s : ByteArray} (h : PenC w0 D neg s W) : Below w0.heap.size w0 W := h.2.1
theorem EnPost.yes {f : Nat} {args : Array Value} {w : World} {n : Int} {l : List UInt8} {over : Bool} (h : Calls Tryz.prog f args w (EnPost w true n l over)) :
    Calls Tryz.prog f args w fun e w' => ∃ g, e = .returned (.tuple #[.slice (some ⟨g, 0, none⟩) n.toNat n.toNat, .bool over]) ∧ Blk w' w.heap.size g l ∧ Below w.heap.size w w' :=
  h.mono fun e w' h => by
    rcases h with ⟨_, h⟩ | ⟨h, _⟩
    · exact h
    · cases h
theorem EnPost.no {f : Nat} {args : Array Value} {w : World} {n : Int} {l : List UInt8} {over : Bool} (h : Calls Tryz.prog f args w (EnPost w false n l over)) :
    Calls Tryz.prog f args w (New w (.tuple #[.slice none 0 0, .bool false])) :=
  h.mono fun e w' h => by
    rcases h with ⟨h, _⟩ | ⟨_, h⟩
    · cases h
    · exact h
theorem penc_any (neg : Bool) (s : ByteArray) (n : Int) (bs : List UInt8) (w : World) (hs : s.data.toList = bs) :
    Calls Tryz.prog 186 #[.agg #[.bool neg, .string s], .int .i64 n] w (EnPost w (enB bs n) n (encL4 neg bs n.toNat) (decide (2 * n.toNat - 1 < bs.length))) := by
  have hce := fun W => encode_any neg s n (fun m => 2 * m - 1) 0 1 1 0 bs W hs (by omega) (by omega) (by omega) (by omega) (by intro j; omega) (by intro m i hm; omega)
  have hc := cell2_new w (.bool neg) (.string s) 199
  have hb0 := below_new w (.cells #[.bool neg, .string s] 199)
  have h00 : PenC w w.heap.size neg s (w.alloc (.cells #[.bool neg, .string s] 199)).drew := ⟨⟨keepC hc.1 (Below.refl _ _).drew, keepC hc.2 (Below.refl _ _).drew⟩, hb0.drew, .inl rfl⟩
  have H00 := Lib.hid h00
  clear hc hb0 h00
  cases ho : enB bs n
  · rw [ho] at hce
    have HC := Lib.hid (fun W => EnPost.no (hce W))
    clear hce
    go_enter Tryz.func186, Tryz.ntmps186
    go_wp2
    go_region_held3 (fun W => (W.cell? ⟨w.heap.size, 0, none⟩ = some (.bool neg) ∧ W.cell? ⟨w.heap.size, 1, none⟩ = some (.string s)) ∧ CvS w none [] W)
      (first | exact H00.out | exact PenC.next (w0 := w) (D := w.heap.size) (by assumption) (by assumption))
      (first
        | (go_at_call 155; refine (packedLayout_any _).mono ?_; rintro e w2 ⟨rfl, hbel⟩)
        | (go_at_call 209; refine (HC.out _).mono ?_; rintro e w3 ⟨rfl, hbel3⟩))
    have hfin := PenC.below (D := w.heap.size) (w0 := w) (neg := neg) (s := s) (by assumption)
    go_wp2
    go_ret2
    exact .inr ⟨rfl, rfl, hfin⟩
  · rw [ho] at hce
    have HC := Lib.hid (fun W => EnPost.yes (hce W))
    clear hce
    go_enter Tryz.func186, Tryz.ntmps186
    go_wp2
    go_region_held3 (fun W => (W.cell? ⟨w.heap.size, 0, none⟩ = some (.bool neg) ∧ W.cell? ⟨w.heap.size, 1, none⟩ = some (.string s)) ∧ CvS w none [] W)
      (first | exact H00.out | exact PenC.next (w0 := w) (D := w.heap.size) (by assumption) (by assumption))
      (first
        | (go_at_call 155; refine (packedLayout_any _).mono ?_; rintro e w2 ⟨rfl, hbel⟩)
        | (go_at_call 209; refine (HC.out _).mono ?_; rintro e w3 ⟨g, rfl, hbk, hbel3⟩))
    have hz2 := hbel.size
    simp at hz2
    have hfin := PenC.below (D := w.heap.size) (w0 := w) (neg := neg) (s := s) (by assumption)
    go_wp2
    go_ret2
    exact .inl ⟨rfl, g, rfl, hbk.base' (by omega), hfin⟩
end E
end Go.Proofs.YtbcncohjjnmdcaaGreatDoor
