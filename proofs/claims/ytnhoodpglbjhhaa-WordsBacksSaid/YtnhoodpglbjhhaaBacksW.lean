/- The walk of the law WordsBacks. -/
import Derived.Test.YtnhoodpglbjhhaaEq
import Derived.Test.YtnhoodpglbjhhaaAwake
import Derived.Test.YtnhoodpglbjhhaaAddMul
import Derived.Test.YtnhoodpglbjhhaaSubMul
import Derived.Test.YtnhoodpglbjhhaaNeg
import Derived.Test.YtnhoodpglbjhhaaBacksM
import Derived.OpenShut
import Derived.Deep.AppendLies
namespace Go.Proofs.Ytnhoodpglbjhhaa.wordsBacks
open Go.ChangeShapes Go.RowKit
set_option linter.unusedVariables false

/-- What is known at each stage: the two rows, the third word's cell. -/
def Bk (w : World) (k : Nat) (A : Option Addr) (c : Nat) (A' : Option Addr) (c' : Nat) (ps qs : List Nat) (o2 : Nat) (W : World) : Prop :=
  Sl W A k c ps ∧ Sl W A' k c' qs ∧ Below w.heap.size w W ∧ W.cell? ⟨w.heap.size, 2, none⟩ = some (.int .u64 o2) ∧ w.heap.size < W.heap.size
theorem Bk.below {w W W' : World} {k c c' o2 : Nat} {A A' : Option Addr} {ps qs : List Nat} (h : Bk w k A c A' c' ps qs o2 W) (hb : Below W.heap.size W W') : Bk w k A c A' c' ps qs o2 W' :=
  ⟨h.1.below hb, h.2.1.below hb, h.2.2.1.trans (hb.mono h.2.2.1.size), (hb.cell (p := ⟨w.heap.size, 2, none⟩) h.2.2.2.2).trans h.2.2.2.1, Nat.lt_of_lt_of_le h.2.2.2.2 hb.size⟩
theorem Bk.drewN {w W : World} {k c c' o2 : Nat} {A A' : Option Addr} {ps qs : List Nat} (h : Bk w k A c A' c' ps qs o2 W) (m : Nat) : Bk w k A c A' c' ps qs o2 (W.drewN m) :=
  ⟨h.1, h.2.1, below_drewN h.2.2.1 m, h.2.2.2.1, h.2.2.2.2⟩

theorem Sl.set_ {w : World} {g n c : Nat} {xs : List Nat} (h : Sl w (some ⟨g, 0, none⟩) n c xs) (i : Nat) {v : Nat} (hv : Ws (xs.set i v)) : Sl (w.setCell ⟨g, i, none⟩ (.int .u64 (v : Int))) (some ⟨g, 0, none⟩) n c (xs.set i v) := by
  refine ⟨by rw [List.length_set]; exact h.1, h.2.1, h.2.2.1, hv, fun hne => ?_⟩
  obtain ⟨b, o, e, hb, hc⟩ := h.2.2.2.2 (by
    intro e
    apply hne
    have := congrArg List.length e
    rw [uvs_length] at this
    exact List.eq_nil_of_length_eq_zero (by rw [uvs_length, List.length_set]; exact this))
  injection e with e
  injection e with e1 e2
  subst e1
  refine ⟨g, 0, rfl, by simpa [World.setCell] using hb, fun j u hj => ?_⟩
  rw [Nat.zero_add]
  rw [← e2] at hc
  rw [uvs, List.getElem?_map, List.getElem?_set] at hj
  by_cases hij : i = j
  · subst hij
    rw [if_pos rfl] at hj
    split at hj
    · rename_i hlt
      have h0 := hc i _ (uvs_get (List.getElem?_eq_getElem hlt))
      rw [Nat.zero_add] at h0
      simp at hj
      subst hj
      exact World.cell?_setCell_same' _ _ _ (by rw [h0]; rfl)
    · simp at hj
  · rw [if_neg hij] at hj
    rw [World.cell?_setCell_other _ _ _ _ (by intro e; injection e with _ e _; omega)]
    have h0 := hc j u (by rw [uvs, List.getElem?_map]; exact hj)
    rw [Nat.zero_add] at h0
    exact h0

set_option maxRecDepth 100000 in
set_option maxHeartbeats 1000000 in
theorem walk3 (w : World) (a0 : Option Addr) (n0 c0 : Nat) (xs : List Nat) (hx : Sl w a0 n0 c0 xs) (a1 : Option Addr) (n1 c1 : Nat) (ys : List Nat) (hy : Sl w a1 n1 c1 ys) (o0 o1 o2 : Nat) (h0 : o0 < B64) (h1 : o1 < B64) (h2 : o2 < B64) :
    Calls Try.prog 9 #[.slice a0 n0 c0, .slice a1 n1 c1, .agg #[.int .u64 o0, .int .u64 o1, .int .u64 o2]] w fun e w' => e = .returned (.bool true) ∧ Below w.heap.size w w' := by
  have hb0 : Below w.heap.size w (w.alloc (.cells #[.int .u64 o0, .int .u64 o1, .int .u64 o2] 58)) := (Below.refl _ _).alloc (Nat.le_refl _) _
  have Hx := Lib.hid (And.intro (hx.below hb0) (And.intro (hy.below hb0) hb0))
  obtain ⟨i0, hi, hz0, hz1, hz2⟩ := info_parts Try.info23
  have HB := Lib.hid (show B64 = 18446744073709551616 from rfl)
  have ec : ∃ cy : Nat, (o0 : Int) % 2 = (cy : Int) ∧ cy ≤ 1 := ⟨o0 % 2, by omega, by omega⟩
  obtain ⟨cy, ec, ec1⟩ := ec
  have ew : ∃ wd : Nat, max (o1 : Int) 1 = (wd : Int) ∧ 0 < wd ∧ wd < B64 := ⟨max o1 1, by omega, by omega, by have := HB.out; omega⟩
  obtain ⟨wd, ew, ew1, ew2⟩ := ew
  have es : ∃ s : Nat, (o2 : Int) % 64 = (s : Int) ∧ s ≤ 63 := ⟨o2 % 64, by omega, by omega⟩
  obtain ⟨s, es, es1⟩ := es
  have er : ∃ r : Nat, (o2 : Int) % (wd : Int) = (r : Int) ∧ r < wd := ⟨o2 % wd, by simp, Nat.mod_lt _ ew1⟩
  obtain ⟨r, er, er1⟩ := er
  have HW := Lib.hid (And.intro ew2 (show r < B64 by omega))
  clear hx hy hb0 h0 h1 h2 ew2
  go_enter Try.func9, Try.ntmps9
  go_wp2_with (fail)
  refine (equal_ok _ _ _ _ _ _ xs ys _ Hx.out.1 Hx.out.2.1).mono ?_
  rintro e w1 ⟨v1, v2, k, ps, qs, rfl, hk, hn1, hn2, hb1⟩
  obtain ⟨A, c, rfl, hA⟩ := hn1.sl
  obtain ⟨A', c', rfl, hA'⟩ := hn2.sl
  have H1 := Lib.hid (And.intro hA (And.intro hA' hb1))
  have q0 : w1.cell? ⟨w.heap.size, 0, none⟩ = some (.int .u64 o0) := (hb1.cell (p := ⟨w.heap.size, 0, none⟩) (by simp)).trans (by simp)
  have q1 : w1.cell? ⟨w.heap.size, 1, none⟩ = some (.int .u64 o1) := (hb1.cell (p := ⟨w.heap.size, 1, none⟩) (by simp)).trans (by simp)
  have q2 : w1.cell? ⟨w.heap.size, 2, none⟩ = some (.int .u64 o2) := (hb1.cell (p := ⟨w.heap.size, 2, none⟩) (by simp)).trans (by simp)
  have Hx0 := Hx
  clear hn1 hn2 hA hA' hb1 Hx
  go_wp2_with (fail)
  go_quiet (fail)
  have H0 : Hid (Bk w k A c A' c' ps qs o2 (w1.drewN nq)) := ⟨H1.out.1, H1.out.2.1, below_drewN (Hx0.out.2.2.trans (H1.out.2.2.mono (by simp))) nq, q2, by have := H1.out.2.2.size; simp at this; exact this⟩
  clear H1 q0 q1 q2 Hx0
  generalize w1.drewN nq = wq at *
  have q2 := H0.out.2.2.2.1
  go_wp2_with (fail)
  clear q2
  refine (Add_ok _ _ _ _ _ ps qs cy _ (by omega) H0.out.1 H0.out.2.1 ec1).mono ?_
  rintro e w2 ⟨v3, z1, d1, rfl, hd1, hv1, hn3, hb2⟩
  obtain ⟨P1, g1, rfl, hP1⟩ := hn3.sl
  have H2 := Lib.hid (And.intro (H0.out.below hb2) (And.intro hP1 hv1))
  clear H0 hb2 hP1 hv1 hn3
  go_wp2_with (fail)
  refine (Sub_ok _ _ _ _ _ z1 qs cy _ (by omega) H2.out.2.1 H2.out.1.2.1 ec1).mono ?_
  rintro e w3 ⟨v4, z2, d2, rfl, hd2, hv2, hn4, hb3⟩
  obtain ⟨P2, g2, rfl, hP2⟩ := hn4.sl
  obtain ⟨rfl, rfl⟩ := back_sub (zs := z1) (d := d2) (c := d1) (t := V qs + cy) H2.out.1.1.2.2.2.1 hP2.2.2.2.1 H2.out.1.1.1 hP2.1 (by have := H2.out.2.2; omega) (by omega)
  have H3 := Lib.hid (And.intro (H2.out.1.below hb3) hP2)
  clear H2 hb3 hP2 hv2 hn4 hd1 hd2
  go_wp2_with (fail)
  refine (same_any _ _ _ _ _ _ _ _ _ H3.out.2 H3.out.1.1 (by omega)).mono ?_
  rintro e w4 ⟨rfl, m1, rfl⟩
  rw [decide_eq_true (rfl : z2 = z2)]
  have H4 := Lib.hid (H3.out.1.drewN m1)
  clear H3
  generalize w3.drewN m1 = w4 at *
  go_wp2_with (fail)
  refine (AddMul_ok _ _ _ _ _ z2 qs wd _ (by omega) H4.out.1 H4.out.2.1 HW.out.1).mono ?_
  rintro e w5 ⟨v5, z3, d3, rfl, hd3, hv3, hn5, hb5⟩
  obtain ⟨P3, g3, rfl, hP3⟩ := hn5.sl
  have H5 := Lib.hid (And.intro (H4.out.below hb5) (And.intro hP3 hv3))
  clear H4 hb5 hP3 hv3 hn5
  go_wp2_with (fail)
  refine (SubMul_ok _ _ _ _ _ z3 qs wd _ (by omega) H5.out.2.1 H5.out.1.2.1 HW.out.1).mono ?_
  rintro e w6 ⟨v6, z4, d4, rfl, hd4, hv4, hn6, hb6⟩
  obtain ⟨P4, g4, rfl, hP4⟩ := hn6.sl
  obtain ⟨rfl, rfl⟩ := back_sub (zs := z3) (d := d4) (c := d3) (t := V qs * wd) H5.out.1.1.2.2.2.1 hP4.2.2.2.1 H5.out.1.1.1 hP4.1 H5.out.2.2 hv4
  have H6 := Lib.hid (And.intro (H5.out.1.below hb6) hP4)
  clear H5 hb6 hP4 hv4 hn6 hd3 hd4
  go_wp2_with (fail)
  refine (same_any _ _ _ _ _ _ _ _ _ H6.out.2 H6.out.1.1 (by omega)).mono ?_
  rintro e w7 ⟨rfl, m2, rfl⟩
  rw [decide_eq_true (rfl : z4 = z4)]
  have H7 := Lib.hid (H6.out.1.drewN m2)
  clear H6
  generalize w6.drewN m2 = w7 at *
  have q2 := H7.out.2.2.2.1
  go_wp2_with (fail)
  clear q2
  refine (MulWord_ok _ _ _ z4 wd r _ (by omega) H7.out.1 HW.out.1 HW.out.2).mono ?_
  rintro e w8 ⟨v7, z5, d5, rfl, hd5, hv5, hn7, hb8⟩
  obtain ⟨P5, g5, rfl, hP5⟩ := hn7.sl
  have H8 := Lib.hid (And.intro (H7.out.below hb8) (And.intro hP5 hv5))
  clear H7 hb8 hP5 hv5 hn7
  go_wp2_with (fail)
  have hlt := high_less er1 (by have := V_lt z4 H8.out.1.1.2.2.2.1; rw [H8.out.1.1.1] at this; exact this) H8.out.2.2
  refine (DivWord_ok _ _ _ z5 wd d5 _ (by omega) H8.out.2.1 HW.out.1 hlt).mono ?_
  rintro e w9 ⟨v8, z6, d6, rfl, hd6, hv6, hn8, hb9⟩
  obtain ⟨P6, g6, rfl, hP6⟩ := hn8.sl
  obtain ⟨rfl, rfl⟩ := back_div (n := k) H8.out.1.1.2.2.2.1 hP6.2.2.2.1 H8.out.1.1.1 hP6.1 er1 hd6 (by have := H8.out.2.2; omega)
  have H9 := Lib.hid (And.intro (H8.out.1.below hb9) hP6)
  clear H8 hb9 hP6 hv6 hn8 hd5 hlt hd6
  go_wp2_with (fail)
  refine (same_any _ _ _ _ _ _ _ _ _ H9.out.2 H9.out.1.1 (by omega)).mono ?_
  rintro e w10 ⟨rfl, m3, rfl⟩
  rw [decide_eq_true (rfl : z6 = z6)]
  have H10 := Lib.hid (H9.out.1.drewN m3)
  clear H9
  generalize w9.drewN m3 = w10 at *
  have q2 := H10.out.2.2.2.1
  go_wp2_with (fail)
  clear q2
  refine (Left_ok _ _ _ z6 s _ (by omega) H10.out.1 es1).mono ?_
  rintro e w11 ⟨v9, z7, d7, rfl, hd7, hv7, hn9, hb11⟩
  obtain ⟨P7, g7, rfl, hP7⟩ := hn9.sl
  have H11 := Lib.hid (And.intro (H10.out.below hb11) (And.intro hP7 (And.intro hd7 hv7)))
  clear H10 hb11 hP7 hv7 hn9 hd7
  go_wp2_with (fail)
  refine (Right_ok _ _ _ z7 s _ (by omega) H11.out.2.1 es1).mono ?_
  rintro e w12 ⟨v10, z8, d8, rfl, hd8, hv8, hn10, hb12⟩
  generalize ((d8 * 2 ^ (64 - s) : Nat) : Int) = D8
  have hF : 0 < k → ∃ g cap, v10 = .slice (some ⟨g, 0, none⟩) k cap ∧ w11.heap.size ≤ g ∧ g < w12.heap.size ∧ ∀ j, w12.frozen? ⟨g, j, none⟩ = false := fun h => by
    obtain ⟨g, cap, hv, h1, h2⟩ := World.ownsRow.form hn10.2.2 h
    subst hv
    exact ⟨g, cap, rfl, h1, h2, fun j => World.ownsRow.frozenAt hn10.2.2 j⟩
  obtain ⟨P8, g8, rfl, hP8⟩ := hn10.sl
  have H12 := Lib.hid (And.intro (H11.out.1.below hb12) (And.intro hP8 (And.intro hF (And.intro hd8 (And.intro hv8 (And.intro H11.out.2.1 H11.out.2.2))))))
  have HK := Lib.hid (And.intro H11.out.1 hb12)
  clear H11 hb12 hP8 hv8 hn10 hd8 hF
  by_cases hc : 0 < k ∧ 0 < s
  · obtain ⟨hc1, hc2⟩ := hc
    obtain ⟨y, hy1, hy2, hy3⟩ := shift_row es1 hc1 H12.out.1.1.2.2.2.1 H12.out.2.1.2.2.2.1 H12.out.2.2.2.2.2.1.2.2.2.1 H12.out.1.1.1 H12.out.2.1.1 H12.out.2.2.2.2.2.1.1 H12.out.2.2.2.2.2.2.1 H12.out.2.2.2.2.2.2.2 H12.out.2.2.2.2.1 H12.out.2.2.2.1
    obtain ⟨g, cap, hv, hg1, hg2, hfr⟩ := H12.out.2.2.1 hc1
    injection hv with hv1 hv2 hv3
    subst hv1
    subst hv3
    obtain ⟨i, hi1⟩ : ∃ i, k = i + 1 := ⟨k - 1, by omega⟩
    have hi2 : (k : Int) - 1 = (i : Int) := by omega
    have hi3 : (i : Int) < k := by omega
    rw [show k - 1 = i by omega] at hy1 hy3
    have c4 : w12.cell? ⟨g, i, none⟩ = some (.int .u64 (y : Int)) := by
      obtain ⟨b, o, e, _, hcell⟩ := H12.out.2.1.2.2.2.2.at (uvs_get hy1)
      injection e with e
      injection e with e1 e2
      subst e1
      rw [← e2, Nat.zero_add] at hcell
      exact hcell
    have f4 := hfr i
    have Hor := Lib.hid (or_top es1 hy2 H12.out.2.2.2.2.2.2.1)
    have Hy := Lib.hid (And.intro hy3 (And.intro hg1 hg2))
    have Hi := Lib.hid hi1
    clear hy1 hy2 hy3 hfr hg1 hg2 hi1
    go_wp2_with (fail)
    go_region
    rw [Hor.out]
    have H13 : Hid (Bk w k A c A' c' z6 qs o2 (w12.setCell ⟨g, i, none⟩ (.int .u64 ((y + d7 * 2 ^ (64 - s) : Nat) : Int))).drew ∧ Sl (w12.setCell ⟨g, i, none⟩ (.int .u64 ((y + d7 * 2 ^ (64 - s) : Nat) : Int))).drew (some ⟨g, 0, none⟩) k g8 z6) := by
      obtain ⟨e3, g1', g2'⟩ := Hy.out
      refine ⟨(HK.out.1.below (HK.out.2.setCell (p := ⟨g, i, none⟩) g1' _)).drewN 1, ?_⟩
      have := Sl.set_ H12.out.2.1 i (v := y + d7 * 2 ^ (64 - s)) (by rw [e3]; exact H12.out.1.1.2.2.2.1)
      rw [e3] at this
      exact this
    clear H12 HK Hy Hor c4 f4 hi2 hi3
    generalize (w12.setCell ⟨g, i, none⟩ (.int .u64 ((y + d7 * 2 ^ (64 - s) : Nat) : Int))).drew = wt at *
    go_wp2_with (fail)
    refine (Negate_ok _ _ _ z6 _ (by omega) H13.out.1.1).mono ?_
    rintro e w13 ⟨v11, z9, d9, rfl, hd9, hv9, hn11, hb13⟩
    obtain ⟨P9, g9, rfl, hP9⟩ := hn11.sl
    rw [dec_one d9]
    have H14 := Lib.hid (And.intro (H13.out.1.below hb13) (And.intro (H13.out.2.below hb13) (And.intro hP9 hv9)))
    clear H13 hb13 hP9 hv9 hn11 hd9
    go_wp2_with (at_make; refine wpList_make_full _ rfl _ _ 22 rfl w13.heap.size 23 i0 (.int .u64 0) 1 Try.underlying22 hi hz0 hz1 .i64 .i64 _ _ k rfl rfl rfl rfl (by rw [hz2]; omega) (by unfold maxLen; omega) (Nat.le_refl _) ?_)
    intro w14 hown hgrow
    have hb14 := below_of_grown hgrow (Nat.le_refl _)
    have hsl := Nw_zeros (by simpa using hown) (show k ≤ 9223372036854775807 by omega)
    have H15 := Lib.hid (And.intro (H14.out.1.below hb14) (And.intro (H14.out.2.1.below hb14) (And.intro (H14.out.2.2.1.below hb14) (And.intro H14.out.2.2.2 hsl))))
    clear H14 hb14 hown hgrow hsl
    go_wp2_with (fail)
    refine (Sub_ok _ _ _ _ _ (List.replicate k 0) z6 0 _ (by omega) H15.out.2.2.2.2 H15.out.1.1 (by omega)).mono ?_
    rintro e w15 ⟨v12, z10, d10, rfl, hd10, hv10, hn12, hb15⟩
    obtain ⟨P10, g10, rfl, hP10⟩ := hn12.sl
    rw [V_zeros] at hv10
    obtain ⟨rfl, rfl⟩ := neg_twice H15.out.2.2.1.2.2.2.1 hP10.2.2.2.1 H15.out.2.2.1.1 hP10.1 H15.out.2.2.2.1 hv10
    have H16 := Lib.hid (And.intro (H15.out.1.below hb15) (And.intro (H15.out.2.1.below hb15) (And.intro (H15.out.2.2.1.below hb15) hP10)))
    clear H15 hb15 hP10 hv10 hn12 hd10
    go_wp2_with (fail)
    refine (same_any _ _ _ _ _ _ _ _ _ H16.out.2.1 H16.out.1.1 (by omega)).mono ?_
    rintro e w16 ⟨rfl, m4, rfl⟩
    rw [decide_eq_true (rfl : z6 = z6)]
    have H17 := Lib.hid (And.intro (H16.out.1.drewN m4) (And.intro (show Sl (w15.drewN m4) _ _ _ _ from H16.out.2.2.1) (show Sl (w15.drewN m4) _ _ _ _ from H16.out.2.2.2)))
    clear H16
    generalize w15.drewN m4 = w16 at *
    go_wp2_with (fail)
    refine (same_any _ _ _ _ _ _ _ _ _ H17.out.2.1 H17.out.2.2 (by omega)).mono ?_
    rintro e w17 ⟨rfl, m5, rfl⟩
    rw [decide_eq_true (rfl : z10 = z10)]
    go_wp2_with (fail)
    refine (awake_any _).mono ?_
    rintro e w18 ⟨rfl, hb18⟩
    go_wp2_with (fail)
    go_ret
    exact ⟨rfl, (below_drewN H17.out.1.2.2.1 m5).trans (hb18.mono H17.out.1.2.2.1.size)⟩
  · have hz : z8 = z6 := shift_none H12.out.1.1.2.2.2.1 H12.out.2.1.2.2.2.1 H12.out.1.1.1 H12.out.2.1.1 H12.out.2.2.2.2.2.1.1 H12.out.2.2.2.2.2.2.1 H12.out.2.2.2.2.2.2.2 H12.out.2.2.2.2.1 H12.out.2.2.2.1 (by omega)
    have H13 := Lib.hid (And.intro H12.out.1 (show Sl w12 P8 k g8 z6 by rw [← hz]; exact H12.out.2.1))
    clear hz H12 HK
    generalize w12 = wt at *
    go_wp2_with (fail)
    all_goals
      refine (Negate_ok _ _ _ z6 _ (by omega) H13.out.1.1).mono ?_
      rintro e w13 ⟨v11, z9, d9, rfl, hd9, hv9, hn11, hb13⟩
      obtain ⟨P9, g9, rfl, hP9⟩ := hn11.sl
      rw [dec_one d9]
      have H14 := Lib.hid (And.intro (H13.out.1.below hb13) (And.intro (H13.out.2.below hb13) (And.intro hP9 hv9)))
      clear H13 hb13 hP9 hv9 hn11 hd9
      go_wp2_with (at_make; refine wpList_make_full _ rfl _ _ 22 rfl w13.heap.size 23 i0 (.int .u64 0) 1 Try.underlying22 hi hz0 hz1 .i64 .i64 _ _ k rfl rfl rfl rfl (by rw [hz2]; omega) (by unfold maxLen; omega) (Nat.le_refl _) ?_)
      intro w14 hown hgrow
      have hb14 := below_of_grown hgrow (Nat.le_refl _)
      have hsl := Nw_zeros (by simpa using hown) (show k ≤ 9223372036854775807 by omega)
      have H15 := Lib.hid (And.intro (H14.out.1.below hb14) (And.intro (H14.out.2.1.below hb14) (And.intro (H14.out.2.2.1.below hb14) (And.intro H14.out.2.2.2 hsl))))
      clear H14 hb14 hown hgrow hsl
      go_wp2_with (fail)
      refine (Sub_ok _ _ _ _ _ (List.replicate k 0) z6 0 _ (by omega) H15.out.2.2.2.2 H15.out.1.1 (by omega)).mono ?_
      rintro e w15 ⟨v12, z10, d10, rfl, hd10, hv10, hn12, hb15⟩
      obtain ⟨P10, g10, rfl, hP10⟩ := hn12.sl
      rw [V_zeros] at hv10
      obtain ⟨rfl, rfl⟩ := neg_twice H15.out.2.2.1.2.2.2.1 hP10.2.2.2.1 H15.out.2.2.1.1 hP10.1 H15.out.2.2.2.1 hv10
      have H16 := Lib.hid (And.intro (H15.out.1.below hb15) (And.intro (H15.out.2.1.below hb15) (And.intro (H15.out.2.2.1.below hb15) hP10)))
      clear H15 hb15 hP10 hv10 hn12 hd10
      go_wp2_with (fail)
      refine (same_any _ _ _ _ _ _ _ _ _ H16.out.2.1 H16.out.1.1 (by omega)).mono ?_
      rintro e w16 ⟨rfl, m4, rfl⟩
      rw [decide_eq_true (rfl : z6 = z6)]
      have H17 := Lib.hid (And.intro (H16.out.1.drewN m4) (And.intro (show Sl (w15.drewN m4) _ _ _ _ from H16.out.2.2.1) (show Sl (w15.drewN m4) _ _ _ _ from H16.out.2.2.2)))
      clear H16
      generalize w15.drewN m4 = w16 at *
      go_wp2_with (fail)
      refine (same_any _ _ _ _ _ _ _ _ _ H17.out.2.1 H17.out.2.2 (by omega)).mono ?_
      rintro e w17 ⟨rfl, m5, rfl⟩
      rw [decide_eq_true (rfl : z10 = z10)]
      go_wp2_with (fail)
      refine (awake_any _).mono ?_
      rintro e w18 ⟨rfl, hb18⟩
      go_wp2_with (fail)
      go_ret
      exact ⟨rfl, (below_drewN H17.out.1.2.2.1 m5).trans (hb18.mono H17.out.1.2.2.1.size)⟩

theorem walk (w : World) (a0 : Option Addr) (n0 c0 : Nat) (xs : List Nat) (hx : Sl w a0 n0 c0 xs) (a1 : Option Addr) (n1 c1 : Nat) (ys : List Nat) (hy : Sl w a1 n1 c1 ys) (zs : List Nat) (hl : zs.length = 3) (hz : Ws zs) :
    Calls Try.prog 9 #[.slice a0 n0 c0, .slice a1 n1 c1, .agg (uvs zs).toArray] w fun e w' => e = .returned (.bool true) ∧ Below w.heap.size w w' := by
  match zs, hl with
  | [o0, o1, o2], _ => exact walk3 w a0 n0 c0 xs hx a1 n1 c1 ys hy o0 o1 o2 (hz o0 (by simp)) (hz o1 (by simp)) (hz o2 (by simp))
end Go.Proofs.Ytnhoodpglbjhhaa.wordsBacks
