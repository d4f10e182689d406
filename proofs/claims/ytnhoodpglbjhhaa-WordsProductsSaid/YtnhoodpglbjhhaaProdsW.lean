/- The walk of the law WordsProducts. -/
import Derived.Test.YtnhoodpglbjhhaaRMul
import Derived.Test.YtnhoodpglbjhhaaAwake
import Derived.Test.YtnhoodpglbjhhaaSubMul
import Derived.Test.YtnhoodpglbjhhaaAddMul
import Derived.Test.YtnhoodpglbjhhaaEq
import Derived.Test.YtnhoodpglbjhhaaBacksM
import Derived.OpenShut
namespace Go.Proofs.Ytnhoodpglbjhhaa.wordsProducts
open Go.ChangeShapes Go.RowKit
set_option linter.unusedVariables false

/-- both ways give the same row and the same word above it -/
theorem two_sums {us bs : List Nat} {n c d t : Nat} (wa : Ws us) (wb : Ws bs) (la : us.length = n) (lb : bs.length = n) (h1 : V us + c * B64 ^ n = t) (h2 : V bs + d * B64 ^ n = t) : bs = us ∧ d = c := by
  have l1 := V_lt us wa
  have l2 := V_lt bs wb
  rw [la] at l1
  rw [lb] at l2
  obtain ⟨e1, e2⟩ := uniq (d := d) (e := c) l2 l1 (by omega)
  exact ⟨V_inj bs us wb wa (by omega) e1, e2⟩
theorem two_diffs {us bs : List Nat} {n c d t x : Nat} (wa : Ws us) (wb : Ws bs) (la : us.length = n) (lb : bs.length = n) (h1 : x + c * B64 ^ n = V us + t) (h2 : x + d * B64 ^ n = V bs + t) : bs = us ∧ d = c := by
  have l1 := V_lt us wa
  have l2 := V_lt bs wb
  rw [la] at l1
  rw [lb] at l2
  obtain ⟨e1, e2⟩ := uniq (d := c) (e := d) l2 l1 (by omega)
  exact ⟨V_inj bs us wb wa (by omega) e1, e2.symm⟩
/-- What is known at each stage: the two rows, the words' cells. -/
def Bp (w : World) (k : Nat) (A : Option Addr) (c : Nat) (A' : Option Addr) (c' : Nat) (ps qs : List Nat) (o0 o1 : Nat) (W : World) : Prop :=
  Sl W A k c ps ∧ Sl W A' k c' qs ∧ Below w.heap.size w W ∧ W.cell? ⟨w.heap.size, 0, none⟩ = some (.int .u64 o0) ∧ W.cell? ⟨w.heap.size, 1, none⟩ = some (.int .u64 o1) ∧ w.heap.size < W.heap.size
theorem Bp.below {w W W' : World} {k c c' o0 o1 : Nat} {A A' : Option Addr} {ps qs : List Nat} (h : Bp w k A c A' c' ps qs o0 o1 W) (hb : Below W.heap.size W W') : Bp w k A c A' c' ps qs o0 o1 W' :=
  ⟨h.1.below hb, h.2.1.below hb, h.2.2.1.trans (hb.mono h.2.2.1.size), (hb.cell (p := ⟨w.heap.size, 0, none⟩) h.2.2.2.2.2).trans h.2.2.2.1, (hb.cell (p := ⟨w.heap.size, 1, none⟩) h.2.2.2.2.2).trans h.2.2.2.2.1, Nat.lt_of_lt_of_le h.2.2.2.2.2 hb.size⟩
theorem Bp.drewN {w W : World} {k c c' o0 o1 : Nat} {A A' : Option Addr} {ps qs : List Nat} (h : Bp w k A c A' c' ps qs o0 o1 W) (m : Nat) : Bp w k A c A' c' ps qs o0 o1 (W.drewN m) :=
  ⟨h.1, h.2.1, below_drewN h.2.2.1 m, h.2.2.2.1, h.2.2.2.2.1, h.2.2.2.2.2⟩

set_option maxRecDepth 100000 in
set_option maxHeartbeats 2000000 in
theorem walk2 (w : World) (a0 : Option Addr) (n0 c0 : Nat) (xs : List Nat) (hx : Sl w a0 n0 c0 xs) (a1 : Option Addr) (n1 c1 : Nat) (ys : List Nat) (hy : Sl w a1 n1 c1 ys) (o0 o1 : Nat) (h0 : o0 < B64) (h1 : o1 < B64) :
    Calls Try.prog 4 #[.slice a0 n0 c0, .slice a1 n1 c1, .agg #[.int .u64 o0, .int .u64 o1]] w fun e w' => e = .returned (.bool true) ∧ Below w.heap.size w w' := by
  obtain ⟨i0, hi, hz0, hz1, hz2⟩ := info_parts Try.info23
  have hb0 : Below w.heap.size w (w.alloc (.cells #[.int .u64 o0, .int .u64 o1] 35)) := (Below.refl _ _).alloc (Nat.le_refl _) _
  have Hx := Lib.hid (And.intro (hx.below hb0) (And.intro (hy.below hb0) hb0))
  have HO := Lib.hid (And.intro h0 h1)
  clear hx hy hb0 h0 h1
  go_enter Try.func4, Try.ntmps4
  go_wp2_with (fail)
  refine (equal_ok _ _ _ _ _ _ xs ys _ Hx.out.1 Hx.out.2.1).mono ?_
  rintro e w1 ⟨v1, v2, k, ps, qs, rfl, hk, hn1, hn2, hb1⟩
  obtain ⟨A, c, rfl, hA⟩ := hn1.sl
  obtain ⟨A', c', rfl, hA'⟩ := hn2.sl
  have q0 : w1.cell? ⟨w.heap.size, 0, none⟩ = some (.int .u64 o0) := (hb1.cell (p := ⟨w.heap.size, 0, none⟩) (by simp)).trans (by simp)
  have q1 : w1.cell? ⟨w.heap.size, 1, none⟩ = some (.int .u64 o1) := (hb1.cell (p := ⟨w.heap.size, 1, none⟩) (by simp)).trans (by simp)
  have H1 : Hid (Bp w k A c A' c' ps qs o0 o1 w1) := ⟨hA, hA', Hx.out.2.2.trans (hb1.mono (by simp)), q0, q1, by have := hb1.size; simp at this; exact this⟩
  clear hn1 hn2 hA hA' hb1 Hx
  go_wp2_with (fail)
  clear q0 q1
  refine (MulWord_ok _ _ _ ps o0 o1 _ (by omega) H1.out.1 HO.out.1 HO.out.2).mono ?_
  rintro e w2 ⟨v2, z2, d2, rfl, hd2, hv2, hn2, hb2⟩
  obtain ⟨P2, g2, rfl, hP2⟩ := hn2.sl
  have H2 := Lib.hid (And.intro (H1.out.below hb2) (And.intro hP2 hv2))
  clear H1 hb2 hP2 hv2 hn2 hd2
  have q0 := H2.out.1.2.2.2.1
  go_wp2_with (fail)
  clear q0
  refine (AddMul_ok _ _ _ _ _ qs ps o0 _ (by omega) H2.out.1.2.1 H2.out.1.1 HO.out.1).mono ?_
  rintro e w3 ⟨v3, z3, d3, rfl, hd3, hv3, hn3, hb3⟩
  obtain ⟨P3, g3, rfl, hP3⟩ := hn3.sl
  have H3 := Lib.hid (And.intro (H2.out.1.below hb3) (And.intro (H2.out.2.1.below hb3) (And.intro hP3 hv3)))
  clear hb3 hP3 hv3 hn3 hd3
  have q0 := H3.out.1.2.2.2.1
  go_wp2_with (fail)
  clear q0
  refine (SubMul_ok _ _ _ _ _ qs ps o0 _ (by omega) H3.out.1.2.1 H3.out.1.1 HO.out.1).mono ?_
  rintro e w4 ⟨v4, z4, d4, rfl, hd4, hv4, hn4, hb4⟩
  obtain ⟨P4, g4, rfl, hP4⟩ := hn4.sl
  have H4 := Lib.hid (And.intro (H3.out.1.below hb4) (And.intro (H3.out.2.1.below hb4) (And.intro (H3.out.2.2.1.below hb4) (And.intro hP4 hv4))))
  clear hb4 hP4 hv4 hn4 hd4
  have q0 := H4.out.1.2.2.2.1
  have q1 := H4.out.1.2.2.2.2.1
  go_wp2_with (fail)
  clear q0 q1
  refine (RMul_ok _ _ _ ps o0 o1 _ (by omega) H4.out.1.1 HO.out.1 HO.out.2).mono ?_
  rintro e w5 ⟨v5, z5, d5, rfl, hn5, hv5, hb5⟩
  obtain ⟨P5, g5, rfl, hP5⟩ := hn5.sl
  obtain ⟨rfl, rfl⟩ := two_sums (c := d2) (d := d5) H4.out.2.1.2.2.2.1 hP5.2.2.2.1 H4.out.2.1.1 hP5.1 H2.out.2.2 hv5
  have H5 := Lib.hid (And.intro (H4.out.1.below hb5) (And.intro (H4.out.2.1.below hb5) (And.intro (H4.out.2.2.1.below hb5) (And.intro (H4.out.2.2.2.1.below hb5) hP5))))
  clear hb5 hP5 hv5 hn5 H2
  have q0 := H5.out.1.2.2.2.1
  go_wp2_with (fail)
  clear q0
  refine (RAddMul_ok _ _ _ _ _ qs ps o0 _ (by omega) H5.out.1.2.1 H5.out.1.1 HO.out.1).mono ?_
  rintro e w6 ⟨v6, z6, d6, rfl, hn6, hv6, hb6⟩
  obtain ⟨P6, g6, rfl, hP6⟩ := hn6.sl
  obtain ⟨rfl, rfl⟩ := two_sums (c := d3) (d := d6) H5.out.2.2.1.2.2.2.1 hP6.2.2.2.1 H5.out.2.2.1.1 hP6.1 H3.out.2.2.2 hv6
  have H6 := Lib.hid (And.intro (H5.out.1.below hb6) (And.intro (H5.out.2.1.below hb6) (And.intro (H5.out.2.2.1.below hb6) (And.intro (H5.out.2.2.2.1.below hb6) (And.intro (H5.out.2.2.2.2.below hb6) hP6)))))
  clear hb6 hP6 hv6 hn6 H3 H5
  have q0 := H6.out.1.2.2.2.1
  go_wp2_with (fail)
  clear q0
  refine (RSubMul_ok _ _ _ _ _ qs ps o0 _ (by omega) H6.out.1.2.1 H6.out.1.1 HO.out.1).mono ?_
  rintro e w7 ⟨v7, z7, d7, rfl, hn7, hv7, hb7⟩
  obtain ⟨P7, g7, rfl, hP7⟩ := hn7.sl
  obtain ⟨rfl, rfl⟩ := two_diffs (x := V qs) (t := V ps * o0) (c := d4) (d := d7) H6.out.2.2.2.1.2.2.2.1 hP7.2.2.2.1 H6.out.2.2.2.1.1 hP7.1 H4.out.2.2.2.2 hv7
  have H7 := Lib.hid (And.intro (H6.out.1.below hb7) (And.intro (H6.out.2.1.below hb7) (And.intro (H6.out.2.2.1.below hb7) (And.intro (H6.out.2.2.2.1.below hb7) (And.intro (H6.out.2.2.2.2.1.below hb7) (And.intro (H6.out.2.2.2.2.2.below hb7) hP7))))))
  clear hb7 hP7 hv7 hn7 H4 H6
  go_wp2_with (fail)
  refine (same_any _ _ _ _ _ _ _ _ _ H7.out.2.1 H7.out.2.2.2.2.1 (by omega)).mono ?_
  rintro e w8 ⟨rfl, m1, rfl⟩
  rw [decide_eq_true rfl]
  have H8 : Hid (Bp w k A c A' c' ps qs o0 o1 (w7.drewN m1) ∧ Sl (w7.drewN m1) P3 k g3 z6 ∧ Sl (w7.drewN m1) P6 k g6 z6 ∧ Sl (w7.drewN m1) P4 k g4 z7 ∧ Sl (w7.drewN m1) P7 k g7 z7) := ⟨H7.out.1.drewN m1, H7.out.2.2.1, H7.out.2.2.2.2.2.1, H7.out.2.2.2.1, H7.out.2.2.2.2.2.2⟩
  clear H7
  generalize w7.drewN m1 = w8 at *
  go_wp2_with (fail)
  refine (same_any _ _ _ _ _ _ _ _ _ H8.out.2.1 H8.out.2.2.1 (by omega)).mono ?_
  rintro e w9 ⟨rfl, m2, rfl⟩
  rw [decide_eq_true rfl]
  have H9 : Hid (Bp w k A c A' c' ps qs o0 o1 (w8.drewN m2) ∧ Sl (w8.drewN m2) P4 k g4 z7 ∧ Sl (w8.drewN m2) P7 k g7 z7) := ⟨H8.out.1.drewN m2, H8.out.2.2.2.1, H8.out.2.2.2.2⟩
  clear H8
  generalize w8.drewN m2 = w9 at *
  go_wp2_with (fail)
  refine (same_any _ _ _ _ _ _ _ _ _ H9.out.2.1 H9.out.2.2 (by omega)).mono ?_
  rintro e w10 ⟨rfl, m3, rfl⟩
  rw [decide_eq_true rfl]
  have H10 : Hid (Bp w k A c A' c' ps qs o0 o1 (w9.drewN m3)) := H9.out.1.drewN m3
  clear H9
  generalize w9.drewN m3 = w10 at *
  go_wp2_with (fail)
  refine (few_ok _ _ _ 40 ps _ H10.out.1 (by omega)).mono ?_
  rintro e w11 ⟨v11, rfl, hn11, hb11⟩
  rw [show min 40 k = k by omega] at hn11
  have hown := hn11.2.2
  have H11 := Lib.hid (And.intro (H10.out.below hb11) (And.intro hb11.size (And.intro hn11 hb11)))
  clear hb11 hn11
  have hs11 := H11.out.2.1
  go_wp2_with (at_builtin; refine wpList_append_rd _ rfl (.tmp 134) (.tmp 135) 22 rfl w10.heap.size 23 i0 (.int .u64 0) Try.underlying22 hi hz0 hz1 hz2 rfl v11 k _ rfl (hown.alloc _) _ (some ⟨w11.heap.size, 0, none⟩) 1 1 [.int .u64 0] rfl rfl (Rd.one _ _ _) (by simp [Value.oneCell']) (by omega) (by simp; omega) ?_)
  intro v12 w12 hown2 hgrow hblk
  obtain ⟨P12, g12, rfl, _, hg12, _, _⟩ := own_form hown2
  have hb12 : Below w10.heap.size w10 w12 := below_app0 H11.out.2.2.2 hown hgrow
  have H12 := Lib.hid (H10.out.below hb12)
  clear hown hown2 hgrow hblk hb12 hs11 H11 H10
  have q0 := H12.out.2.2.2.1
  go_wp2_with (fail)
  clear q0
  refine (AddMul_err _ _ (k + 1) k _ _ _ 1 _ (chk_two_ne (k + 1) k (by omega) (by omega) (by omega)) (by decide) (by omega) (by omega)).mono ?_
  rintro e w13 ⟨rfl, hb13⟩
  have H13 := Lib.hid (H12.out.below hb13)
  clear hb13 H12
  have q0 := H13.out.2.2.2.1
  go_wp2_with (fail)
  clear q0
  refine (SubMul_err _ _ k (k + 1) _ _ _ 1 _ (chk_two_ne k (k + 1) (by omega) (by omega) (by omega)) (by decide) (by omega) (by omega)).mono ?_
  rintro e w14 ⟨rfl, hb14⟩
  have H14 := Lib.hid (H13.out.below hb14)
  clear hb14 H13
  go_wp2_with (fail)
  refine (awake_any _).mono ?_
  rintro e w15 ⟨rfl, hb15⟩
  go_wp2_with (fail)
  go_ret
  exact ⟨rfl, H14.out.2.2.1.trans (hb15.mono H14.out.2.2.1.size)⟩

theorem walk (w : World) (a0 : Option Addr) (n0 c0 : Nat) (xs : List Nat) (hx : Sl w a0 n0 c0 xs) (a1 : Option Addr) (n1 c1 : Nat) (ys : List Nat) (hy : Sl w a1 n1 c1 ys) (zs : List Nat) (hl : zs.length = 2) (hz : Ws zs) :
    Calls Try.prog 4 #[.slice a0 n0 c0, .slice a1 n1 c1, .agg (uvs zs).toArray] w fun e w' => e = .returned (.bool true) ∧ Below w.heap.size w w' := by
  match zs, hl with
  | [o0, o1], _ => exact walk2 w a0 n0 c0 xs hx a1 n1 c1 ys hy o0 o1 (hz o0 (by simp)) (hz o1 (by simp))
end Go.Proofs.Ytnhoodpglbjhhaa.wordsProducts
