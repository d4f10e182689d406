/- The walk of the law WordsOwn. -/
import Derived.Test.YtnhoodpglbjhhaaOwnL
import Derived.OpenShut
namespace Go.Proofs.Ytnhoodpglbjhhaa.wordsOwn
open Go.ChangeShapes Go.RowKit
set_option linter.unusedVariables false

/-- What is known ahead of the loops: the rows' places. -/
def Start (w0 w : World) (k : Nat) (A A' C C' P1 P2 P3 P4 P5 : Option Addr) (ps qs : List Nat) : Prop :=
  ∃ B, w0.heap.size ≤ B ∧ B ≤ w.heap.size ∧ Below w0.heap.size w0 w ∧ ps.length = k ∧ qs.length = k ∧ Ws ps ∧ Ws qs ∧ Rd w B A (uvs ps) ∧ Rd w B A' (uvs qs) ∧ Rd w B C (uvs ps) ∧ Rd w B C' (uvs qs) ∧
    Free w B w.heap.size P1 k ∧ Free w B w.heap.size P2 k ∧ Free w B w.heap.size P3 k ∧ Free w B w.heap.size P4 k ∧ Free w B w.heap.size P5 k

theorem Start.own {w0 w : World} {k : Nat} {A A' C C' P1 P2 P3 P4 P5 : Option Addr} {ps qs : List Nat} (h : Start w0 w k A A' C C' P1 P2 P3 P4 P5 ps qs) (c1 c2 c3 c4 c5 : Nat) :
    ∃ B Af cf, OwnI w0 B w.heap.size k Af cf A A' C C' ps qs (w.alloc (.cells #[.slice P1 k c1, .slice P2 k c2, .slice P3 k c3, .slice P4 k c4, .slice P5 k c5] 22)) := by
  obtain ⟨B, h1, h2, h3, h4, h5, h6, h7, h8, h9, h10, h11, f1, f2, f3, f4, f5⟩ := h
  have hb : Below w.heap.size w (w.alloc (.cells #[.slice P1 k c1, .slice P2 k c2, .slice P3 k c3, .slice P4 k c4, .slice P5 k c5] 22)) := (Below.refl _ _).alloc (Nat.le_refl _) _
  refine ⟨B, fun i => match i with | 0 => P1 | 1 => P2 | 2 => P3 | 3 => P4 | _ => P5, fun i => match i with | 0 => c1 | 1 => c2 | 2 => c3 | 3 => c4 | _ => c5, h1, h2, by simp, h3.alloc h3.size _, h8.alloc h2 _, h9.alloc h2 _, h10.alloc h2 _, h11.alloc h2 _, ?_, ?_⟩
  · intro i hi
    match i, hi with
    | 0, _ => simp
    | 1, _ => simp
    | 2, _ => simp
    | 3, _ => simp
    | 4, _ => simp
  · intro i hi
    match i, hi with
    | 0, _ => exact f1.below hb (Nat.le_refl _) (Nat.le_refl _) (Nat.le_refl _)
    | 1, _ => exact f2.below hb (Nat.le_refl _) (Nat.le_refl _) (Nat.le_refl _)
    | 2, _ => exact f3.below hb (Nat.le_refl _) (Nat.le_refl _) (Nat.le_refl _)
    | 3, _ => exact f4.below hb (Nat.le_refl _) (Nat.le_refl _) (Nat.le_refl _)
    | 4, _ => exact f5.below hb (Nat.le_refl _) (Nat.le_refl _) (Nat.le_refl _)

set_option maxRecDepth 100000 in
set_option maxHeartbeats 1000000 in
theorem walk (w : World) (a0 : Option Addr) (n0 c0 : Nat) (xs : List Nat) (hx : Sl w a0 n0 c0 xs) (a1 : Option Addr) (n1 c1 : Nat) (ys : List Nat) (hy : Sl w a1 n1 c1 ys) (a2 : Int) (w2 : (Lit.int .u64 a2).wf = true) :
    Calls Try.prog 10 #[.slice a0 n0 c0, .slice a1 n1 c1, .int .u64 a2] w fun e w' => e = .returned (.bool true) ∧ Below w.heap.size w w' := by
  have hb2 := bounds_u64 w2
  obtain ⟨x, rfl⟩ := Int.eq_ofNat_of_zero_le (show 0 ≤ a2 by omega)
  have hxB : x < B64 := by have hB : B64 = 18446744073709551616 := rfl; omega
  have HxB := Lib.hid hxB
  have Hx := Lib.hid hx
  have Hy := Lib.hid hy
  clear w2 hb2 hxB hx hy
  go_enter Try.func10, Try.ntmps10
  go_wp2_with (fail)
  refine (equal_ok _ _ _ _ _ _ xs ys _ Hx.out Hy.out).mono ?_
  rintro e w1 ⟨v1, v2, k, ps, qs, rfl, hk, hn1, hn2, hb1⟩
  obtain ⟨A, c, rfl, hA⟩ := hn1.sl
  obtain ⟨A', c', rfl, hA'⟩ := hn2.sl
  have H1 := Lib.hid (And.intro hA (And.intro hA' hb1))
  clear hn1 hn2 hA hA' hb1 Hx Hy
  go_wp2_with (fail)
  refine (few_ok _ _ _ 40 ps _ H1.out.1 (by omega)).mono ?_
  rintro e w2 ⟨v3, rfl, hn3, hb2⟩
  have hps : ps.take 40 = ps := List.take_of_length_le (by rw [H1.out.1.1]; omega)
  rw [hps, show min 40 k = k by omega] at hn3
  clear hps
  obtain ⟨C, cc, rfl, hC⟩ := hn3.sl
  have H2 := Lib.hid (And.intro (H1.out.1.below hb2) (And.intro (H1.out.2.1.below hb2) (And.intro hC (H1.out.2.2.trans (hb2.mono H1.out.2.2.size)))))
  clear hn3 hC hb2 H1
  go_wp2_with (fail)
  refine (few_ok _ _ _ 40 qs _ H2.out.2.1 (by omega)).mono ?_
  rintro e w3 ⟨v4, rfl, hn4, hb3⟩
  have hqs : qs.take 40 = qs := List.take_of_length_le (by rw [H2.out.2.1.1]; omega)
  rw [hqs, show min 40 k = k by omega] at hn4
  clear hqs
  obtain ⟨C', cc', rfl, hC'⟩ := hn4.sl
  have H3 := Lib.hid (And.intro (H2.out.1.below hb3) (And.intro (H2.out.2.1.below hb3) (And.intro (H2.out.2.2.1.below hb3) (And.intro hC' (H2.out.2.2.2.trans (hb3.mono H2.out.2.2.2.size))))))
  clear hn4 hC' hb3 H2
  go_wp2_with (fail)
  refine (Add_ok _ _ _ _ _ ps qs 0 _ (by omega) H3.out.1 H3.out.2.1 (by omega)).mono ?_
  rintro e w4 ⟨v5, z1, d1, rfl, hd1, hv1, hn5, hb4⟩
  obtain ⟨P1, e1, rfl, hF1⟩ := Free.of_nw hn5
  have H4 := Lib.hid (And.intro (H3.out.1.below hb4) (And.intro (H3.out.2.1.below hb4) (And.intro hF1 hb4)))
  clear hd1 hv1 hn5 hb4 hF1
  go_wp2_with (fail)
  refine (AddMul_ok _ _ _ _ _ ps qs x _ (by omega) H4.out.1 H4.out.2.1 HxB.out).mono ?_
  rintro e w5 ⟨v6, z2, d2, rfl, hd2, hv2, hn6, hb5⟩
  obtain ⟨P2, e2, rfl, hF2⟩ := Free.of_nw hn6
  have H5 := Lib.hid (And.intro (H4.out.1.below hb5) (And.intro (H4.out.2.1.below hb5) (And.intro hF2 hb5)))
  clear hd2 hv2 hn6 hb5 hF2
  go_wp2_with (fail)
  refine (Left_ok _ _ _ ps 0 _ (by omega) H5.out.1 (by omega)).mono ?_
  rintro e w6 ⟨v7, z3, d3, rfl, hd3, hv3, hn7, hb6⟩
  obtain ⟨P3, e3, rfl, hF3⟩ := Free.of_nw hn7
  have H6 := Lib.hid (And.intro (H5.out.1.below hb6) (And.intro (H5.out.2.1.below hb6) (And.intro hF3 hb6)))
  clear hd3 hv3 hn7 hb6 hF3
  go_wp2_with (fail)
  refine (Right_ok _ _ _ ps 0 _ (by omega) H6.out.1 (by omega)).mono ?_
  rintro e w7 ⟨v8, z4, d4, rfl, hd4, hv4, hn8, hb7⟩
  generalize ((d4 * 2 ^ (64 - 0) : Nat) : Int) = D4
  obtain ⟨P4, e4, rfl, hF4⟩ := Free.of_nw hn8
  have H7 := Lib.hid (And.intro (H6.out.1.below hb7) (And.intro (H6.out.2.1.below hb7) (And.intro hF4 hb7)))
  clear hd4 hv4 hn8 hb7 hF4
  go_wp2_with (fail)
  refine (MulWord_ok _ _ _ ps 1 0 _ (by omega) H7.out.1 (by decide) (by decide)).mono ?_
  rintro e w8 ⟨v9, z5, d5, rfl, hd5, hv5, hn9, hb8⟩
  obtain ⟨P5, e5, rfl, hF5⟩ := Free.of_nw hn9
  have HS : Hid (Start w w8 k A A' C C' P1 P2 P3 P4 P5 ps qs) := by
    have h3 := H3.out
    have b34 := H4.out.2.2.2
    have b45 := H5.out.2.2.2
    have b56 := H6.out.2.2.2
    have b67 := H7.out.2.2.2
    have s34 := b34.size
    have s45 := b45.size
    have s56 := b56.size
    have s67 := b67.size
    have s78 := hb8.size
    have b38 : Below w3.heap.size w3 w8 := (((b34.trans (b45.mono s34)).trans (b56.mono (by omega))).trans (b67.mono (by omega))).trans (hb8.mono (by omega))
    have b48 : Below w4.heap.size w4 w8 := ((b45.trans (b56.mono (by omega))).trans (b67.mono (by omega))).trans (hb8.mono (by omega))
    have b58 : Below w5.heap.size w5 w8 := (b56.trans (b67.mono (by omega))).trans (hb8.mono (by omega))
    have b68 : Below w6.heap.size w6 w8 := b67.trans (hb8.mono (by omega))
    exact ⟨w3.heap.size, h3.2.2.2.2.size, b38.size, h3.2.2.2.2.trans (b38.mono h3.2.2.2.2.size), h3.1.1, h3.2.1.1, h3.1.2.2.2.1, h3.2.1.2.2.2.1,
      h3.1.2.2.2.2.below b38, h3.2.1.2.2.2.2.below b38, h3.2.2.1.2.2.2.2.below b38, h3.2.2.2.1.2.2.2.2.below b38,
      H4.out.2.2.1.below b48 (Nat.le_refl _) (by omega) (Nat.le_refl _), H5.out.2.2.1.below b58 (by omega) (by omega) (Nat.le_refl _), H6.out.2.2.1.below b68 (by omega) (by omega) (Nat.le_refl _), H7.out.2.2.1.below hb8 (by omega) (by omega) (Nat.le_refl _), hF5.below (Below.refl _ _) (by omega) (Nat.le_refl _) (Nat.le_refl _)⟩
  have HC := Lib.hid (And.intro (And.intro H3.out.1.2.1 H3.out.1.2.2.1) (And.intro (And.intro H3.out.2.1.2.1 H3.out.2.1.2.2.1) (And.intro (And.intro H3.out.2.2.1.2.1 H3.out.2.2.1.2.2.1) (And.intro H3.out.2.2.2.1.2.1 H3.out.2.2.2.1.2.2.1))))
  clear hd5 hv5 hn9 hb8 hF5 H3 H4 H5 H6 H7
  go_wp2_with (fail)
  have HL := Lib.hid (And.intro (show ps.length = k from HS.out.choose_spec.2.2.2.1) (And.intro (show qs.length = k from HS.out.choose_spec.2.2.2.2.1) (And.intro (show Ws ps from HS.out.choose_spec.2.2.2.2.2.1) (show Ws qs from HS.out.choose_spec.2.2.2.2.2.2.1))))
  obtain ⟨B, Af, cf, hI⟩ := HS.out.own e1 e2 e3 e4 e5
  have HI := Lib.hid hI
  clear hI HS
  generalize w8.alloc (.cells #[.slice P1 k e1, .slice P2 k e2, .slice P3 k e3, .slice P4 k e4, .slice P5 k e5] 22) = w9 at *
  generalize w8.heap.size = G at *
  go_loopw [27] (fun i wr => ∃ m : Nat, m ≤ 5 ∧ i = .int .i64 m ∧ Hid (OwnI w B G k Af cf A A' C C' ps qs wr)) (fun i _ => 5 - (intOf i).toNat)
  case atStart => exact ⟨0, by omega, rfl, HI⟩
  case round =>
    clear HI
    obtain ⟨m, hm, rfl, hI⟩ := hrel
    by_cases hlt : m < 5
    · go_wp2
      obtain ⟨wo, hwo⟩ : ∃ wo : World, wo = wr := ⟨_, rfl⟩
      go_loopw [28] (fun j wi => ∃ t : Nat, t ≤ k ∧ j = .int .i64 t ∧ Hid (OwnI w B G k Af cf A A' C C' ps qs wi)) (fun j _ => k - (intOf j).toNat)
      case atStart => exact ⟨0, by omega, rfl, hI⟩
      case round =>
        clear hI hwo
        obtain ⟨t, ht, rfl, hI⟩ := hrel
        have c1 := hI.out.2.2.2.2.2.2.2.2.1 m hlt
        by_cases hlt2 : t < k
        · obtain ⟨g, u, hg, _, _, c2, f2⟩ := hI.out.2.2.2.2.2.2.2.2.2 m hlt t hlt2
          have hK := Lib.hid (hI.out.set hlt hlt2 hg (.int .u64 7))
          rw [hg] at c1
          clear hg hI
          go_wp2
          go_roundw
          case rel => exact ⟨t + 1, by omega, by go_num, hK⟩
          case measure => simp [intOf]; omega
        · go_wp2
          go_roundw
          case rel => exact ⟨m + 1, by omega, by go_num, hI⟩
          case measure => simp [intOf]; omega
    · have HS1 : Hid (Sl wr A k c ps ∧ Sl wr C k cc ps ∧ Sl wr A' k c' qs ∧ Sl wr C' k cc' qs ∧ Below w.heap.size w wr) := by
        obtain ⟨h1, h2, h3, h4, h5, h6, h7, h8, _, _⟩ := hI.out
        obtain ⟨l1, l2, l3, l4⟩ := HL.out
        obtain ⟨⟨q1, q2⟩, ⟨q3, q4⟩, ⟨q5, q6⟩, q7, q8⟩ := HC.out
        exact ⟨⟨l1, q1, q2, l3, h5.more (by omega)⟩, ⟨l1, q5, q6, l3, h7.more (by omega)⟩, ⟨l2, q3, q4, l4, h6.more (by omega)⟩, ⟨l2, q7, q8, l4, h8.more (by omega)⟩, h4⟩
      clear hI
      go_wp2_with (fail)
      refine (same_any _ _ _ _ _ _ ps ps wr HS1.out.1 HS1.out.2.1 (by omega)).mono ?_
      rintro e w10 ⟨rfl, m1, rfl⟩
      rw [decide_eq_true (rfl : ps = ps)]
      go_wp2_with (fail)
      refine (same_any _ _ _ _ _ _ qs qs (wr.drewN m1) HS1.out.2.2.1 HS1.out.2.2.2.1 (by omega)).mono ?_
      rintro e w11 ⟨rfl, m2, rfl⟩
      rw [decide_eq_true (rfl : qs = qs)]
      go_wp2_with (fail)
      refine (awake_any _).mono ?_
      rintro e w12 ⟨rfl, hb⟩
      go_wp2_with (fail)
      go_ret
      exact ⟨rfl, (below_drewN HS1.out.2.2.2.2 (m1 + m2)).trans (hb.mono HS1.out.2.2.2.2.size)⟩
end Go.Proofs.Ytnhoodpglbjhhaa.wordsOwn
