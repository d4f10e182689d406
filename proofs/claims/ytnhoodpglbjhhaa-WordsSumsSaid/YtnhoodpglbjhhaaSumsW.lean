/- The walk of the law WordsSums. -/
import Derived.Test.YtnhoodpglbjhhaaRSub
import Derived.Test.YtnhoodpglbjhhaaAwake
import Derived.Test.YtnhoodpglbjhhaaBacksM
import Derived.OpenShut
namespace Go.Proofs.Ytnhoodpglbjhhaa.wordsSums
open Go.ChangeShapes Go.RowKit
set_option linter.unusedVariables false

/-- both ways give the same row and the same carry -/
theorem two_sums {us bs : List Nat} {n c d t : Nat} (wa : Ws us) (wb : Ws bs) (la : us.length = n) (lb : bs.length = n) (h1 : V us + c * B64 ^ n = t) (h2 : V bs + d * B64 ^ n = t) : bs = us ∧ d = c := by
  have l1 := V_lt us wa
  have l2 := V_lt bs wb
  rw [la] at l1
  rw [lb] at l2
  obtain ⟨e1, e2⟩ := uniq (d := d) (e := c) l2 l1 (by omega)
  exact ⟨V_inj bs us wb wa (by omega) e1, e2⟩
theorem two_diffs {us bs : List Nat} {n c d t x : Nat} (wa : Ws us) (wb : Ws bs) (la : us.length = n) (lb : bs.length = n) (h1 : x + c * B64 ^ n = V us + t) (h2 : x + d * B64 ^ n = V bs + t) : bs = us ∧ d = c := by
  have l1 := V_lt us wa
  have l2 := V_lt bs wb
  rw [la] at l1
  rw [lb] at l2
  obtain ⟨e1, e2⟩ := uniq (d := c) (e := d) l2 l1 (by omega)
  exact ⟨V_inj bs us wb wa (by omega) e1, e2.symm⟩

set_option maxRecDepth 100000 in
set_option maxHeartbeats 2000000 in
theorem walk (w : World) (a0 : Option Addr) (n0 c0 : Nat) (xs : List Nat) (hx : Sl w a0 n0 c0 xs) (a1 : Option Addr) (n1 c1 : Nat) (ys : List Nat) (hy : Sl w a1 n1 c1 ys) (a2 : Int) (w2 : (Lit.int .u64 a2).wf = true) :
    Calls Try.prog 3 #[.slice a0 n0 c0, .slice a1 n1 c1, .int .u64 a2] w fun e w' => e = .returned (.bool true) ∧ Below w.heap.size w w' := by
  have hb2 := bounds_u64 w2
  obtain ⟨x, rfl⟩ := Int.eq_ofNat_of_zero_le (show 0 ≤ a2 by omega)
  have Hx := Lib.hid (And.intro hx hy)
  clear w2 hb2 hx hy
  go_enter Try.func3, Try.ntmps3
  go_wp2_with (fail)
  refine (few_ok _ _ _ 40 xs _ Hx.out.1 (by omega)).mono ?_
  rintro e w1 ⟨v1, rfl, hn1, hb1⟩
  obtain ⟨k1, hk1, hk1'⟩ : ∃ k, min 40 n0 = k ∧ k ≤ 40 := ⟨_, rfl, by omega⟩
  rw [hk1] at hn1
  obtain ⟨A1, d1, rfl, hs1⟩ := hn1.sl
  have H1 := Lib.hid (And.intro hs1 hb1)
  clear hn1 hs1 hb1 hk1
  go_wp2_with (fail)
  refine (few_ok _ _ _ 40 ys _ (Hx.out.2.below H1.out.2) (by omega)).mono ?_
  rintro e w2 ⟨v2, rfl, hn2, hb2⟩
  obtain ⟨k2, hk2, hk2'⟩ : ∃ k, min 40 n1 = k ∧ k ≤ 40 := ⟨_, rfl, by omega⟩
  rw [hk2] at hn2
  obtain ⟨A2, d2, rfl, hs2⟩ := hn2.sl
  have H2 : Hid (Sl w2 A1 k1 d1 (xs.take 40) ∧ Sl w2 A2 k2 d2 (ys.take 40) ∧ Below w.heap.size w w2) := ⟨H1.out.1.below hb2, hs2, H1.out.2.trans (hb2.mono H1.out.2.size)⟩
  clear hn2 hs2 hb2 hk2 H1
  go_wp2_with (fail)
  go_loopw [2, 7, 8, 9] (fun cv av bv iv wr => ∃ (m cy k1 k2 d1 d2 : Nat) (A1 A2 : Option Addr) (ps qs : List Nat), m ≤ 3 ∧ iv = .int .i64 m ∧ cv = .int .u64 cy ∧ av = .slice A1 k1 d1 ∧ bv = .slice A2 k2 d2 ∧ k1 ≤ 40 ∧ k2 ≤ 40 ∧ Hid (Sl wr A1 k1 d1 ps ∧ Sl wr A2 k2 d2 qs ∧ Below w.heap.size w wr)) (fun _ _ _ iv _ => 3 - (intOf iv).toNat)
  case atStart => exact ⟨0, x, k1, k2, d1, d2, A1, A2, _, _, by omega, rfl, rfl, rfl, rfl, hk1', hk2', H2⟩
  case round =>
    clear H2
    obtain ⟨m, cy, l1, l2, f1, f2, B1, B2, ps, qs, hm, rfl, rfl, rfl, rfl, hl1, hl2, hH⟩ := hrel
    by_cases hlt : m < 3
    · obtain ⟨cz, hcz, hcz1⟩ : ∃ cz : Nat, (cy : Int) % 2 = (cz : Int) ∧ cz ≤ 1 := ⟨cy % 2, by omega, by omega⟩
      have hcase : l1 ≠ l2 ∨ (l1 = l2 ∧ 1 < cy) ∨ (l1 = l2 ∧ cy ≤ 1) := by omega
      rcases hcase with hne | ⟨rfl, hcy⟩ | ⟨rfl, hcy⟩
      · have hd : ((l1 : Int) != (l2 : Int)) = true := by rw [bne_iff_ne]; omega
        have Hne := Lib.hid hne
        clear hne
        go_wp2_with (fail)
        refine (Add_err _ _ _ _ _ _ _ 1 _ (chk_two_ne l1 l2 (by omega) (by omega) Hne.out) (by decide) (by omega) (by omega)).mono ?_
        rintro e w3 ⟨rfl, b3⟩
        have H3 := Lib.hid (And.intro (hH.out.1.below b3) (And.intro (hH.out.2.1.below b3) (hH.out.2.2.trans (b3.mono hH.out.2.2.size))))
        clear hH b3
        go_wp2_with (fail)
        refine (Sub_err _ _ _ _ _ _ _ 1 _ (chk_two_ne l1 l2 (by omega) (by omega) Hne.out) (by decide) (by omega) (by omega)).mono ?_
        rintro e w4 ⟨rfl, b4⟩
        have HT : Hid (Sl w4 B1 l1 f1 ps ∧ Sl w4 B2 l2 f2 qs ∧ Below w.heap.size w w4) := ⟨H3.out.1.below b4, H3.out.2.1.below b4, H3.out.2.2.trans (b4.mono H3.out.2.2.size)⟩
        clear H3 b4
        by_cases hm0 : m = 0
        · subst hm0
          go_wp2_with (fail)
          refine (equal_ok _ _ _ _ _ _ xs ys _ (Hx.out.1.below HT.out.2.2) (Hx.out.2.below HT.out.2.2)).mono ?_
          rintro e w8 ⟨v8, v9, k, ps', qs', rfl, hk, hn8, hn9, b8⟩
          obtain ⟨A8, g8, rfl, hs8⟩ := hn8.sl
          obtain ⟨A9, g9, rfl, hs9⟩ := hn9.sl
          have H8 : Hid (Sl w8 A8 k g8 ps' ∧ Sl w8 A9 k g9 qs' ∧ Below w.heap.size w w8) := ⟨hs8, hs9, HT.out.2.2.trans (b8.mono HT.out.2.2.size)⟩
          clear HT hn8 hn9 hs8 hs9 b8
          go_wp2_with (fail)
          go_roundw
          case rel => exact ⟨1, cz, k, k, g8, g9, A8, A9, ps', qs', by omega, by go_num, by rw [hcz], rfl, rfl, hk, hk, H8⟩
          case measure => simp [intOf]
        · go_wp2_with (fail)
          go_roundw
          case rel => exact ⟨m + 1, cz, l1, l2, f1, f2, B1, B2, ps, qs, by omega, by go_num, by rw [hcz], rfl, rfl, hl1, by omega, HT⟩
          case measure => simp [intOf]; omega
      · have hcy' : (1 : Int) < cy := by omega
        go_wp2_with (fail)
        refine (Add_carry _ _ l1 _ _ cy _ (by omega) hcy).mono ?_
        rintro e w3 ⟨rfl, b3⟩
        have H3 := Lib.hid (And.intro (hH.out.1.below b3) (And.intro (hH.out.2.1.below b3) (hH.out.2.2.trans (b3.mono hH.out.2.2.size))))
        clear hH b3
        go_wp2_with (fail)
        refine (Sub_carry _ _ l1 _ _ cy _ (by omega) hcy).mono ?_
        rintro e w4 ⟨rfl, b4⟩
        have HT : Hid (Sl w4 B1 l1 f1 ps ∧ Sl w4 B2 l1 f2 qs ∧ Below w.heap.size w w4) := ⟨H3.out.1.below b4, H3.out.2.1.below b4, H3.out.2.2.trans (b4.mono H3.out.2.2.size)⟩
        clear H3 b4
        by_cases hm0 : m = 0
        · subst hm0
          go_wp2_with (fail)
          refine (equal_ok _ _ _ _ _ _ xs ys _ (Hx.out.1.below HT.out.2.2) (Hx.out.2.below HT.out.2.2)).mono ?_
          rintro e w8 ⟨v8, v9, k, ps', qs', rfl, hk, hn8, hn9, b8⟩
          obtain ⟨A8, g8, rfl, hs8⟩ := hn8.sl
          obtain ⟨A9, g9, rfl, hs9⟩ := hn9.sl
          have H8 : Hid (Sl w8 A8 k g8 ps' ∧ Sl w8 A9 k g9 qs' ∧ Below w.heap.size w w8) := ⟨hs8, hs9, HT.out.2.2.trans (b8.mono HT.out.2.2.size)⟩
          clear HT hn8 hn9 hs8 hs9 b8
          go_wp2_with (fail)
          go_roundw
          case rel => exact ⟨1, cz, k, k, g8, g9, A8, A9, ps', qs', by omega, by go_num, by rw [hcz], rfl, rfl, hk, hk, H8⟩
          case measure => simp [intOf]
        · go_wp2_with (fail)
          go_roundw
          case rel => exact ⟨m + 1, cz, l1, l1, f1, f2, B1, B2, ps, qs, by omega, by go_num, by rw [hcz], rfl, rfl, hl1, by omega, HT⟩
          case measure => simp [intOf]; omega
      · have hcy' : ¬ (1 : Int) < cy := by omega
        go_wp2_with (fail)
        refine (Add_ok _ _ _ _ _ ps qs cy _ (by omega) hH.out.1 hH.out.2.1 hcy).mono ?_
        rintro e w3 ⟨v3, z3, c3, rfl, hc3, hv3, hn3, b3⟩
        obtain ⟨P3, g3, rfl, hs3⟩ := hn3.sl
        have H3 := Lib.hid (And.intro (hH.out.1.below b3) (And.intro (hH.out.2.1.below b3) (And.intro (hH.out.2.2.trans (b3.mono hH.out.2.2.size)) (And.intro hs3 hv3))))
        clear hH b3 hs3 hv3 hn3 hc3
        go_wp2_with (fail)
        refine (Sub_ok _ _ _ _ _ ps qs cy _ (by omega) H3.out.1 H3.out.2.1 hcy).mono ?_
        rintro e w4 ⟨v4, z4, c4, rfl, hc4, hv4, hn4, b4⟩
        obtain ⟨P4, g4, rfl, hs4⟩ := hn4.sl
        have H4 := Lib.hid (And.intro (H3.out.1.below b4) (And.intro (H3.out.2.1.below b4) (And.intro (H3.out.2.2.1.trans (b4.mono H3.out.2.2.1.size)) (And.intro (H3.out.2.2.2.1.below b4) (And.intro H3.out.2.2.2.2 (And.intro hs4 hv4))))))
        clear H3 b4 hs4 hv4 hn4 hc4
        go_wp2_with (fail)
        refine (RAdd_ok _ _ _ _ _ ps qs cy _ (by omega) H4.out.1 H4.out.2.1 (by unfold H32; omega)).mono ?_
        rintro e w5 ⟨v5, z5, c5, rfl, hn5, hv5, b5⟩
        obtain ⟨P5, g5, rfl, hs5⟩ := hn5.sl
        obtain ⟨rfl, rfl⟩ := two_sums H4.out.2.2.2.1.2.2.2.1 hs5.2.2.2.1 H4.out.2.2.2.1.1 hs5.1 H4.out.2.2.2.2.1 hv5
        have H5 := Lib.hid (And.intro (H4.out.1.below b5) (And.intro (H4.out.2.1.below b5) (And.intro (H4.out.2.2.1.trans (b5.mono H4.out.2.2.1.size)) (And.intro (H4.out.2.2.2.1.below b5) (And.intro (H4.out.2.2.2.2.2.1.below b5) (And.intro H4.out.2.2.2.2.2.2 hs5))))))
        clear H4 b5 hs5 hv5 hn5
        go_wp2_with (fail)
        refine (RSub_ok _ _ _ _ _ ps qs cy _ (by omega) H5.out.1 H5.out.2.1 hcy).mono ?_
        rintro e w6 ⟨v6, z6, c6, rfl, hn6, hv6, b6⟩
        obtain ⟨P6, g6, rfl, hs6⟩ := hn6.sl
        obtain ⟨rfl, rfl⟩ := two_diffs (x := V ps) (c := c4) (d := c6) (t := V qs + cy) H5.out.2.2.2.2.1.2.2.2.1 hs6.2.2.2.1 H5.out.2.2.2.2.1.1 hs6.1 (by have := H5.out.2.2.2.2.2.1; omega) (by omega)
        have H6 := Lib.hid (And.intro (H5.out.1.below b6) (And.intro (H5.out.2.1.below b6) (And.intro (H5.out.2.2.1.trans (b6.mono H5.out.2.2.1.size)) (And.intro (H5.out.2.2.2.1.below b6) (And.intro (H5.out.2.2.2.2.1.below b6) (And.intro (H5.out.2.2.2.2.2.2.below b6) hs6))))))
        clear H5 b6 hs6 hv6 hn6
        go_wp2_with (fail)
        refine (same_any _ _ _ _ _ _ _ _ _ H6.out.2.2.2.1 H6.out.2.2.2.2.2.1 (by omega)).mono ?_
        rintro e w7 ⟨rfl, m1, rfl⟩
        rw [decide_eq_true rfl]
        have H7 : Hid (Sl (w6.drewN m1) B1 l1 f1 ps ∧ Sl (w6.drewN m1) B2 l1 f2 qs ∧ Below w.heap.size w (w6.drewN m1) ∧ Sl (w6.drewN m1) P4 l1 g4 z6 ∧ Sl (w6.drewN m1) P6 l1 g6 z6) := ⟨H6.out.1, H6.out.2.1, below_drewN H6.out.2.2.1 m1, H6.out.2.2.2.2.1, H6.out.2.2.2.2.2.2⟩
        clear H6
        generalize w6.drewN m1 = w7 at *
        go_wp2_with (fail)
        refine (same_any _ _ _ _ _ _ _ _ _ H7.out.2.2.2.1 H7.out.2.2.2.2 (by omega)).mono ?_
        rintro e wx ⟨rfl, m2, rfl⟩
        rw [decide_eq_true rfl]
        have HT : Hid (Sl (w7.drewN m2) B1 l1 f1 ps ∧ Sl (w7.drewN m2) B2 l1 f2 qs ∧ Below w.heap.size w (w7.drewN m2)) := ⟨H7.out.1, H7.out.2.1, below_drewN H7.out.2.2.1 m2⟩
        clear H7
        generalize w7.drewN m2 = wx at *
        by_cases hm0 : m = 0
        · subst hm0
          go_wp2_with (fail)
          refine (equal_ok _ _ _ _ _ _ xs ys _ (Hx.out.1.below HT.out.2.2) (Hx.out.2.below HT.out.2.2)).mono ?_
          rintro e w8 ⟨v8, v9, k, ps', qs', rfl, hk, hn8, hn9, b8⟩
          obtain ⟨A8, g8, rfl, hs8⟩ := hn8.sl
          obtain ⟨A9, g9, rfl, hs9⟩ := hn9.sl
          have H8 : Hid (Sl w8 A8 k g8 ps' ∧ Sl w8 A9 k g9 qs' ∧ Below w.heap.size w w8) := ⟨hs8, hs9, HT.out.2.2.trans (b8.mono HT.out.2.2.size)⟩
          clear HT hn8 hn9 hs8 hs9 b8
          go_wp2_with (fail)
          go_roundw
          case rel => exact ⟨1, cz, k, k, g8, g9, A8, A9, ps', qs', by omega, by go_num, by rw [hcz], rfl, rfl, hk, hk, H8⟩
          case measure => simp [intOf]
        · go_wp2_with (fail)
          go_roundw
          case rel => exact ⟨m + 1, cz, l1, l1, f1, f2, B1, B2, ps, qs, by omega, by go_num, by rw [hcz], rfl, rfl, hl1, by omega, HT⟩
          case measure => simp [intOf]; omega
    · go_wp2_with (fail)
      refine (awake_any _).mono ?_
      rintro e w3 ⟨rfl, b3⟩
      go_wp2_with (fail)
      go_ret
      exact ⟨rfl, hH.out.2.2.trans (b3.mono hH.out.2.2.size)⟩
end Go.Proofs.Ytnhoodpglbjhhaa.wordsSums
