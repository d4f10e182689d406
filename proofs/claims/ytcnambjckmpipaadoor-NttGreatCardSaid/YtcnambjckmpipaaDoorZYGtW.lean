/- The walk of the law NttGreat. -/
import Derived.Test.YtcnambjckmpipaaDoorZYGtM
import Derived.OpenShut
namespace Go.Proofs.YtcnambjckmpipaaDoor.nttGreat
open Go.ChangeShapes Go.RowKit
set_option linter.unusedVariables false
set_option linter.unusedSimpArgs false

set_option maxRecDepth 100000 in
set_option maxHeartbeats 8000000 in
theorem walk (w : World) (a0 : Option Addr) (n0 c0 : Nat) (xs : List Nat) (hx : Sl w a0 n0 c0 xs) (p q : Int) (wp : (Lit.int .i64 p).wf = true) (wq : (Lit.int .i64 q).wf = true) (hT : TabY w) :
    Calls Tryd.prog 10 #[.slice a0 n0 c0, .agg #[.int .i64 p, .int .i64 q]] w fun e w' => e = .returned (.bool true) ∧ Below w.heap.size w w' := by
  have Hx := Lib.hid (And.intro hx hT)
  have hpw := IntKind.wrap_u64 p
  have hqw := IntKind.wrap_u64 q
  obtain ⟨s, hs1, hs2, hs⟩ : ∃ s : Nat, (IntKind.u64.wrap p).tmod 120000 = (s : Int) ∧ IntKind.u64.wrap p % 120000 = (s : Int) ∧ s ≤ 119999 := ⟨(IntKind.u64.wrap p % 120000).toNat, by rw [Int.tmod_eq_emod_of_nonneg (by rw [hpw]; omega)]; omega, by omega, by omega⟩
  obtain ⟨t, ht1, ht2, ht⟩ : ∃ t : Nat, (IntKind.u64.wrap q).tmod 120000 = (t : Int) ∧ IntKind.u64.wrap q % 120000 = (t : Int) ∧ t ≤ 119999 := ⟨(IntKind.u64.wrap q % 120000).toNat, by rw [Int.tmod_eq_emod_of_nonneg (by rw [hqw]; omega)]; omega, by omega, by omega⟩
  have hsu : IntKind.u64.wrap (s : Int) = (s : Int) := wrap_nat s (by have : B64 = 18446744073709551616 := rfl; omega)
  have htu : IntKind.u64.wrap (t : Int) = (t : Int) := wrap_nat t (by have : B64 = 18446744073709551616 := rfl; omega)
  have hsi : IntKind.i64.wrap (s : Int) = (s : Int) := IntWalk.i64_in _ (by omega)
  have hti : IntKind.i64.wrap (t : Int) = (t : Int) := IntWalk.i64_in _ (by omega)
  obtain ⟨st, hst⟩ : ∃ st, s + t = st := ⟨_, rfl⟩
  obtain ⟨s2, hs22⟩ : ∃ s2, 2 * s = s2 := ⟨_, rfl⟩
  obtain ⟨s1, hs11⟩ : ∃ s1, s + 1 = s1 := ⟨_, rfl⟩
  have e1 : IntKind.i64.wrap ((s : Int) + (t : Int)) = (st : Int) := by rw [show ((s : Int) + (t : Int)) = (st : Int) by omega]; exact IntWalk.i64_in _ (by omega)
  have e2 : IntKind.i64.wrap (2 * (s : Int)) = (s2 : Int) := by rw [show (2 * (s : Int)) = (s2 : Int) by omega]; exact IntWalk.i64_in _ (by omega)
  have e3 : IntKind.i64.wrap ((s : Int) + 1) = (s1 : Int) := by rw [show ((s : Int) + 1) = (s1 : Int) by omega]; exact IntWalk.i64_in _ (by omega)
  have hGG : ∀ U, U < B64 ^ 4 → _ := fun U hU => great_all (U := U) (s := s) (t := t) hU hs ht
  have hMM : ∀ U, _ ∧ _ := fun U => ⟨great_mul U s t, great_sq U s⟩
  rw [hst, hs22, hs11] at hGG hMM
  have hst5 : st ≤ 240000 := by omega
  have hs25 : s2 ≤ 240000 := by omega
  have hs15 : s1 ≤ 240000 := by omega
  have HGG := Lib.hid (And.intro hGG hMM)
  clear hx hT hpw hqw hst hs22 hs11 hGG hMM wp wq
  go_enter Tryd.func10, Tryd.ntmps10
  go_wp2_with (fail)
  refine (few4_row _ _ _ 4 xs _ (Hx.out.1.below ((Below.refl _ _).alloc (Nat.le_refl _) _)) (by omega)).mono ?_
  rintro e w1 ⟨A1, k1, d1, us, rfl, hk1, hs0, -, -, hb1⟩
  have hc0 := (hb1.cell (p := ⟨w.heap.size, 0, none⟩) (by simp)).trans (show _ = some (Value.int .i64 p) by simp)
  have hc1 := (hb1.cell (p := ⟨w.heap.size, 1, none⟩) (by simp)).trans (show _ = some (Value.int .i64 q) by simp)
  have hU := hs0.lt
  have HU := Lib.hid (show V us < B64 ^ 4 from Nat.lt_of_lt_of_le hU (Nat.pow_le_pow_right B64_pos hk1))
  have HG := Lib.hid (HGG.out.1 _ HU.out)
  have HM := Lib.hid (HGG.out.2 (V us))
  have hb0 := ((Below.refl w.heap.size w).alloc (Nat.le_refl _) _).trans (hb1.mono (by simp))
  have H1 : Hid (Sl w1.drew A1 k1 d1 us ∧ TabY w1.drew ∧ Below w.heap.size w w1.drew) := Lib.hid ⟨hs0, Hx.out.2.below hb0.drew, hb0.drew⟩
  clear hs0 hb1 hb0 hU HU HGG Hx
  go_wp2_with (fail)
  go_region
  go_wp2_with (fail)
  refine (gLeftA H1.out.1 hk1 (by omega) HG.out.1).mono ?_
  rintro e w21 ⟨A21, k21, d21, z21, rfl, h1⟩
  have b1 := h1.bel
  have H21 := Lib.hid (And.intro (h1) (And.intro (H1.out.1.below b1) (And.intro (H1.out.2.1.below b1) (H1.out.2.2.trans (b1.mono H1.out.2.2.size)))))
  clear H1 b1
  clear h1
  go_wp2_with (fail)
  refine (gAddA H21.out.1 H21.out.2.1 hk1 HG.out.2.1).mono ?_
  rintro e w22 ⟨A22, k22, d22, z22, rfl, h2⟩
  have b2 := h2.bel
  have H22 := Lib.hid (And.intro (h2) (And.intro (H21.out.2.1.below b2) (And.intro (H21.out.2.2.1.below b2) (H21.out.2.2.2.trans (b2.mono H21.out.2.2.2.size)))))
  clear H21 b2
  clear h2
  go_wp2_with (fail)
  refine (gLeftA H22.out.2.1 hk1 (by omega) HG.out.2.2.1).mono ?_
  rintro e w23 ⟨A23, k23, d23, z23, rfl, h3⟩
  have b3 := h3.bel
  have H23 := Lib.hid (And.intro (h3) (And.intro (H22.out.1.keep b3) (And.intro (H22.out.2.1.below b3) (And.intro (H22.out.2.2.1.below b3) (H22.out.2.2.2.trans (b3.mono H22.out.2.2.2.size))))))
  clear H22 b3
  clear h3
  go_wp2_with (fail)
  refine (gAddA H23.out.1 H23.out.2.2.1 hk1 HG.out.2.2.2.1).mono ?_
  rintro e w24 ⟨A24, k24, d24, z24, rfl, h4⟩
  have b4 := h4.bel
  have H24 := Lib.hid (And.intro (h4) (And.intro (H23.out.2.1.keep b4) (And.intro (H23.out.2.2.1.below b4) (And.intro (H23.out.2.2.2.1.below b4) (H23.out.2.2.2.2.trans (b4.mono H23.out.2.2.2.2.size))))))
  clear H23 b4
  clear h4
  go_wp2_with (fail)
  refine (gYMul H24.out.2.1 H24.out.1 H24.out.2.2.2.1 HM.out.1 HG.out.2.2.2.2.2.2.2.2.2.2.2.1).mono ?_
  rintro e w25 ⟨A25, k25, d25, z25, rfl, h5⟩
  have b5 := h5.bel
  have H25 := Lib.hid (And.intro (h5) (And.intro (H24.out.2.1.keep b5) (And.intro (H24.out.2.2.1.below b5) (And.intro (H24.out.2.2.2.1.below b5) (H24.out.2.2.2.2.trans (b5.mono H24.out.2.2.2.2.size))))))
  clear H24 b5
  clear h5
  go_wp2_with (fail)
  refine (gMulA H25.out.2.2.1 hk1 HG.out.2.2.2.2.2.1).mono ?_
  rintro e w26 ⟨A26, k26, d26, z26, rfl, h6⟩
  have b6 := h6.bel
  have H26 := Lib.hid (And.intro (h6) (And.intro (H25.out.1.keep b6) (And.intro (H25.out.2.1.keep b6) (And.intro (H25.out.2.2.1.below b6) (And.intro (H25.out.2.2.2.1.below b6) (H25.out.2.2.2.2.trans (b6.mono H25.out.2.2.2.2.size)))))))
  clear H25 b6
  clear h6
  go_wp2_with (fail)
  refine (gLeftQ H26.out.1 HG.out.2.2.2.2.1 (by omega) HG.out.2.2.2.2.2.2.1).mono ?_
  rintro e w27 ⟨A27, k27, d27, z27, rfl, h7⟩
  have b7 := h7.bel
  have H27 := Lib.hid (And.intro (h7) (And.intro (H26.out.1.keep b7) (And.intro (H26.out.2.1.keep b7) (And.intro (H26.out.2.2.1.keep b7) (And.intro (H26.out.2.2.2.1.below b7) (And.intro (H26.out.2.2.2.2.1.below b7) (H26.out.2.2.2.2.2.trans (b7.mono H26.out.2.2.2.2.2.size))))))))
  clear H26 b7
  clear h7
  go_wp2_with (fail)
  refine (gLeftQ H27.out.2.1 HG.out.2.2.2.2.1 (by omega) HG.out.2.2.2.2.2.2.2.1).mono ?_
  rintro e w28 ⟨A28, k28, d28, z28, rfl, h8⟩
  have b8 := h8.bel
  have H28 := Lib.hid (And.intro (h8) (And.intro (H27.out.1.keep b8) (And.intro (H27.out.2.1.keep b8) (And.intro (H27.out.2.2.1.keep b8) (And.intro (H27.out.2.2.2.1.keep b8) (And.intro (H27.out.2.2.2.2.1.below b8) (And.intro (H27.out.2.2.2.2.2.1.below b8) (H27.out.2.2.2.2.2.2.trans (b8.mono H27.out.2.2.2.2.2.2.size)))))))))
  clear H27 b8
  clear h8
  go_wp2_with (fail)
  refine (gAddN H28.out.2.1 H28.out.1 HG.out.2.2.2.2.2.2.2.2.1).mono ?_
  rintro e w29 ⟨A29, k29, d29, z29, rfl, h9⟩
  have b9 := h9.bel
  have H29 := Lib.hid (And.intro (h9) (And.intro (H28.out.2.2.1.keep b9) (And.intro (H28.out.2.2.2.1.keep b9) (And.intro (H28.out.2.2.2.2.1.keep b9) (And.intro (H28.out.2.2.2.2.2.1.below b9) (And.intro (H28.out.2.2.2.2.2.2.1.below b9) (H28.out.2.2.2.2.2.2.2.trans (b9.mono H28.out.2.2.2.2.2.2.2.size))))))))
  clear H28 b9
  clear h9
  go_wp2_with (fail)
  refine (gLeftQ H29.out.2.1 HG.out.2.2.2.2.1 (by omega) HG.out.2.2.2.2.2.2.2.2.2.1).mono ?_
  rintro e w30 ⟨A30, k30, d30, z30, rfl, h10⟩
  have b10 := h10.bel
  have H30 := Lib.hid (And.intro (h10) (And.intro (H29.out.1.keep b10) (And.intro (H29.out.2.1.keep b10) (And.intro (H29.out.2.2.1.keep b10) (And.intro (H29.out.2.2.2.1.keep b10) (And.intro (H29.out.2.2.2.2.1.below b10) (And.intro (H29.out.2.2.2.2.2.1.below b10) (H29.out.2.2.2.2.2.2.trans (b10.mono H29.out.2.2.2.2.2.2.size)))))))))
  clear H29 b10
  clear h10
  go_wp2_with (fail)
  refine (gAddN H30.out.1 H30.out.2.2.1 HG.out.2.2.2.2.2.2.2.2.2.2.1).mono ?_
  rintro e w31 ⟨A31, k31, d31, z31, rfl, h11⟩
  have b11 := h11.bel
  have H31 := Lib.hid (And.intro (h11) (And.intro (H30.out.2.1.keep b11) (And.intro (H30.out.2.2.1.keep b11) (And.intro (H30.out.2.2.2.1.keep b11) (And.intro (H30.out.2.2.2.2.1.keep b11) (And.intro (H30.out.2.2.2.2.2.1.below b11) (And.intro (H30.out.2.2.2.2.2.2.1.below b11) (H30.out.2.2.2.2.2.2.2.trans (b11.mono H30.out.2.2.2.2.2.2.2.size)))))))))
  clear H30 b11
  clear h11
  go_wp2_with (fail)
  refine (gAddN H31.out.2.1 H31.out.1 HG.out.2.2.2.2.2.2.2.2.2.2.2.1).mono ?_
  rintro e w32 ⟨A32, k32, d32, z32, rfl, h12⟩
  have b12 := h12.bel
  have H32 := Lib.hid (And.intro (h12) (And.intro (H31.out.2.2.1.keep b12) (And.intro (H31.out.2.2.2.1.keep b12) (And.intro (H31.out.2.2.2.2.1.keep b12) (And.intro (H31.out.2.2.2.2.2.1.below b12) (And.intro (H31.out.2.2.2.2.2.2.1.below b12) (H31.out.2.2.2.2.2.2.2.trans (b12.mono H31.out.2.2.2.2.2.2.2.size))))))))
  clear H31 b12
  clear h12
  go_wp2_with (fail)
  refine (gYSq H32.out.2.2.2.1 H32.out.2.2.2.2.2.1 HM.out.2 HG.out.2.2.2.2.2.2.2.2.2.2.2.2.2.2.2).mono ?_
  rintro e w33 ⟨A33, k33, d33, z33, rfl, h13⟩
  have b13 := h13.bel
  have H33 := Lib.hid (And.intro (h13) (And.intro (H32.out.1.keep b13) (And.intro (H32.out.2.1.keep b13) (And.intro (H32.out.2.2.1.keep b13) (And.intro (H32.out.2.2.2.2.1.below b13) (And.intro (H32.out.2.2.2.2.2.1.below b13) (H32.out.2.2.2.2.2.2.trans (b13.mono H32.out.2.2.2.2.2.2.size))))))))
  clear H32 b13
  clear h13
  go_wp2_with (fail)
  refine (gLeftQ H33.out.2.2.1 HG.out.2.2.2.2.1 (by omega) HG.out.2.2.2.2.2.2.2.2.2.2.2.2.1).mono ?_
  rintro e w34 ⟨A34, k34, d34, z34, rfl, h14⟩
  have b14 := h14.bel
  have H34 := Lib.hid (And.intro (h14) (And.intro (H33.out.1.keep b14) (And.intro (H33.out.2.1.keep b14) (And.intro (H33.out.2.2.1.keep b14) (And.intro (H33.out.2.2.2.1.keep b14) (And.intro (H33.out.2.2.2.2.1.below b14) (And.intro (H33.out.2.2.2.2.2.1.below b14) (H33.out.2.2.2.2.2.2.trans (b14.mono H33.out.2.2.2.2.2.2.size)))))))))
  clear H33 b14
  clear h14
  go_wp2_with (fail)
  refine (gLeftQ H34.out.2.2.2.1 HG.out.2.2.2.2.1 (by omega) HG.out.2.2.2.2.2.2.2.2.2.2.2.2.2.1).mono ?_
  rintro e w35 ⟨A35, k35, d35, z35, rfl, h15⟩
  have b15 := h15.bel
  have H35 := Lib.hid (And.intro (h15) (And.intro (H34.out.1.keep b15) (And.intro (H34.out.2.1.keep b15) (And.intro (H34.out.2.2.1.keep b15) (And.intro (H34.out.2.2.2.1.keep b15) (And.intro (H34.out.2.2.2.2.1.keep b15) (And.intro (H34.out.2.2.2.2.2.1.below b15) (And.intro (H34.out.2.2.2.2.2.2.1.below b15) (H34.out.2.2.2.2.2.2.2.trans (b15.mono H34.out.2.2.2.2.2.2.2.size))))))))))
  clear H34 b15
  clear h15
  go_wp2_with (fail)
  refine (gAddN H35.out.1 H35.out.2.2.2.2.1 HG.out.2.2.2.2.2.2.2.2.2.2.2.2.2.2.1).mono ?_
  rintro e w36 ⟨A36, k36, d36, z36, rfl, h16⟩
  have b16 := h16.bel
  have H36 := Lib.hid (And.intro (h16) (And.intro (H35.out.2.1.keep b16) (And.intro (H35.out.2.2.1.keep b16) (And.intro (H35.out.2.2.2.1.keep b16) (And.intro (H35.out.2.2.2.2.2.1.keep b16) (And.intro (H35.out.2.2.2.2.2.2.1.below b16) (And.intro (H35.out.2.2.2.2.2.2.2.1.below b16) (H35.out.2.2.2.2.2.2.2.2.trans (b16.mono H35.out.2.2.2.2.2.2.2.2.size)))))))))
  clear H35 b16
  clear h16
  go_wp2_with (fail)
  refine (gAddN H36.out.2.1 H36.out.1 HG.out.2.2.2.2.2.2.2.2.2.2.2.2.2.2.2).mono ?_
  rintro e w37 ⟨A37, k37, d37, z37, rfl, h17⟩
  have b17 := h17.bel
  have H37 := Lib.hid (And.intro (h17) (And.intro (H36.out.2.2.1.keep b17) (And.intro (H36.out.2.2.2.1.keep b17) (And.intro (H36.out.2.2.2.2.1.keep b17) (And.intro (H36.out.2.2.2.2.2.1.below b17) (And.intro (H36.out.2.2.2.2.2.2.1.below b17) (H36.out.2.2.2.2.2.2.2.trans (b17.mono H36.out.2.2.2.2.2.2.2.size))))))))
  clear H36 b17
  clear h17
  go_wp2_with (fail)
  refine (gIs H37.out.2.2.2.1 H37.out.2.2.1).mono ?_
  rintro e w38 ⟨rfl, b18⟩
  have H38 := Lib.hid (And.intro (H37.out.1.keep b18) (And.intro (H37.out.2.1.keep b18) (And.intro (H37.out.2.2.2.2.1.below b18) (And.intro (H37.out.2.2.2.2.2.1.below b18) (H37.out.2.2.2.2.2.2.trans (b18.mono H37.out.2.2.2.2.2.2.size))))))
  clear H37 b18
  go_wp2_with (fail)
  refine (gIs H38.out.2.1 H38.out.1).mono ?_
  rintro e w39 ⟨rfl, b19⟩
  have H39 := Lib.hid (And.intro (H38.out.2.2.1.below b19) (And.intro (H38.out.2.2.2.1.below b19) (H38.out.2.2.2.2.trans (b19.mono H38.out.2.2.2.2.size))))
  clear H38 b19
  go_wp2_with (fail)
  refine (yawake_any _ H39.out.2.1).mono ?_
  rintro e w40 ⟨rfl, b20⟩
  have H40 := Lib.hid (And.intro (H39.out.1.below b20) (And.intro (H39.out.2.1.below b20) (H39.out.2.2.trans (b20.mono H39.out.2.2.size))))
  clear H39 b20
  go_wp2_with (fail)
  go_ret
  exact ⟨rfl, H40.out.2.2⟩
end Go.Proofs.YtcnambjckmpipaaDoor.nttGreat
