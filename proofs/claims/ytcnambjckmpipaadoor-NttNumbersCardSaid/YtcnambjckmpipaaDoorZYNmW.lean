/- The walk of the law NttNumbers. -/
import Derived.Test.YtcnambjckmpipaaDoorZYLaw
import Derived.OpenShut
namespace Go.Proofs.YtcnambjckmpipaaDoor.nttNumbers
open Go.ChangeShapes Go.RowKit
set_option linter.unusedVariables false
set_option linter.unusedSimpArgs false

set_option maxRecDepth 100000 in
set_option maxHeartbeats 8000000 in
theorem walk (w : World) (a0 : Option Addr) (n0 c0 : Nat) (xs : List Nat) (hx : Sl w a0 n0 c0 xs) (a1 : Option Addr) (n1 c1 : Nat) (ys : List Nat) (hy : Sl w a1 n1 c1 ys) (hT : TabY w) :
    Calls Tryd.prog 9 #[.slice a0 n0 c0, .slice a1 n1 c1] w fun e w' => e = .returned (.bool true) ∧ Below w.heap.size w w' := by
  obtain ⟨i0, hi, hz0, hz1, hz2⟩ := info_parts Tryd.info22
  have Hx := Lib.hid (And.intro hx (And.intro hy hT))
  clear hx hy hT
  go_enter Tryd.func9, Tryd.ntmps9
  go_wp2_with (fail)
  refine (few4_row _ _ _ 40 xs _ Hx.out.1 (by omega)).mono ?_
  rintro e w3 ⟨A1, k1, d1, us, rfl, hk1, hs1, -, -, hb1⟩
  have H1 := Lib.hid (And.intro hs1 (And.intro (Hx.out.2.1.below hb1) (And.intro (Hx.out.2.2.below hb1) hb1)))
  clear hs1 hb1
  go_wp2_with (fail)
  refine (few4_row _ _ _ 40 ys _ H1.out.2.1 (by omega)).mono ?_
  rintro e w4 ⟨A2, k2, d2, vs, rfl, hk2, hs2, -, -, hb2⟩
  have H2 : Hid (RowY w w4 A1 A2 k1 k2 d1 d2 us vs) := ⟨H1.out.1.below hb2, hs2, H1.out.2.2.1.below hb2, H1.out.2.2.2.trans (hb2.mono H1.out.2.2.2.size)⟩
  clear hs2 hb2 H1
  have HL := Lib.hid (And.intro (mul_lt4 H2.out.1 H2.out.2.1 (by omega)) (mul_lt4 H2.out.1 H2.out.1 (by omega)))
  go_wp2_with (fail)
  refine (YMul_ok _ _ _ _ _ _ us vs _ (by omega) (by omega) H2.out.1 H2.out.2.1 H2.out.2.2.1).mono ?_
  rintro e w5 hR
  obtain ⟨A3, k3, d3, zs, rfl, h3⟩ := hR.open HL.out.1
  have H3 := Lib.hid (And.intro (H2.out.keep h3.bel) h3)
  clear hR h3 H2
  go_wp2_with (fail)
  refine (YSquare_ok _ _ _ us _ (by omega) H3.out.1.1 H3.out.1.2.2.1).mono ?_
  rintro e w6 hR
  obtain ⟨A4, k4, d4, zs4, rfl, h4⟩ := hR.open HL.out.2
  have H4 := Lib.hid (And.intro (H3.out.1.keep h4.bel) (And.intro (H3.out.2.keep h4.bel) h4))
  clear hR h4 H3
  go_wp2_with (at_make; refine wpList_make_full _ rfl _ _ 44 rfl w6.heap.size 22 i0 (.int .u64 0) 1 Tryd.underlying44 hi hz0 hz1 .i64 .i64 _ _ 4097 rfl rfl rfl rfl (by rw [hz2]; omega) (by unfold maxLen; omega) (Nat.le_refl _) ?_)
  intro w7 hown hgrow
  have hb7 := below_of_grown hgrow (Nat.le_refl _)
  have H7 := Lib.hid (And.intro (H4.out.1.keep hb7) (And.intro (H4.out.2.1.keep hb7) (H4.out.2.2.keep hb7)))
  clear hown hgrow hb7 H4
  go_wp2_with (fail)
  refine (YMul_err _ _ _ _ _ _ _ (.inr (by omega))).mono ?_
  rintro e w8 ⟨rfl, b8⟩
  have H8 := Lib.hid (And.intro (H7.out.1.keep b8) (And.intro (H7.out.2.1.keep b8) (H7.out.2.2.keep b8)))
  clear b8 H7
  go_wp2_with (fail)
  refine (YSquare_err _ _ _ _ (by omega)).mono ?_
  rintro e w9 ⟨rfl, b9⟩
  have H9 := Lib.hid (And.intro (H8.out.1.keep b9) (And.intro (H8.out.2.1.keep b9) (H8.out.2.2.keep b9)))
  clear b9 H8
  go_wp2_with (fail)
  refine (YDigits_big _ _ _ 7 _ (by omega)).mono ?_
  rintro e w10 ⟨rfl, b10⟩
  have H10 := Lib.hid (And.intro (H9.out.1.keep b10) (And.intro (H9.out.2.1.keep b10) (H9.out.2.2.keep b10)))
  clear b10 H9
  go_wp2_with (fail)
  refine (RNMul_ok _ _ _ _ _ _ us vs _ (by omega) (by omega) H10.out.1.1 H10.out.1.2.1).mono ?_
  rintro e w11 hR
  obtain ⟨A5, k5, d5, zs5, rfl, h5⟩ := hR.open HL.out.1
  have H11 := Lib.hid (And.intro (H10.out.1.keep h5.bel) (And.intro (H10.out.2.1.keep h5.bel) (And.intro (H10.out.2.2.keep h5.bel) h5)))
  clear hR h5 H10
  go_wp2_with (fail)
  refine (Is_nu4 H11.out.2.1 H11.out.2.2.2.1 H11.out.2.2.2.2.2.2.1 H11.out.2.2.2.2.2.1).mono ?_
  rintro e w12 ⟨rfl, b12⟩
  have H12 := Lib.hid (And.intro (H11.out.1.keep b12) (H11.out.2.2.1.keep b12))
  clear b12 H11
  go_wp2_with (fail)
  refine (RNMul_ok _ _ _ _ _ _ us us _ (by omega) (by omega) H12.out.1.1 H12.out.1.1).mono ?_
  rintro e w13 hR
  obtain ⟨A6, k6, d6, zs6, rfl, h6⟩ := hR.open HL.out.2
  have H13 := Lib.hid (And.intro (H12.out.1.keep h6.bel) (And.intro (H12.out.2.keep h6.bel) h6))
  clear hR h6 H12
  go_wp2_with (fail)
  refine (Is_nu4 H13.out.2.1 H13.out.2.2.1 H13.out.2.2.2.2.2.1 H13.out.2.2.2.2.1).mono ?_
  rintro e w14 ⟨rfl, b14⟩
  have H14 := Lib.hid (H13.out.1.keep b14)
  clear b14 H13
  go_wp2_with (fail)
  refine (yawake_any _ H14.out.2.2.1).mono ?_
  rintro e w15 ⟨rfl, b15⟩
  have H15 := Lib.hid (H14.out.keep b15)
  clear b15 H14
  go_wp2_with (fail)
  go_ret
  exact ⟨rfl, H15.out.2.2.2⟩
end Go.Proofs.YtcnambjckmpipaaDoor.nttNumbers
