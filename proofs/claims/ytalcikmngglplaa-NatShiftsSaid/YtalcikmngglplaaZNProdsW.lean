/- The walk of the law NatProducts. -/
import Derived.Test.YtalcikmngglplaaP3
import Derived.Test.YtalcikmngglplaaP1
import Derived.Test.YtalcikmngglplaaZLawR
namespace Go.Proofs.Ytalcikmngglplaa.natProducts
open Go.ChangeShapes Go.RowKit
set_option linter.unusedVariables false
set_option linter.unusedSimpArgs false

set_option maxRecDepth 100000 in
set_option maxHeartbeats 4000000 in
theorem walk (w : World) (a0 : Option Addr) (n0 c0 : Nat) (xs : List Nat) (hx : Sl w a0 n0 c0 xs) (a1 : Option Addr) (n1 c1 : Nat) (ys : List Nat) (hy : Sl w a1 n1 c1 ys) :
    Calls Try.prog 4 #[.slice a0 n0 c0, .slice a1 n1 c1] w fun e w' => e = .returned (.bool true) ∧ Below w.heap.size w w' := by
  have Hx := Lib.hid (And.intro hx hy)
  clear hx hy
  go_enter Try.func4, Try.ntmps4
  go_wp2_with (fail)
  refine (few_row _ _ _ 40 xs _ Hx.out.1 (by omega)).mono ?_
  rintro e w1 ⟨A1, k1, d1, us, rfl, hk1, hs1, _, _, hb1⟩
  have H1 := Lib.hid (And.intro hs1 hb1)
  clear hs1 hb1
  go_wp2_with (fail)
  refine (few_row _ _ _ 40 ys _ (Hx.out.2.below H1.out.2) (by omega)).mono ?_
  rintro e w2 ⟨A2, k2, d2, vs, rfl, hk2, hs2, _, _, hb2⟩
  have H2 := Lib.hid (And.intro (H1.out.1.below hb2) (And.intro hs2 (H1.out.2.trans (hb2.mono H1.out.2.size))))
  clear hs2 hb2 H1
  go_wp2_with (fail)
  refine (NMul_ok _ _ _ _ _ _ us vs _ (by omega) (by omega) H2.out.1 H2.out.2.1).mono ?_
  rintro e w3 hR3
  obtain ⟨A3, n3, c3, zs3, rfl, h3⟩ := hR3.open (mul_lt H2.out.1 H2.out.2.1 (by omega))
  have H3 := Lib.hid (And.intro (H2.out.1.below h3.bel) (And.intro (H2.out.2.1.below h3.bel) (h3.from H2.out.2.2)))
  clear hR3 h3 H2
  go_wp2_with (fail)
  refine (NSquare_ok _ _ _ us _ (by omega) H3.out.1).mono ?_
  rintro e w4 hR4
  obtain ⟨A4, n4, c4, zs4, rfl, h4⟩ := hR4.open (mul_lt H3.out.1 H3.out.1 (by omega))
  have H4 := Lib.hid (And.intro (H3.out.1.below h4.bel) (And.intro (H3.out.2.1.below h4.bel) (And.intro (H3.out.2.2.keep h4.bel) (h4.from H3.out.2.2.bel))))
  clear hR4 h4 H3
  go_wp2_with (fail)
  refine (RNMul_ok _ _ _ _ _ _ us vs _ (by omega) (by omega) H4.out.1 H4.out.2.1).mono ?_
  rintro e w5 hR5
  obtain ⟨A5, n5, c5, zs5, rfl, h5⟩ := hR5.open (mul_lt H4.out.1 H4.out.2.1 (by omega))
  have H5 := Lib.hid (And.intro (H4.out.1.below h5.bel) (And.intro (H4.out.2.2.1.keep h5.bel) (And.intro (H4.out.2.2.2.keep h5.bel) h5)))
  clear hR5 h5 H4
  go_wp2_with (fail)
  refine (Is_two H5.out.2.1 H5.out.2.2.2).mono ?_
  rintro e w6 ⟨rfl, b6⟩
  have H6 := Lib.hid (And.intro (H5.out.1.below b6) (H5.out.2.2.1.keep b6))
  clear b6 H5
  go_wp2_with (fail)
  refine (RNMul_ok _ _ _ _ _ _ us us _ (by omega) (by omega) H6.out.1 H6.out.1).mono ?_
  rintro e w7 hR7
  obtain ⟨A7, n7, c7, zs7, rfl, h7⟩ := hR7.open (mul_lt H6.out.1 H6.out.1 (by omega))
  have H7 := Lib.hid (And.intro (H6.out.2.keep h7.bel) h7)
  clear hR7 h7 H6
  go_wp2_with (fail)
  refine (Is_two H7.out.1 H7.out.2).mono ?_
  rintro e w8 ⟨rfl, b8⟩
  have H8 := Lib.hid (H7.out.1.bel.trans (b8.mono H7.out.1.bel.size))
  clear b8 H7
  go_wp2_with (fail)
  refine (nawake_any _).mono ?_
  rintro e w9 ⟨rfl, b9⟩
  have H9 := Lib.hid (H8.out.trans (b9.mono H8.out.size))
  clear b9 H8
  go_wp2_with (fail)
  go_ret
  exact ⟨rfl, H9.out⟩
end Go.Proofs.Ytalcikmngglplaa.natProducts
