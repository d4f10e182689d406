/- The walk of the law NatSums. -/
import Derived.Test.YtalcikmngglplaaP3
import Derived.Test.YtalcikmngglplaaP1
import Derived.Test.YtalcikmngglplaaZLawR
import Derived.Test.YtalcikmngglplaaZNProdsW
namespace Go.Proofs.Ytalcikmngglplaa
open Go.RowKit
end Go.Proofs.Ytalcikmngglplaa
namespace Go.Proofs.Ytalcikmngglplaa.natSums
open Go.ChangeShapes Go.RowKit
set_option linter.unusedVariables false
set_option linter.unusedSimpArgs false

set_option maxRecDepth 100000 in
set_option maxHeartbeats 4000000 in
theorem walk (w : World) (a0 : Option Addr) (n0 c0 : Nat) (xs : List Nat) (hx : Sl w a0 n0 c0 xs) (a1 : Option Addr) (n1 c1 : Nat) (ys : List Nat) (hy : Sl w a1 n1 c1 ys) :
    Calls Try.prog 3 #[.slice a0 n0 c0, .slice a1 n1 c1] w fun e w' => e = .returned (.bool true) ∧ Below w.heap.size w w' := by
  have Hx := Lib.hid (And.intro hx hy)
  clear hx hy
  go_enter Try.func3, Try.ntmps3
  go_wp2_with (fail)
  refine (few_row _ _ _ 40 xs _ Hx.out.1 (by omega)).mono ?_
  rintro e w1 ⟨A1, k1, d1, us, rfl, hk1, hs1, _, _, hb1⟩
  have H1 := Lib.hid (And.intro hs1 hb1)
  clear hs1 hb1
  go_wp2_with (fail)
  refine (few_row _ _ _ 40 ys _ (Hx.out.2.below H1.out.2) (by omega)).mono ?_
  rintro e w2 ⟨A2, k2, d2, vs, rfl, hk2, hs2, _, _, hb2⟩
  have H2 := Lib.hid (And.intro (H1.out.1.below hb2) (And.intro hs2 (H1.out.2.trans (hb2.mono H1.out.2.size))))
  clear hs2 hb2 H1
  go_wp2_with (fail)
  refine (NAdd_ok _ _ _ _ _ _ us vs _ (by omega) (by omega) H2.out.1 H2.out.2.1).mono ?_
  rintro e w3 hR3
  obtain ⟨A3, n3, c3, zs3, rfl, h3⟩ := hR3.open (add_lt H2.out.1 H2.out.2.1 (by omega) (by omega))
  have H3 := Lib.hid (And.intro (H2.out.1.below h3.bel) (And.intro (H2.out.2.1.below h3.bel) (h3.from H2.out.2.2)))
  clear hR3 h3 H2
  go_wp2_with (fail)
  refine (NSub_ok _ _ _ _ _ _ us vs _ (by omega) (by omega) H3.out.1 H3.out.2.1).mono ?_
  rintro e w4 ⟨hR4, b4⟩
  rcases hR4 with ⟨hle, v4, rfl, hN4⟩ | ⟨hlt, rfl⟩
  · obtain ⟨A4, n4, c4, zs4, rfl, h4⟩ := Nu.of hN4 b4 (Nat.lt_of_le_of_lt (Nat.sub_le _ _) (row_lt H3.out.1 (by omega)))
    have H4 := Lib.hid (And.intro (H3.out.1.below b4) (And.intro (H3.out.2.1.below b4) (And.intro (H3.out.2.2.keep b4) (And.intro (h4.from H3.out.2.2.bel) hle))))
    clear hN4 b4 h4 H3 hle
    go_wp2_with (fail)
    refine (RNAdd_ok _ _ _ _ _ _ us vs _ (by omega) (by omega) H4.out.1 H4.out.2.1).mono ?_
    rintro e w5 hR5
    obtain ⟨A5, n5, c5, zs5, rfl, h5⟩ := hR5.open (add_lt H4.out.1 H4.out.2.1 (by omega) (by omega))
    have H5 := Lib.hid (And.intro (H4.out.1.below h5.bel) (And.intro (H4.out.2.1.below h5.bel) (And.intro (H4.out.2.2.1.keep h5.bel) (And.intro (H4.out.2.2.2.1.keep h5.bel) (And.intro h5 H4.out.2.2.2.2)))))
    clear hR5 h5 H4
    go_wp2_with (fail)
    refine (Is_two H5.out.2.2.1 H5.out.2.2.2.2.1).mono ?_
    rintro e w6 ⟨rfl, b6⟩
    have H6 := Lib.hid (And.intro (H5.out.1.below b6) (And.intro (H5.out.2.1.below b6) (And.intro (H5.out.2.2.2.1.keep b6) H5.out.2.2.2.2.2)))
    clear b6 H5
    go_wp2_with (fail)
    refine (RCmp_ok _ _ _ _ _ _ us vs _ (by omega) (by omega) H6.out.1 H6.out.2.1).mono ?_
    rintro e w7 ⟨rfl, b7⟩
    have H7 := Lib.hid (And.intro (H6.out.1.below b7) (And.intro (H6.out.2.1.below b7) (And.intro (H6.out.2.2.1.keep b7) H6.out.2.2.2)))
    clear b7 H6
    obtain ⟨z, hz, hz0⟩ : ∃ z, cmpI (V us) (V vs) = z ∧ ¬ z < 0 := ⟨_, rfl, cmpI_ge H7.out.2.2.2⟩
    rw [hz]
    clear hz
    go_wp2_with (fail)
    refine (RNSub_ok _ _ _ _ _ _ us vs _ (by omega) (by omega) H7.out.1 H7.out.2.1 H7.out.2.2.2).mono ?_
    rintro e w8 hR8
    obtain ⟨A8, n8, c8, zs8, rfl, h8⟩ := hR8.open (Nat.lt_of_le_of_lt (Nat.sub_le _ _) (row_lt H7.out.1 (by omega)))
    have H8 := Lib.hid (And.intro (H7.out.2.2.1.keep h8.bel) h8)
    clear hR8 h8 H7
    go_wp2_with (fail)
    refine (Is_two H8.out.1 H8.out.2).mono ?_
    rintro e w9 ⟨rfl, b9⟩
    have H9 := Lib.hid (H8.out.1.bel.trans (b9.mono H8.out.1.bel.size))
    clear b9 H8
    go_wp2_with (fail)
    refine (nawake_any _).mono ?_
    rintro e w10 ⟨rfl, b10⟩
    have H10 := Lib.hid (H9.out.trans (b10.mono H9.out.size))
    clear b10 H9
    go_wp2_with (fail)
    go_ret
    exact ⟨rfl, H10.out⟩
  · have H4 := Lib.hid (And.intro (H3.out.1.below b4) (And.intro (H3.out.2.1.below b4) (And.intro (H3.out.2.2.keep b4) hlt)))
    clear b4 H3 hlt
    go_wp2_with (fail)
    refine (RNAdd_ok _ _ _ _ _ _ us vs _ (by omega) (by omega) H4.out.1 H4.out.2.1).mono ?_
    rintro e w5 hR5
    obtain ⟨A5, n5, c5, zs5, rfl, h5⟩ := hR5.open (add_lt H4.out.1 H4.out.2.1 (by omega) (by omega))
    have H5 := Lib.hid (And.intro (H4.out.1.below h5.bel) (And.intro (H4.out.2.1.below h5.bel) (And.intro (H4.out.2.2.1.keep h5.bel) (And.intro h5 H4.out.2.2.2))))
    clear hR5 h5 H4
    go_wp2_with (fail)
    refine (Is_two H5.out.2.2.1 H5.out.2.2.2.1).mono ?_
    rintro e w6 ⟨rfl, b6⟩
    have H6 := Lib.hid (And.intro (H5.out.1.below b6) (And.intro (H5.out.2.1.below b6) (And.intro (H5.out.2.2.1.bel.trans (b6.mono H5.out.2.2.1.bel.size)) H5.out.2.2.2.2)))
    clear b6 H5
    go_wp2_with (fail)
    refine (RCmp_ok _ _ _ _ _ _ us vs _ (by omega) (by omega) H6.out.1 H6.out.2.1).mono ?_
    rintro e w7 ⟨rfl, b7⟩
    rw [cmpI_lt H6.out.2.2.2]
    have H7 := Lib.hid (H6.out.2.2.1.trans (b7.mono H6.out.2.2.1.size))
    clear b7 H6
    go_wp2_with (fail)
    refine (nawake_any _).mono ?_
    rintro e w10 ⟨rfl, b10⟩
    have H10 := Lib.hid (H7.out.trans (b10.mono H7.out.size))
    clear b10 H7
    go_wp2_with (fail)
    go_ret
    exact ⟨rfl, H10.out⟩
end Go.Proofs.Ytalcikmngglplaa.natSums
