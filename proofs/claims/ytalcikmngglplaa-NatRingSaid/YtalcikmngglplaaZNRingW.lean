/- The walk of the law NatRing. -/
import Derived.Test.YtalcikmngglplaaZIt
import Derived.Test.YtalcikmngglplaaP2
import Derived.Test.YtalcikmngglplaaP4
import Derived.Test.YtalcikmngglplaaZLongC
namespace Go.Proofs.Ytalcikmngglplaa
open Go.RowKit
set_option linter.unusedVariables false
set_option linter.unusedSimpArgs false

theorem ring_bounds {X Y Z : Nat} (hX : X < B64 ^ 12) (hY : Y < B64 ^ 12) (hZ : Z < B64 ^ 12) :
    X + Y < Big ∧ Y + X < Big ∧ (X + Y) * Z < Big ∧ X * Z < Big ∧ Z * Y < Big ∧ X * Z + Z * Y < Big ∧ X + 1 < Big ∧ (X + 1) * (X + 1) < Big ∧ X * X < Big ∧ X * 2 ^ 1 < Big ∧ X * X + X * 2 ^ 1 + 1 < Big ∧ Y + Z + 1 < Big ∧ X * (Y + Z + 1) < Big ∧ X * (Y + Z + 1) + Y < Big := by
  obtain ⟨S, hS⟩ : ∃ S, S = X + Y + Z + 2 := ⟨_, rfl⟩
  have hSB : S < B64 ^ 13 := by
    rw [hS, show B64 ^ 13 = B64 * B64 ^ 12 from Nat.pow_succ']
    have h1 : 1 ≤ B64 ^ 12 := Nat.pow_pos B64_pos
    have h2 : 4 * B64 ^ 12 ≤ B64 * B64 ^ 12 := Nat.mul_le_mul_right _ (by decide)
    generalize B64 ^ 12 = P at *
    omega
  have hQ : S * S < Big := Big_of (k := 26) (by rw [show B64 ^ 26 = B64 ^ 13 * B64 ^ 13 from (Nat.pow_add B64 13 13)]; exact Nat.mul_lt_mul'' hSB hSB) (by omega)
  have hle : ∀ {a b : Nat}, a ≤ S → b ≤ S → a * b < Big := fun h h' => Nat.lt_of_le_of_lt (Nat.mul_le_mul h h') hQ
  have h1 : S ≤ S * S := Nat.le_mul_of_pos_left _ (by omega)
  have e1 : X * Z + Z * Y = (X + Y) * Z := by rw [Nat.add_mul, Nat.mul_comm Z Y]
  have e2 : X * X + X * 2 ^ 1 + 1 = (X + 1) * (X + 1) := by rw [Nat.mul_add, Nat.add_mul]; omega
  have e3 : X * (Y + Z + 1) + Y ≤ (X + 1) * (Y + Z + 1) := by rw [Nat.add_mul, Nat.one_mul]; omega
  refine ⟨by omega, by omega, hle (by omega) (by omega), hle (by omega) (by omega), hle (by omega) (by omega), ?_, by omega, hle (by omega) (by omega), hle (by omega) (by omega), hle (by omega) (by omega), ?_, by omega, hle (by omega) (by omega), Nat.lt_of_le_of_lt e3 (hle (by omega) (by omega))⟩
  · rw [e1]; exact hle (by omega) (by omega)
  · rw [e2]; exact hle (by omega) (by omega)
theorem div_above {X Y Z : Nat} : (X * (Y + Z + 1) + Y) / (Y + Z + 1) = X ∧ (X * (Y + Z + 1) + Y) % (Y + Z + 1) = Y := by
  have h : Y < Y + Z + 1 := by omega
  generalize Y + Z + 1 = M at *
  rw [Nat.add_comm (X * M), Nat.add_mul_div_right _ _ (by omega), Nat.div_eq_of_lt h, Nat.add_mul_mod_self_right, Nat.mod_eq_of_lt h]
  exact ⟨by omega, rfl⟩
end Go.Proofs.Ytalcikmngglplaa
namespace Go.Proofs.Ytalcikmngglplaa.natRing
open Go.ChangeShapes Go.RowKit
set_option linter.unusedVariables false

set_option maxRecDepth 100000 in
set_option maxHeartbeats 8000000 in
theorem walk (w : World) (a0 : Option Addr) (n0 c0 : Nat) (xs : List Nat) (hx : Sl w a0 n0 c0 xs) (a1 : Option Addr) (n1 c1 : Nat) (ys : List Nat) (hy : Sl w a1 n1 c1 ys) (a2 : Option Addr) (n2 c2 : Nat) (zs : List Nat) (hz : Sl w a2 n2 c2 zs) :
    Calls Try.prog 11 #[.slice a0 n0 c0, .slice a1 n1 c1, .slice a2 n2 c2] w fun e w' => e = .returned (.bool true) ∧ Below w.heap.size w w' := by
  have Hx := Lib.hid (And.intro hx (And.intro hy hz))
  clear hx hy hz
  go_enter Try.func11, Try.ntmps11
  go_wp2_with (fail)
  refine (few_row _ _ _ 12 xs _ Hx.out.1 (by omega)).mono ?_
  rintro e w1 ⟨A1, k1, d1, us, rfl, hk1, hs1, -, -, hb1⟩
  have H1 := Lib.hid (And.intro hs1 (And.intro (Hx.out.2.1.below hb1) (And.intro (Hx.out.2.2.below hb1) hb1)))
  clear hs1 hb1
  go_wp2_with (fail)
  refine (few_row _ _ _ 12 ys _ H1.out.2.1 (by omega)).mono ?_
  rintro e w2 ⟨A2, k2, d2, vs, rfl, hk2, hs2, -, -, hb2⟩
  have H2 := Lib.hid (And.intro (H1.out.1.below hb2) (And.intro hs2 (And.intro (H1.out.2.2.1.below hb2) (H1.out.2.2.2.trans (hb2.mono H1.out.2.2.2.size)))))
  clear hs2 hb2 H1
  go_wp2_with (fail)
  refine (few_row _ _ _ 12 zs _ H2.out.2.2.1 (by omega)).mono ?_
  rintro e w3 ⟨A3, k3, d3, ts, rfl, hk3, hs3, -, -, hb3⟩
  obtain ⟨X, hX⟩ : ∃ X, V us = X := ⟨_, rfl⟩
  obtain ⟨Y, hY⟩ : ∃ Y, V vs = Y := ⟨_, rfl⟩
  obtain ⟨Z, hZ⟩ : ∃ Z, V ts = Z := ⟨_, rfl⟩
  have HB := Lib.hid (ring_bounds (X := X) (Y := Y) (Z := Z) (by rw [← hX]; exact Nat.lt_of_lt_of_le H2.out.1.lt (Nat.pow_le_pow_right B64_pos hk1)) (by rw [← hY]; exact Nat.lt_of_lt_of_le H2.out.2.1.lt (Nat.pow_le_pow_right B64_pos hk2)) (by rw [← hZ]; exact Nat.lt_of_lt_of_le hs3.lt (Nat.pow_le_pow_right B64_pos hk3)))
  have H3 : Hid (It w3 A1 k1 d1 us X ∧ It w3 A2 k2 d2 vs Y ∧ It w3 A3 k3 d3 ts Z ∧ Below w.heap.size w w3) := ⟨⟨H2.out.1.below hb3, hX, by omega⟩, ⟨H2.out.2.1.below hb3, hY, by omega⟩, ⟨hs3, hZ, by omega⟩, H2.out.2.2.2.trans (hb3.mono H2.out.2.2.2.size)⟩
  clear hs3 hb3 H2 hX hY hZ Hx
  go_wp2_with (fail)
  refine (NAdd_ok _ _ _ _ _ _ us vs w3 (H3.out.1).2.2 (H3.out.2.1).2.2 (H3.out.1).1 (H3.out.2.1).1).mono ?_
  rintro e w4 hR4
  rw [(H3.out.1).2.1, (H3.out.2.1).2.1] at hR4
  obtain ⟨A4, n4, c4, zs4, rfl, h4⟩ := hR4.open (HB.out.1)
  have H4 := Lib.hid (And.intro (H3.out.1.keep h4.bel) (And.intro (H3.out.2.1.keep h4.bel) (And.intro (H3.out.2.2.1.keep h4.bel) (And.intro h4.it (H3.out.2.2.2.trans (h4.bel.mono H3.out.2.2.2.size))))))
  clear hR4 h4 H3
  go_wp2_with (fail)
  refine (NAdd_ok _ _ _ _ _ _ vs us w4 (H4.out.2.1).2.2 (H4.out.1).2.2 (H4.out.2.1).1 (H4.out.1).1).mono ?_
  rintro e w5 hR5
  rw [(H4.out.2.1).2.1, (H4.out.1).2.1] at hR5
  obtain ⟨A5, n5, c5, zs5, rfl, h5⟩ := hR5.open (HB.out.2.1)
  have H5 := Lib.hid (And.intro (H4.out.1.keep h5.bel) (And.intro (H4.out.2.1.keep h5.bel) (And.intro (H4.out.2.2.1.keep h5.bel) (And.intro (H4.out.2.2.2.1.keep h5.bel) (And.intro h5.it (H4.out.2.2.2.2.trans (h5.bel.mono H4.out.2.2.2.2.size)))))))
  clear hR5 h5 H4
  go_wp2_with (fail)
  refine (NMul_ok _ _ _ _ _ _ zs4 ts w5 (H5.out.2.2.2.1).2.2 (H5.out.2.2.1).2.2 (H5.out.2.2.2.1).1 (H5.out.2.2.1).1).mono ?_
  rintro e w6 hR6
  rw [(H5.out.2.2.2.1).2.1, (H5.out.2.2.1).2.1] at hR6
  obtain ⟨A6, n6, c6, zs6, rfl, h6⟩ := hR6.open (HB.out.2.2.1)
  have H6 := Lib.hid (And.intro (H5.out.1.keep h6.bel) (And.intro (H5.out.2.1.keep h6.bel) (And.intro (H5.out.2.2.1.keep h6.bel) (And.intro (H5.out.2.2.2.1.keep h6.bel) (And.intro (H5.out.2.2.2.2.1.keep h6.bel) (And.intro h6.it (H5.out.2.2.2.2.2.trans (h6.bel.mono H5.out.2.2.2.2.2.size))))))))
  clear hR6 h6 H5
  go_wp2_with (fail)
  refine (NMul_ok _ _ _ _ _ _ us ts w6 (H6.out.1).2.2 (H6.out.2.2.1).2.2 (H6.out.1).1 (H6.out.2.2.1).1).mono ?_
  rintro e w7 hR7
  rw [(H6.out.1).2.1, (H6.out.2.2.1).2.1] at hR7
  obtain ⟨A7, n7, c7, zs7, rfl, h7⟩ := hR7.open (HB.out.2.2.2.1)
  have H7 := Lib.hid (And.intro (H6.out.1.keep h7.bel) (And.intro (H6.out.2.1.keep h7.bel) (And.intro (H6.out.2.2.1.keep h7.bel) (And.intro (H6.out.2.2.2.1.keep h7.bel) (And.intro (H6.out.2.2.2.2.1.keep h7.bel) (And.intro (H6.out.2.2.2.2.2.1.keep h7.bel) (And.intro h7.it (H6.out.2.2.2.2.2.2.trans (h7.bel.mono H6.out.2.2.2.2.2.2.size)))))))))
  clear hR7 h7 H6
  go_wp2_with (fail)
  refine (NMul_ok _ _ _ _ _ _ ts vs w7 (H7.out.2.2.1).2.2 (H7.out.2.1).2.2 (H7.out.2.2.1).1 (H7.out.2.1).1).mono ?_
  rintro e w8 hR8
  rw [(H7.out.2.2.1).2.1, (H7.out.2.1).2.1] at hR8
  obtain ⟨A8, n8, c8, zs8, rfl, h8⟩ := hR8.open (HB.out.2.2.2.2.1)
  have H8 := Lib.hid (And.intro (H7.out.1.keep h8.bel) (And.intro (H7.out.2.1.keep h8.bel) (And.intro (H7.out.2.2.1.keep h8.bel) (And.intro (H7.out.2.2.2.1.keep h8.bel) (And.intro (H7.out.2.2.2.2.1.keep h8.bel) (And.intro (H7.out.2.2.2.2.2.1.keep h8.bel) (And.intro (H7.out.2.2.2.2.2.2.1.keep h8.bel) (And.intro h8.it (H7.out.2.2.2.2.2.2.2.trans (h8.bel.mono H7.out.2.2.2.2.2.2.2.size))))))))))
  clear hR8 h8 H7
  go_wp2_with (fail)
  refine (NAdd_ok _ _ _ _ _ _ zs7 zs8 w8 (H8.out.2.2.2.2.2.2.1).2.2 (H8.out.2.2.2.2.2.2.2.1).2.2 (H8.out.2.2.2.2.2.2.1).1 (H8.out.2.2.2.2.2.2.2.1).1).mono ?_
  rintro e w9 hR9
  rw [(H8.out.2.2.2.2.2.2.1).2.1, (H8.out.2.2.2.2.2.2.2.1).2.1] at hR9
  obtain ⟨A9, n9, c9, zs9, rfl, h9⟩ := hR9.open (HB.out.2.2.2.2.2.1)
  have H9 := Lib.hid (And.intro (H8.out.1.keep h9.bel) (And.intro (H8.out.2.1.keep h9.bel) (And.intro (H8.out.2.2.1.keep h9.bel) (And.intro (H8.out.2.2.2.1.keep h9.bel) (And.intro (H8.out.2.2.2.2.1.keep h9.bel) (And.intro (H8.out.2.2.2.2.2.1.keep h9.bel) (And.intro (H8.out.2.2.2.2.2.2.1.keep h9.bel) (And.intro (H8.out.2.2.2.2.2.2.2.1.keep h9.bel) (And.intro h9.it (H8.out.2.2.2.2.2.2.2.2.trans (h9.bel.mono H8.out.2.2.2.2.2.2.2.2.size)))))))))))
  clear hR9 h9 H8
  go_wp2_with (fail)
  refine (NCmp_ok _ _ _ _ _ _ zs4 zs5 w9 (by have := (H9.out.2.2.2.1).2.2; omega) (by have := (H9.out.2.2.2.2.1).2.2; omega) (H9.out.2.2.2.1).1 (H9.out.2.2.2.2.1).1).mono ?_
  rintro e w10 ⟨rfl, b10⟩
  rw [(H9.out.2.2.2.1).2.1, (H9.out.2.2.2.2.1).2.1, Nat.add_comm X Y, cmpI_same]
  have H10 := Lib.hid (And.intro (H9.out.1.keep b10) (And.intro (H9.out.2.1.keep b10) (And.intro (H9.out.2.2.1.keep b10) (And.intro (H9.out.2.2.2.2.2.1.keep b10) (And.intro (H9.out.2.2.2.2.2.2.2.2.1.keep b10) (H9.out.2.2.2.2.2.2.2.2.2.trans (b10.mono H9.out.2.2.2.2.2.2.2.2.2.size)))))))
  clear b10 H9
  go_wp2_with (fail)
  refine (NCmp_ok _ _ _ _ _ _ zs6 zs9 w10 (by have := (H10.out.2.2.2.1).2.2; omega) (by have := (H10.out.2.2.2.2.1).2.2; omega) (H10.out.2.2.2.1).1 (H10.out.2.2.2.2.1).1).mono ?_
  rintro e w11 ⟨rfl, b11⟩
  rw [(H10.out.2.2.2.1).2.1, (H10.out.2.2.2.2.1).2.1, Nat.add_mul X Y Z, Nat.mul_comm Y Z, cmpI_same]
  have H11 := Lib.hid (And.intro (H10.out.1.keep b11) (And.intro (H10.out.2.1.keep b11) (And.intro (H10.out.2.2.1.keep b11) (H10.out.2.2.2.2.2.trans (b11.mono H10.out.2.2.2.2.2.size)))))
  clear b11 H10
  go_wp2_with (fail)
  refine (NAdd_ok _ _ _ _ _ _ us [1] (W1 w11 1) (H11.out.1).2.2 (by omega) ((H11.out.1).1.below (W1_below w11 1)) (Sl_one w11 1 (by decide))).mono ?_
  rintro e w12 hR12
  rw [(H11.out.1).2.1] at hR12
  rw [V_one 1] at hR12
  replace hR12 := hR12.from (W1_below w11 1)
  obtain ⟨A12, n12, c12, zs12, rfl, h12⟩ := hR12.open (HB.out.2.2.2.2.2.2.1)
  have H12 := Lib.hid (And.intro (H11.out.1.keep h12.bel) (And.intro (H11.out.2.1.keep h12.bel) (And.intro (H11.out.2.2.1.keep h12.bel) (And.intro h12.it (H11.out.2.2.2.trans (h12.bel.mono H11.out.2.2.2.size))))))
  clear hR12 h12 H11
  go_wp2_with (fail)
  refine (NSquare_ok _ _ _ zs12 w12 (H12.out.2.2.2.1).2.2 (H12.out.2.2.2.1).1).mono ?_
  rintro e w13 hR13
  rw [(H12.out.2.2.2.1).2.1] at hR13
  obtain ⟨A13, n13, c13, zs13, rfl, h13⟩ := hR13.open (HB.out.2.2.2.2.2.2.2.1)
  have H13 := Lib.hid (And.intro (H12.out.1.keep h13.bel) (And.intro (H12.out.2.1.keep h13.bel) (And.intro (H12.out.2.2.1.keep h13.bel) (And.intro h13.it (H12.out.2.2.2.2.trans (h13.bel.mono H12.out.2.2.2.2.size))))))
  clear hR13 h13 H12
  go_wp2_with (fail)
  refine (NSquare_ok _ _ _ us w13 (H13.out.1).2.2 (H13.out.1).1).mono ?_
  rintro e w14 hR14
  rw [(H13.out.1).2.1] at hR14
  obtain ⟨A14, n14, c14, zs14, rfl, h14⟩ := hR14.open (HB.out.2.2.2.2.2.2.2.2.1)
  have H14 := Lib.hid (And.intro (H13.out.1.keep h14.bel) (And.intro (H13.out.2.1.keep h14.bel) (And.intro (H13.out.2.2.1.keep h14.bel) (And.intro (H13.out.2.2.2.1.keep h14.bel) (And.intro h14.it (H13.out.2.2.2.2.trans (h14.bel.mono H13.out.2.2.2.2.size)))))))
  clear hR14 h14 H13
  go_wp2_with (fail)
  refine (NLeft_ok _ _ _ us 1 w14 (H14.out.1).2.2 (by omega) (H14.out.1).1).mono ?_
  rintro e w15 hR15
  rw [(H14.out.1).2.1] at hR15
  obtain ⟨A15, n15, c15, zs15, rfl, h15⟩ := hR15.open (HB.out.2.2.2.2.2.2.2.2.2.1)
  have H15 := Lib.hid (And.intro (H14.out.1.keep h15.bel) (And.intro (H14.out.2.1.keep h15.bel) (And.intro (H14.out.2.2.1.keep h15.bel) (And.intro (H14.out.2.2.2.1.keep h15.bel) (And.intro (H14.out.2.2.2.2.1.keep h15.bel) (And.intro h15.it (H14.out.2.2.2.2.2.trans (h15.bel.mono H14.out.2.2.2.2.2.size))))))))
  clear hR15 h15 H14
  go_wp2_with (fail)
  refine (Sum_3 (w := w15) (H15.out.2.2.2.2.1) (H15.out.2.2.2.2.2.1) (z := 1) (by decide)).mono ?_
  rintro e w16 hR16
  obtain ⟨A16, n16, c16, zs16, rfl, h16⟩ := hR16.open (HB.out.2.2.2.2.2.2.2.2.2.2.1)
  have H16 := Lib.hid (And.intro (H15.out.1.keep h16.bel) (And.intro (H15.out.2.1.keep h16.bel) (And.intro (H15.out.2.2.1.keep h16.bel) (And.intro (H15.out.2.2.2.1.keep h16.bel) (And.intro h16.it (H15.out.2.2.2.2.2.2.trans (h16.bel.mono H15.out.2.2.2.2.2.2.size)))))))
  clear hR16 h16 H15
  go_wp2_with (fail)
  refine (NCmp_ok _ _ _ _ _ _ zs13 zs16 w16 (by have := (H16.out.2.2.2.1).2.2; omega) (by have := (H16.out.2.2.2.2.1).2.2; omega) (H16.out.2.2.2.1).1 (H16.out.2.2.2.2.1).1).mono ?_
  rintro e w17 ⟨rfl, b17⟩
  rw [(H16.out.2.2.2.1).2.1, (H16.out.2.2.2.2.1).2.1, show (X + 1) * (X + 1) = X * X + X * 2 ^ 1 + 1 by rw [Nat.mul_add, Nat.add_mul]; omega, cmpI_same]
  have H17 := Lib.hid (And.intro (H16.out.1.keep b17) (And.intro (H16.out.2.1.keep b17) (And.intro (H16.out.2.2.1.keep b17) (H16.out.2.2.2.2.2.trans (b17.mono H16.out.2.2.2.2.2.size)))))
  clear b17 H16
  go_wp2_with (fail)
  refine (Sum_3 (w := w17) (H17.out.2.1) (H17.out.2.2.1) (z := 1) (by decide)).mono ?_
  rintro e w18 hR18
  obtain ⟨A18, n18, c18, zs18, rfl, h18⟩ := hR18.open (HB.out.2.2.2.2.2.2.2.2.2.2.2.1)
  have H18 := Lib.hid (And.intro (H17.out.1.keep h18.bel) (And.intro (H17.out.2.1.keep h18.bel) (And.intro h18.it (H17.out.2.2.2.trans (h18.bel.mono H17.out.2.2.2.size)))))
  clear hR18 h18 H17
  go_wp2_with (fail)
  refine (NMul_ok _ _ _ _ _ _ us zs18 w18 (H18.out.1).2.2 (H18.out.2.2.1).2.2 (H18.out.1).1 (H18.out.2.2.1).1).mono ?_
  rintro e w19 hR19
  rw [(H18.out.1).2.1, (H18.out.2.2.1).2.1] at hR19
  obtain ⟨A19, n19, c19, zs19, rfl, h19⟩ := hR19.open (HB.out.2.2.2.2.2.2.2.2.2.2.2.2.1)
  have H19 := Lib.hid (And.intro (H18.out.1.keep h19.bel) (And.intro (H18.out.2.1.keep h19.bel) (And.intro (H18.out.2.2.1.keep h19.bel) (And.intro h19.it (H18.out.2.2.2.trans (h19.bel.mono H18.out.2.2.2.size))))))
  clear hR19 h19 H18
  go_wp2_with (fail)
  refine (NAdd_ok _ _ _ _ _ _ zs19 vs w19 (H19.out.2.2.2.1).2.2 (H19.out.2.1).2.2 (H19.out.2.2.2.1).1 (H19.out.2.1).1).mono ?_
  rintro e w20 hR20
  rw [(H19.out.2.2.2.1).2.1, (H19.out.2.1).2.1] at hR20
  obtain ⟨A20, n20, c20, zs20, rfl, h20⟩ := hR20.open (HB.out.2.2.2.2.2.2.2.2.2.2.2.2.2)
  have H20 := Lib.hid (And.intro (H19.out.1.keep h20.bel) (And.intro (H19.out.2.1.keep h20.bel) (And.intro (H19.out.2.2.1.keep h20.bel) (And.intro h20.it (H19.out.2.2.2.2.trans (h20.bel.mono H19.out.2.2.2.2.size))))))
  clear hR20 h20 H19
  go_wp2_with (fail)
  refine (NDivMod_ok _ _ _ _ _ _ zs20 zs18 w20 (H20.out.2.2.2.1).2.2 (H20.out.2.2.1).2.2 (H20.out.2.2.2.1).1 (H20.out.2.2.1).1 (by rw [(H20.out.2.2.1).2.1]; omega) (.inl longC)).mono ?_
  rintro e w21 ⟨v21, u21, rfl, hN21, hM21, b21⟩
  rw [(H20.out.2.2.2.1).2.1, (H20.out.2.2.1).2.1] at hN21 hM21
  obtain ⟨A21, n21, c21, zs21, rfl, h21⟩ := Nu.of hN21 b21 (by rw [div_above.1]; exact Nat.lt_of_le_of_lt (Nat.le_add_right _ _) HB.out.1)
  obtain ⟨B21, m21, d21, ys21, rfl, g21⟩ := Nu.of hM21 b21 (by rw [div_above.2]; exact Nat.lt_of_le_of_lt (Nat.le_add_right _ _) HB.out.2.1)
  have H21 := Lib.hid (And.intro (H20.out.1.keep b21) (And.intro (H20.out.2.1.keep b21) (And.intro h21.it (And.intro g21.it (H20.out.2.2.2.2.trans (b21.mono H20.out.2.2.2.2.size))))))
  clear hN21 hM21 b21 h21 g21 H20
  go_wp2_with (fail)
  refine (NCmp_ok _ _ _ _ _ _ zs21 us w21 (by have := (H21.out.2.2.1).2.2; omega) (by have := (H21.out.1).2.2; omega) (H21.out.2.2.1).1 (H21.out.1).1).mono ?_
  rintro e w22 ⟨rfl, b22⟩
  rw [(H21.out.2.2.1).2.1, (H21.out.1).2.1, div_above.1, cmpI_same]
  have H22 := Lib.hid (And.intro (H21.out.2.1.keep b22) (And.intro (H21.out.2.2.2.1.keep b22) (H21.out.2.2.2.2.trans (b22.mono H21.out.2.2.2.2.size))))
  clear b22 H21
  go_wp2_with (fail)
  refine (NCmp_ok _ _ _ _ _ _ ys21 vs w22 (by have := (H22.out.2.1).2.2; omega) (by have := (H22.out.1).2.2; omega) (H22.out.2.1).1 (H22.out.1).1).mono ?_
  rintro e w23 ⟨rfl, b23⟩
  rw [(H22.out.2.1).2.1, (H22.out.1).2.1, div_above.2, cmpI_same]
  have H23 := Lib.hid (And.intro (H22.out.1.keep b23) (And.intro (H22.out.2.1.keep b23) (H22.out.2.2.trans (b23.mono H22.out.2.2.size))))
  clear b23 H22
  go_wp2_with (fail)
  refine (nawake_any _).mono ?_
  rintro e w99 ⟨rfl, b99⟩
  go_wp2_with (fail)
  go_ret
  exact ⟨rfl, H23.out.2.2.trans (b99.mono H23.out.2.2.size)⟩
end Go.Proofs.Ytalcikmngglplaa.natRing
