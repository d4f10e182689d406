/- The walk of the law NatPowersOfTwo. -/
import Derived.Test.YtalcikmngglplaaZIt
import Derived.Test.YtalcikmngglplaaP2
import Derived.Test.YtalcikmngglplaaP4
import Derived.Test.YtalcikmngglplaaP6
import Derived.Test.YtalcikmngglplaaP7
import Derived.Test.YtalcikmngglplaaP3
import Derived.Test.YtalcikmngglplaaP5
import Derived.Test.YtalcikmngglplaaZLongC
import Derived.OpenShut
namespace Go.Proofs.Ytalcikmngglplaa
open Go.RowKit
set_option linter.unusedVariables false
set_option linter.unusedSimpArgs false

theorem pt_bounds {X Y s : Nat} (hX : X < B64 ^ 20) (hY : Y < B64 ^ 20) (hs : s < 700) : 2 ^ s < Big ∧ X * 2 ^ s < Big ∧ X / 2 ^ s < Big ∧ X % 2 ^ s < Big ∧ X + Y < Big ∧ X * Y < Big := by
  have hpe : ∀ e, s < 64 * e → 2 ^ s < B64 ^ e := fun e h => by rw [B64_two]; exact Nat.pow_lt_pow_right (by decide) h
  have hp := hpe 11 (by omega)
  have hXB : X < Big := Big_of hX (by omega)
  refine ⟨Big_of hp (by omega), Big_of (k := 31) (by rw [show B64 ^ 31 = B64 ^ 20 * B64 ^ 11 from Nat.pow_add B64 20 11]; exact Nat.mul_lt_mul'' hX hp) (by omega), Nat.lt_of_le_of_lt (Nat.div_le_self _ _) hXB, Nat.lt_of_le_of_lt (Nat.mod_le _ _) hXB, Big_of (k := 21) ?_ (by omega), Big_of (k := 40) (by rw [show B64 ^ 40 = B64 ^ 20 * B64 ^ 20 from Nat.pow_add B64 20 20]; exact Nat.mul_lt_mul'' hX hY) (by omega)⟩
  have h2 : 2 * B64 ^ 20 ≤ B64 * B64 ^ 20 := Nat.mul_le_mul_right _ (by decide)
  rw [show B64 ^ 21 = B64 * B64 ^ 20 from Nat.pow_succ']
  generalize B64 ^ 20 = P at *
  omega
theorem jl_facts {us vs : List Nat} {X Y N : Nat} (hu : us.length ≤ N) (hv : vs.length ≤ N) (hX : V us = X) (hY : V vs = Y) : V (jl 38 us vs N) + V (jl 124 us vs N) = X + Y ∧ V (jl 94 us vs N) + V (jl 38 us vs N) = V (jl 124 us vs N) := by
  have h := jl_sum us vs N
  rw [List.take_of_length_le hu, List.take_of_length_le hv, hX, hY] at h
  exact h
theorem jl_BigL (s : Int) {xs ys : List Nat} (hx : Ws xs) (hy : Ws ys) {N : Nat} (hN : N ≤ 4096) : V (jl s xs ys N) < Big :=
  Big_of (k := N) (by have := V_lt _ (jl_ws s hx hy N); rwa [jl_len] at this) hN
/-- the length of a product -/
theorem len_mul {X Y l m n : Nat} (h1 : BL X l) (h2 : BL Y m) (h3 : BL (X * Y) n) (hl : l ≠ 0) (hm : m ≠ 0) : n = l + m ∨ n = l + m - 1 := by
  have hX : 0 < X := by rcases Nat.eq_zero_or_pos X with h | h; exact absurd (h1.2.2 h) hl; exact h
  have hY : 0 < Y := by rcases Nat.eq_zero_or_pos Y with h | h; exact absurd (h2.2.2 h) hm; exact h
  obtain ⟨_, a1⟩ := h1.2.1 hX
  obtain ⟨_, a2⟩ := h2.2.1 hY
  obtain ⟨_, a3⟩ := h3.2.1 (Nat.mul_pos hX hY)
  have b1 : X * Y < 2 ^ (l + m) := by rw [Nat.pow_add]; exact Nat.mul_lt_mul'' h1.1 h2.1
  have b2 : 2 ^ (l - 1 + (m - 1)) ≤ X * Y := by rw [Nat.pow_add]; exact Nat.mul_le_mul a1 a2
  have c1 : n - 1 < l + m := (Nat.pow_lt_pow_iff_right (by decide)).1 (Nat.lt_of_le_of_lt a3 b1)
  have c2 : l - 1 + (m - 1) < n := (Nat.pow_lt_pow_iff_right (by decide)).1 (Nat.lt_of_le_of_lt b2 h3.1)
  omega
theorem len_zero {X Y l m n : Nat} (h1 : BL X l) (h2 : BL Y m) (h3 : BL (X * Y) n) (h : l = 0 ∨ m = 0) : n = 0 := by
  refine h3.2.2 ?_
  rcases h with h | h
  · rcases Nat.eq_zero_or_pos X with h4 | h4
    · rw [h4, Nat.zero_mul]
    · have := (h1.2.1 h4).1; omega
  · rcases Nat.eq_zero_or_pos Y with h4 | h4
    · rw [h4, Nat.mul_zero]
    · have := (h2.2.1 h4).1; omega
end Go.Proofs.Ytalcikmngglplaa
namespace Go.Proofs.Ytalcikmngglplaa.natPowersOfTwo
open Go.ChangeShapes Go.RowKit
set_option linter.unusedVariables false

set_option maxRecDepth 100000 in
set_option maxHeartbeats 8000000 in
theorem walk (w : World) (a0 : Option Addr) (n0 c0 : Nat) (xs : List Nat) (hx : Sl w a0 n0 c0 xs) (a1 : Option Addr) (n1 c1 : Nat) (ys : List Nat) (hy : Sl w a1 n1 c1 ys) (a2 : Int) (w2 : (Lit.int .i64 a2).wf = true) :
    Calls Try.prog 12 #[.slice a0 n0 c0, .slice a1 n1 c1, .int .i64 a2] w fun e w' => e = .returned (.bool true) ∧ Below w.heap.size w w' := by
  have Hx := Lib.hid (And.intro hx hy)
  have hb := bounds_i64 w2
  obtain ⟨u, hu⟩ : ∃ u : Nat, IntKind.u64.wrap a2 = (u : Int) := ⟨(a2 % 18446744073709551616).toNat, by rw [IntKind.wrap_u64]; omega⟩
  obtain ⟨s, hs, hs1, hs2⟩ : ∃ s : Nat, s < 700 ∧ (u : Int).tmod 700 = (s : Int) ∧ (u : Int) % 700 = (s : Int) := ⟨u % 700, Nat.mod_lt _ (by decide), by rw [Int.tmod_eq_emod_of_nonneg (by omega)]; omega, by omega⟩
  have hsw : IntKind.i64.wrap (s : Int) = (s : Int) := IntWalk.i64_in _ (by omega)
  clear hx hy w2 hb
  go_enter Try.func12, Try.ntmps12
  go_wp2_with (fail)
  refine (few_row _ _ _ 20 xs _ Hx.out.1 (by omega)).mono ?_
  rintro e w1 ⟨A1, k1, d1, us, rfl, hk1, hs3, -, -, hb1⟩
  have H1 := Lib.hid (And.intro hs3 (And.intro (Hx.out.2.below hb1) hb1))
  clear hs3 hb1
  go_wp2_with (fail)
  refine (few_row _ _ _ 20 ys _ H1.out.2.1 (by omega)).mono ?_
  rintro e w3 ⟨A2, k2, d2, vs, rfl, hk2, hs3, -, -, hb2⟩
  obtain ⟨X, hX⟩ : ∃ X, V us = X := ⟨_, rfl⟩
  obtain ⟨Y, hY⟩ : ∃ Y, V vs = Y := ⟨_, rfl⟩
  obtain ⟨N, hN, hN4⟩ : ∃ N : Nat, Mx N k1 k2 ∧ N ≤ 20 := by
    unfold Mx
    rcases Nat.lt_or_ge k1 k2 with h | h
    · exact ⟨k2, ⟨by omega, by omega, by omega⟩, by omega⟩
    · exact ⟨k1, ⟨by omega, by omega, by omega⟩, by omega⟩
  have HB := Lib.hid (pt_bounds (X := X) (Y := Y) (s := s) (by rw [← hX]; exact Nat.lt_of_lt_of_le H1.out.1.lt (Nat.pow_le_pow_right B64_pos hk1)) (by rw [← hY]; exact Nat.lt_of_lt_of_le hs3.lt (Nat.pow_le_pow_right B64_pos hk2)) hs)
  have HJ := Lib.hid (jl_facts (us := us) (vs := vs) (N := N) (by rw [H1.out.1.1]; exact hN.1) (by rw [hs3.1]; exact hN.2.1) hX hY)
  have HJB := Lib.hid (fun q => jl_BigL q H1.out.1.2.2.2.1 hs3.2.2.2.1 (N := N) (by omega))
  have H3 : Hid (It w3 A1 k1 d1 us X ∧ It w3 A2 k2 d2 vs Y ∧ Below w.heap.size w w3) := ⟨⟨H1.out.1.below hb2, hX, by omega⟩, ⟨hs3, hY, by omega⟩, H1.out.2.2.trans (hb2.mono H1.out.2.2.size)⟩
  have HM := Lib.hid hN
  have HP := Lib.hid (show 0 < 2 ^ s from Nat.pow_pos (by decide))
  have hs7 : s ≤ 262144 := by omega
  clear hs3 hb2 H1 hX hY hN Hx
  go_wp2_with (fail)
  refine (NPow_ok _ _ _ [2] s (W1 w3 2) (by omega) (by omega) (Sl_one w3 2 (by decide))).mono ?_
  rintro e w4 hR4
  rw [V_one 2] at hR4
  replace hR4 := hR4.from (W1_below w3 2)
  obtain ⟨A4, n4, c4, zs4, rfl, h4⟩ := hR4.open (HB.out.1)
  have H4 := Lib.hid (And.intro (H3.out.1.keep h4.bel) (And.intro (H3.out.2.1.keep h4.bel) (And.intro h4.it (H3.out.2.2.trans (h4.bel.mono H3.out.2.2.size)))))
  clear hR4 h4 H3
  go_wp2_with (fail)
  refine (NLeft_ok _ _ _ us s w4 (H4.out.1).2.2 hs7 (H4.out.1).1).mono ?_
  rintro e w5 hR5
  rw [(H4.out.1).2.1] at hR5
  obtain ⟨A5, n5, c5, zs5, rfl, h5⟩ := hR5.open (HB.out.2.1)
  have H5 := Lib.hid (And.intro (H4.out.1.keep h5.bel) (And.intro (H4.out.2.1.keep h5.bel) (And.intro (H4.out.2.2.1.keep h5.bel) (And.intro h5.it (H4.out.2.2.2.trans (h5.bel.mono H4.out.2.2.2.size))))))
  clear hR5 h5 H4
  go_wp2_with (fail)
  refine (NMul_ok _ _ _ _ _ _ us zs4 w5 (H5.out.1).2.2 (H5.out.2.2.1).2.2 (H5.out.1).1 (H5.out.2.2.1).1).mono ?_
  rintro e w6 hR6
  rw [(H5.out.1).2.1, (H5.out.2.2.1).2.1] at hR6
  obtain ⟨A6, n6, c6, zs6, rfl, h6⟩ := hR6.open (HB.out.2.1)
  have H6 := Lib.hid (And.intro (H5.out.1.keep h6.bel) (And.intro (H5.out.2.1.keep h6.bel) (And.intro (H5.out.2.2.1.keep h6.bel) (And.intro (H5.out.2.2.2.1.keep h6.bel) (And.intro h6.it (H5.out.2.2.2.2.trans (h6.bel.mono H5.out.2.2.2.2.size)))))))
  clear hR6 h6 H5
  go_wp2_with (fail)
  refine (NDivMod_ok _ _ _ _ _ _ us zs4 w6 (H6.out.1).2.2 (H6.out.2.2.1).2.2 (H6.out.1).1 (H6.out.2.2.1).1 (by rw [(H6.out.2.2.1).2.1]; exact HP.out) (.inl longC)).mono ?_
  rintro e w7 ⟨v7, u7, rfl, hN7, hM7, b7⟩
  rw [(H6.out.1).2.1, (H6.out.2.2.1).2.1] at hN7 hM7
  obtain ⟨A7, n7, c7, zs7, rfl, h7⟩ := Nu.of hN7 b7 (HB.out.2.2.1)
  obtain ⟨B7, m7, d7, ys7, rfl, g7⟩ := Nu.of hM7 b7 (HB.out.2.2.2.1)
  have H7 := Lib.hid (And.intro (H6.out.1.keep b7) (And.intro (H6.out.2.1.keep b7) (And.intro (H6.out.2.2.2.1.keep b7) (And.intro (H6.out.2.2.2.2.1.keep b7) (And.intro h7.it (And.intro g7.it (H6.out.2.2.2.2.2.trans (b7.mono H6.out.2.2.2.2.2.size))))))))
  clear hN7 hM7 b7 h7 g7 H6
  go_wp2_with (fail)
  refine (NRight_ok _ _ _ us s w7 (H7.out.1).2.2 hs7 (H7.out.1).1).mono ?_
  rintro e w8 ⟨v8, rfl, hN8, b8⟩
  rw [(H7.out.1).2.1] at hN8
  obtain ⟨A8, n8, c8, zs8, rfl, h8⟩ := Nu.of hN8 b8 (HB.out.2.2.1)
  have H8 := Lib.hid (And.intro (H7.out.1.keep b8) (And.intro (H7.out.2.1.keep b8) (And.intro (H7.out.2.2.1.keep b8) (And.intro (H7.out.2.2.2.1.keep b8) (And.intro (H7.out.2.2.2.2.1.keep b8) (And.intro (H7.out.2.2.2.2.2.1.keep b8) (And.intro h8.it (H7.out.2.2.2.2.2.2.trans (b8.mono H7.out.2.2.2.2.2.2.size)))))))))
  clear hN8 b8 h8 H7
  go_wp2_with (fail)
  refine (NLow_ok _ _ _ us s w8 (H8.out.1).2.2 hs7 (H8.out.1).1).mono ?_
  rintro e w9 ⟨v9, rfl, hN9, b9⟩
  rw [(H8.out.1).2.1] at hN9
  obtain ⟨A9, n9, c9, zs9, rfl, h9⟩ := Nu.of hN9 b9 (HB.out.2.2.2.1)
  have H9 := Lib.hid (And.intro (H8.out.1.keep b9) (And.intro (H8.out.2.1.keep b9) (And.intro (H8.out.2.2.1.keep b9) (And.intro (H8.out.2.2.2.1.keep b9) (And.intro (H8.out.2.2.2.2.1.keep b9) (And.intro (H8.out.2.2.2.2.2.1.keep b9) (And.intro (H8.out.2.2.2.2.2.2.1.keep b9) (And.intro h9.it (H8.out.2.2.2.2.2.2.2.trans (b9.mono H8.out.2.2.2.2.2.2.2.size))))))))))
  clear hN9 b9 h9 H8
  go_wp2_with (fail)
  refine (NCmp_ok _ _ _ _ _ _ zs5 zs6 w9 (by have := (H9.out.2.2.1).2.2; omega) (by have := (H9.out.2.2.2.1).2.2; omega) (H9.out.2.2.1).1 (H9.out.2.2.2.1).1).mono ?_
  rintro e w10 ⟨rfl, b10⟩
  rw [(H9.out.2.2.1).2.1, (H9.out.2.2.2.1).2.1, cmpI_same]
  have H10 := Lib.hid (And.intro (H9.out.1.keep b10) (And.intro (H9.out.2.1.keep b10) (And.intro (H9.out.2.2.2.2.1.keep b10) (And.intro (H9.out.2.2.2.2.2.1.keep b10) (And.intro (H9.out.2.2.2.2.2.2.1.keep b10) (And.intro (H9.out.2.2.2.2.2.2.2.1.keep b10) (H9.out.2.2.2.2.2.2.2.2.trans (b10.mono H9.out.2.2.2.2.2.2.2.2.size))))))))
  clear b10 H9
  go_wp2_with (fail)
  refine (NCmp_ok _ _ _ _ _ _ zs7 zs8 w10 (by have := (H10.out.2.2.1).2.2; omega) (by have := (H10.out.2.2.2.2.1).2.2; omega) (H10.out.2.2.1).1 (H10.out.2.2.2.2.1).1).mono ?_
  rintro e w11 ⟨rfl, b11⟩
  rw [(H10.out.2.2.1).2.1, (H10.out.2.2.2.2.1).2.1, cmpI_same]
  have H11 := Lib.hid (And.intro (H10.out.1.keep b11) (And.intro (H10.out.2.1.keep b11) (And.intro (H10.out.2.2.2.1.keep b11) (And.intro (H10.out.2.2.2.2.2.1.keep b11) (H10.out.2.2.2.2.2.2.trans (b11.mono H10.out.2.2.2.2.2.2.size))))))
  clear b11 H10
  go_wp2_with (fail)
  refine (NCmp_ok _ _ _ _ _ _ ys7 zs9 w11 (by have := (H11.out.2.2.1).2.2; omega) (by have := (H11.out.2.2.2.1).2.2; omega) (H11.out.2.2.1).1 (H11.out.2.2.2.1).1).mono ?_
  rintro e w12 ⟨rfl, b12⟩
  rw [(H11.out.2.2.1).2.1, (H11.out.2.2.2.1).2.1, cmpI_same]
  have H12 := Lib.hid (And.intro (H11.out.1.keep b12) (And.intro (H11.out.2.1.keep b12) (H11.out.2.2.2.2.trans (b12.mono H11.out.2.2.2.2.size))))
  clear b12 H11
  go_wp2_with (fail)
  refine (NAnd_ok _ _ _ _ _ _ us vs N w12 (H12.out.1).2.2 (H12.out.2.1).2.2 HM.out (H12.out.1).1 (H12.out.2.1).1).mono ?_
  rintro e w13 ⟨v13, rfl, hN13, b13⟩
  obtain ⟨A13, n13, c13, zs13, rfl, h13⟩ := Nu.of hN13 b13 (HJB.out 38)
  have H13 := Lib.hid (And.intro (H12.out.1.keep b13) (And.intro (H12.out.2.1.keep b13) (And.intro h13.it (H12.out.2.2.trans (b13.mono H12.out.2.2.size)))))
  clear hN13 b13 h13 H12
  go_wp2_with (fail)
  refine (NOr_ok _ _ _ _ _ _ us vs N w13 (H13.out.1).2.2 (H13.out.2.1).2.2 HM.out (H13.out.1).1 (H13.out.2.1).1).mono ?_
  rintro e w14 ⟨v14, rfl, hN14, b14⟩
  obtain ⟨A14, n14, c14, zs14, rfl, h14⟩ := Nu.of hN14 b14 (HJB.out 124)
  have H14 := Lib.hid (And.intro (H13.out.1.keep b14) (And.intro (H13.out.2.1.keep b14) (And.intro (H13.out.2.2.1.keep b14) (And.intro h14.it (H13.out.2.2.2.trans (b14.mono H13.out.2.2.2.size))))))
  clear hN14 b14 h14 H13
  go_wp2_with (fail)
  refine (NXor_ok _ _ _ _ _ _ us vs N w14 (H14.out.1).2.2 (H14.out.2.1).2.2 HM.out (H14.out.1).1 (H14.out.2.1).1).mono ?_
  rintro e w15 ⟨v15, rfl, hN15, b15⟩
  obtain ⟨A15, n15, c15, zs15, rfl, h15⟩ := Nu.of hN15 b15 (HJB.out 94)
  have H15 := Lib.hid (And.intro (H14.out.1.keep b15) (And.intro (H14.out.2.1.keep b15) (And.intro (H14.out.2.2.1.keep b15) (And.intro (H14.out.2.2.2.1.keep b15) (And.intro h15.it (H14.out.2.2.2.2.trans (b15.mono H14.out.2.2.2.2.size)))))))
  clear hN15 b15 h15 H14
  go_wp2_with (fail)
  refine (NAdd_ok _ _ _ _ _ _ zs13 zs14 w15 (H15.out.2.2.1).2.2 (H15.out.2.2.2.1).2.2 (H15.out.2.2.1).1 (H15.out.2.2.2.1).1).mono ?_
  rintro e w16 hR16
  rw [(H15.out.2.2.1).2.1, (H15.out.2.2.2.1).2.1] at hR16
  obtain ⟨A16, n16, c16, zs16, rfl, h16⟩ := hR16.open (by rw [HJ.out.1]; exact HB.out.2.2.2.2.1)
  have H16 := Lib.hid (And.intro (H15.out.1.keep h16.bel) (And.intro (H15.out.2.1.keep h16.bel) (And.intro (H15.out.2.2.1.keep h16.bel) (And.intro (H15.out.2.2.2.1.keep h16.bel) (And.intro (H15.out.2.2.2.2.1.keep h16.bel) (And.intro h16.it (H15.out.2.2.2.2.2.trans (h16.bel.mono H15.out.2.2.2.2.2.size))))))))
  clear hR16 h16 H15
  go_wp2_with (fail)
  refine (NAdd_ok _ _ _ _ _ _ us vs w16 (H16.out.1).2.2 (H16.out.2.1).2.2 (H16.out.1).1 (H16.out.2.1).1).mono ?_
  rintro e w17 hR17
  rw [(H16.out.1).2.1, (H16.out.2.1).2.1] at hR17
  obtain ⟨A17, n17, c17, zs17, rfl, h17⟩ := hR17.open (HB.out.2.2.2.2.1)
  have H17 := Lib.hid (And.intro (H16.out.1.keep h17.bel) (And.intro (H16.out.2.1.keep h17.bel) (And.intro (H16.out.2.2.1.keep h17.bel) (And.intro (H16.out.2.2.2.1.keep h17.bel) (And.intro (H16.out.2.2.2.2.1.keep h17.bel) (And.intro (H16.out.2.2.2.2.2.1.keep h17.bel) (And.intro h17.it (H16.out.2.2.2.2.2.2.trans (h17.bel.mono H16.out.2.2.2.2.2.2.size)))))))))
  clear hR17 h17 H16
  go_wp2_with (fail)
  refine (NSub_ok _ _ _ _ _ _ zs14 zs13 w17 (H17.out.2.2.2.1).2.2 (H17.out.2.2.1).2.2 (H17.out.2.2.2.1).1 (H17.out.2.2.1).1).mono ?_
  rintro e w18 ⟨hR18, b18⟩
  rw [(H17.out.2.2.2.1).2.1, (H17.out.2.2.1).2.1] at hR18
  rcases hR18 with ⟨-, v18, rfl, hN18⟩ | ⟨hbad, -⟩
  rotate_left
  · exact absurd hbad (by have := HJ.out.2; omega)
  obtain ⟨A18, n18, c18, zs18, rfl, h18⟩ := Nu.of hN18 b18 (Nat.lt_of_le_of_lt (Nat.sub_le _ _) (HJB.out 124))
  have H18 := Lib.hid (And.intro (H17.out.1.keep b18) (And.intro (H17.out.2.1.keep b18) (And.intro (H17.out.2.2.2.2.1.keep b18) (And.intro (H17.out.2.2.2.2.2.1.keep b18) (And.intro (H17.out.2.2.2.2.2.2.1.keep b18) (And.intro h18.it (H17.out.2.2.2.2.2.2.2.trans (b18.mono H17.out.2.2.2.2.2.2.2.size))))))))
  clear hN18 b18 h18 H17
  go_wp2_with (fail)
  refine (NMul_ok _ _ _ _ _ _ us vs w18 (H18.out.1).2.2 (H18.out.2.1).2.2 (H18.out.1).1 (H18.out.2.1).1).mono ?_
  rintro e w19 hR19
  rw [(H18.out.1).2.1, (H18.out.2.1).2.1] at hR19
  obtain ⟨A19, n19, c19, zs19, rfl, h19⟩ := hR19.open (HB.out.2.2.2.2.2)
  have H19 := Lib.hid (And.intro (H18.out.1.keep h19.bel) (And.intro (H18.out.2.1.keep h19.bel) (And.intro (H18.out.2.2.1.keep h19.bel) (And.intro (H18.out.2.2.2.1.keep h19.bel) (And.intro (H18.out.2.2.2.2.1.keep h19.bel) (And.intro (H18.out.2.2.2.2.2.1.keep h19.bel) (And.intro h19.it (H18.out.2.2.2.2.2.2.trans (h19.bel.mono H18.out.2.2.2.2.2.2.size)))))))))
  clear hR19 h19 H18
  go_wp2_with (fail)
  refine (NCmp_ok _ _ _ _ _ _ zs16 zs17 w19 (by have := (H19.out.2.2.2.1).2.2; omega) (by have := (H19.out.2.2.2.2.1).2.2; omega) (H19.out.2.2.2.1).1 (H19.out.2.2.2.2.1).1).mono ?_
  rintro e w20 ⟨rfl, b20⟩
  rw [(H19.out.2.2.2.1).2.1, (H19.out.2.2.2.2.1).2.1, HJ.out.1, cmpI_same]
  have H20 := Lib.hid (And.intro (H19.out.1.keep b20) (And.intro (H19.out.2.1.keep b20) (And.intro (H19.out.2.2.1.keep b20) (And.intro (H19.out.2.2.2.2.2.1.keep b20) (And.intro (H19.out.2.2.2.2.2.2.1.keep b20) (H19.out.2.2.2.2.2.2.2.trans (b20.mono H19.out.2.2.2.2.2.2.2.size)))))))
  clear b20 H19
  go_wp2_with (fail)
  refine (NCmp_ok _ _ _ _ _ _ zs15 zs18 w20 (by have := (H20.out.2.2.1).2.2; omega) (by have := (H20.out.2.2.2.1).2.2; omega) (H20.out.2.2.1).1 (H20.out.2.2.2.1).1).mono ?_
  rintro e w21 ⟨rfl, b21⟩
  rw [(H20.out.2.2.1).2.1, (H20.out.2.2.2.1).2.1, show V (jl 94 us vs N) = V (jl 124 us vs N) - V (jl 38 us vs N) by have := HJ.out.2; omega, cmpI_same]
  have H21 := Lib.hid (And.intro (H20.out.1.keep b21) (And.intro (H20.out.2.1.keep b21) (And.intro (H20.out.2.2.2.2.1.keep b21) (H20.out.2.2.2.2.2.trans (b21.mono H20.out.2.2.2.2.2.size)))))
  clear b21 H20
  go_wp2_with (fail)
  refine (NLen_ok _ _ _ us w21 (by have := (H21.out.1).2.2; omega) (H21.out.1).1).mono ?_
  rintro e w' ⟨la, rfl, hla, hBla, rfl⟩
  rw [(H21.out.1).2.1] at hBla
  have HBla := Lib.hid hBla
  clear hBla
  rcases Nat.eq_zero_or_pos la with hla | hla
  · subst hla
    go_wp2_with (fail)
    refine (NLen_ok _ _ _ zs19 w21 (by have := (H21.out.2.2.1).2.2; omega) (H21.out.2.2.1).1).mono ?_
    rintro e w' ⟨lp, rfl, hlp, hBlp, rfl⟩
    rw [(H21.out.2.2.1).2.1] at hBlp
    have HBlp := Lib.hid hBlp
    clear hBlp
    obtain rfl : lp = 0 := HBlp.out.2.2 ((Nat.eq_zero_or_pos X).elim (fun h => by rw [h, Nat.zero_mul]) (fun h => absurd (HBla.out.2.1 h).1 (by omega)))
    go_wp2_with (fail)
    refine (nawake_any _).mono ?_
    rintro e w99 ⟨rfl, b99⟩
    go_wp2_with (fail)
    go_ret
    exact ⟨rfl, H21.out.2.2.2.trans (b99.mono H21.out.2.2.2.size)⟩
  · have hlai : ((la : Int) == 0) = false := by simp; omega
    go_wp2_with (fail)
    refine (NLen_ok _ _ _ vs w21 (by have := (H21.out.2.1).2.2; omega) (H21.out.2.1).1).mono ?_
    rintro e w' ⟨lb, rfl, hlb, hBlb, rfl⟩
    rw [(H21.out.2.1).2.1] at hBlb
    have HBlb := Lib.hid hBlb
    clear hBlb
    rcases Nat.eq_zero_or_pos lb with hlb | hlb
    · subst hlb
      go_wp2_with (fail)
      refine (NLen_ok _ _ _ zs19 w21 (by have := (H21.out.2.2.1).2.2; omega) (H21.out.2.2.1).1).mono ?_
      rintro e w' ⟨lp, rfl, hlp, hBlp, rfl⟩
      rw [(H21.out.2.2.1).2.1] at hBlp
      have HBlp := Lib.hid hBlp
      clear hBlp
      obtain rfl : lp = 0 := HBlp.out.2.2 ((Nat.eq_zero_or_pos Y).elim (fun h => by rw [h, Nat.mul_zero]) (fun h => absurd (HBlb.out.2.1 h).1 (by omega)))
      go_wp2_with (fail)
      refine (nawake_any _).mono ?_
      rintro e w99 ⟨rfl, b99⟩
      go_wp2_with (fail)
      go_ret
      exact ⟨rfl, H21.out.2.2.2.trans (b99.mono H21.out.2.2.2.size)⟩
    · have hlbi : ((lb : Int) == 0) = false := by simp; omega
      go_wp2_with (fail)
      refine (NLen_ok _ _ _ zs19 w21 (by have := (H21.out.2.2.1).2.2; omega) (H21.out.2.2.1).1).mono ?_
      rintro e w' ⟨lp, rfl, hlp, hBlp, rfl⟩
      rw [(H21.out.2.2.1).2.1] at hBlp
      have HBlp := Lib.hid hBlp
      clear hBlp
      go_wp2_with (fail)
      refine (NLen_ok _ _ _ us w21 (by have := (H21.out.1).2.2; omega) (H21.out.1).1).mono ?_
      rintro e w' ⟨la2, rfl, hla2, hBla2, rfl⟩
      rw [(H21.out.1).2.1] at hBla2
      have HBla2 := Lib.hid hBla2
      clear hBla2
      obtain rfl : la2 = la := BL_uniq HBla2.out HBla.out
      go_wp2_with (fail)
      refine (NLen_ok _ _ _ vs w21 (by have := (H21.out.2.1).2.2; omega) (H21.out.2.1).1).mono ?_
      rintro e w' ⟨lb2, rfl, hlb2, hBlb2, rfl⟩
      rw [(H21.out.2.1).2.1] at hBlb2
      have HBlb2 := Lib.hid hBlb2
      clear hBlb2
      obtain rfl : lb2 = lb := BL_uniq HBlb2.out HBlb.out
      have hlen := len_mul HBla2.out HBlb2.out HBlp.out (by omega) (by omega)
      have hw1 : IntKind.i64.wrap ((la2 : Int) + (lb2 : Int)) = (la2 : Int) + (lb2 : Int) := IntWalk.i64_in _ (by omega)
      have hw2 : IntKind.i64.wrap ((la2 : Int) + (lb2 : Int) - 1) = (la2 : Int) + (lb2 : Int) - 1 := IntWalk.i64_in _ (by omega)
      have hcs : ((lp : Int) == (la2 : Int) + (lb2 : Int)) = true ∨ ((lp : Int) == (la2 : Int) + (lb2 : Int)) = false ∧ ((lp : Int) == (la2 : Int) + (lb2 : Int) - 1) = true := by
        rcases hlen with h | h
        · left; simp; omega
        · right; constructor
          · simp; omega
          · simp; omega
      clear hlen
      rcases hcs with h1 | ⟨h1, h2⟩
      · go_wp2_with (fail)
        refine (nawake_any _).mono ?_
        rintro e w99 ⟨rfl, b99⟩
        go_wp2_with (fail)
        go_ret
        exact ⟨rfl, H21.out.2.2.2.trans (b99.mono H21.out.2.2.2.size)⟩
      · go_wp2_with (fail)
        refine (nawake_any _).mono ?_
        rintro e w99 ⟨rfl, b99⟩
        go_wp2_with (fail)
        go_ret
        exact ⟨rfl, H21.out.2.2.2.trans (b99.mono H21.out.2.2.2.size)⟩
end Go.Proofs.Ytalcikmngglplaa.natPowersOfTwo
