/- The walk of the law NatDivides. -/
import Derived.Test.YtalcikmngglplaaZIt
import Derived.Test.YtalcikmngglplaaZLongC
import Derived.Test.YtalcikmngglplaaZRDvd
import Derived.Test.YtalcikmngglplaaP5
import Derived.OpenShut
namespace Go.Proofs.Ytalcikmngglplaa
open Go.RowKit
set_option linter.unusedVariables false
set_option linter.unusedSimpArgs false

theorem IsZero_ok (A : Option Addr) (n c : Nat) (xs : List Nat) (w : World) (hn : n ≤ 4096) (hx : Sl w A n c xs) :
    Calls Try.prog 30 #[.slice A n c] w fun e w' => e = .returned (.bool (decide (V xs = 0))) ∧ w = w' := by
  have Hx := Lib.hid hx
  obtain ⟨D, hD⟩ : ∃ D, decide (V xs = 0) = D := ⟨_, rfl⟩
  have HD := Lib.hid hD
  rw [hD]
  clear hx hD
  go_enter Try.func30, Try.ntmps30
  go_wp2_with (fail)
  refine (RLen_ok A n c xs w (by omega) Hx.out).mono ?_
  rintro e w1 ⟨l, rfl, hl, hBL, rfl⟩
  have HL := Lib.hid hBL
  clear hBL
  rcases Nat.eq_zero_or_pos l with h | h
  · subst h
    obtain rfl : D = true := by
      rw [← HD.out]
      refine decide_eq_true ?_
      rcases Nat.eq_zero_or_pos (V xs) with h1 | h1
      · exact h1
      · exact absurd (HL.out.2.1 h1).1 (by omega)
    go_wp2_with (fail)
    go_ret
    exact ⟨rfl, rfl⟩
  · have hli : ((l : Int) == 0) = false := by simp; omega
    obtain rfl : D = false := by rw [← HD.out]; exact decide_eq_false fun h1 => by have := HL.out.2.2 h1; omega
    go_wp2_with (fail)
    go_ret
    exact ⟨rfl, rfl⟩
end Go.Proofs.Ytalcikmngglplaa
namespace Go.Proofs.Ytalcikmngglplaa.natDivides
open Go.ChangeShapes Go.RowKit
set_option linter.unusedVariables false

set_option maxRecDepth 100000 in
set_option maxHeartbeats 8000000 in
theorem walk (w : World) (a0 : Option Addr) (n0 c0 : Nat) (xs : List Nat) (hx : Sl w a0 n0 c0 xs) (a1 : Option Addr) (n1 c1 : Nat) (ys : List Nat) (hy : Sl w a1 n1 c1 ys) (a2 : Int) (w2 : (Lit.int .u64 a2).wf = true) :
    Calls Try.prog 6 #[.slice a0 n0 c0, .slice a1 n1 c1, .int .u64 a2] w fun e w' => e = .returned (.bool true) ∧ Below w.heap.size w w' := by
  have Hx := Lib.hid (And.intro hx hy)
  have hb := bounds_u64 w2
  obtain ⟨d, rfl⟩ := Int.eq_ofNat_of_zero_le (show 0 ≤ a2 by omega)
  have hdB : d < B64 := by have : B64 = 18446744073709551616 := rfl; omega
  have HdB := Lib.hid hdB
  clear hx hy w2 hb hdB
  go_enter Try.func6, Try.ntmps6
  go_wp2_with (fail)
  refine (few_row _ _ _ 40 xs _ Hx.out.1 (by omega)).mono ?_
  rintro e w1 ⟨A1, k1, d1, us, rfl, hk1, hs3, -, -, hb1⟩
  have H1 := Lib.hid (And.intro hs3 (And.intro (Hx.out.2.below hb1) hb1))
  clear hs3 hb1
  go_wp2_with (fail)
  refine (few_row _ _ _ 40 ys _ H1.out.2.1 (by omega)).mono ?_
  rintro e w3 ⟨A2, k2, d2, vs, rfl, hk2, hs3, -, -, hb2⟩
  obtain ⟨X, hX⟩ : ∃ X, V us = X := ⟨_, rfl⟩
  obtain ⟨Y, hY⟩ : ∃ Y, V vs = Y := ⟨_, rfl⟩
  have HB := Lib.hid (show X < Big by rw [← hX]; exact Big_of H1.out.1.lt (by omega))
  have HYB := Lib.hid (show Y < Big by rw [← hY]; exact Big_of hs3.lt (by omega))
  have H3 : Hid (It w3 A1 k1 d1 us X ∧ It w3 A2 k2 d2 vs Y ∧ Below w.heap.size w w3) := ⟨⟨H1.out.1.below hb2, hX, by omega⟩, ⟨hs3, hY, by omega⟩, H1.out.2.2.trans (hb2.mono H1.out.2.2.size)⟩
  clear hs3 hb2 H1 hX hY Hx
  have hd : d = 0 ∨ 0 < d := Nat.eq_zero_or_pos d
  have hY : Y = 0 ∨ 0 < Y := Nat.eq_zero_or_pos Y
  rcases hY with hY0 | hY0
  · rcases hd with hd0 | hd0
    · subst hd0
      have HY : Hid (Y = 0) := hY0
      clear hY0
      go_wp2_with (fail)
      refine (NDivMod_zero _ _ _ _ _ _ us vs w3 (H3.out.1).2.2 (H3.out.2.1).2.2 (H3.out.1).1 (H3.out.2.1).1 (by rw [(H3.out.2.1).2.1]; exact HY.out)).mono ?_
      rintro e w11 ⟨rfl, b11⟩
      have H11 := Lib.hid (And.intro (H3.out.1.keep b11) (And.intro (H3.out.2.1.keep b11) (H3.out.2.2.trans (b11.mono H3.out.2.2.size))))
      clear b11 H3
      go_wp2_with (fail)
      refine (NDivWord_zero _ _ _ w11 (H11.out.1).2.2).mono ?_
      rintro e w12 ⟨rfl, b12⟩
      have H12 := Lib.hid (And.intro (H11.out.1.keep b12) (And.intro (H11.out.2.1.keep b12) (H11.out.2.2.trans (b12.mono H11.out.2.2.size))))
      clear b12 H11
      go_wp2_with (fail)
      refine (IsZero_ok _ _ _ vs w12 (H12.out.2.1).2.2 (H12.out.2.1).1).mono ?_
      rintro e w' ⟨rfl, rfl⟩
      rw [show decide (V vs = 0) = true by rw [(H12.out.2.1).2.1]; simp; have := HY.out; omega]
      go_wp2_with (fail)
      refine (nawake_any _).mono ?_
      rintro e w99 ⟨rfl, b99⟩
      go_wp2_with (fail)
      go_ret
      exact ⟨rfl, H12.out.2.2.trans (b99.mono H12.out.2.2.size)⟩
    · have hdi : ((d : Int) == 0) = false := by simp; omega
      have HY : Hid (Y = 0) := hY0
      clear hY0
      go_wp2_with (fail)
      refine (NDivMod_zero _ _ _ _ _ _ us vs w3 (H3.out.1).2.2 (H3.out.2.1).2.2 (H3.out.1).1 (H3.out.2.1).1 (by rw [(H3.out.2.1).2.1]; exact HY.out)).mono ?_
      rintro e w11 ⟨rfl, b11⟩
      have H11 := Lib.hid (And.intro (H3.out.1.keep b11) (And.intro (H3.out.2.1.keep b11) (H3.out.2.2.trans (b11.mono H3.out.2.2.size))))
      clear b11 H3
      go_wp2_with (fail)
      refine (NDivWord_ok _ _ _ us d w11 (H11.out.1).2.2 (H11.out.1).1 HdB.out hd0).mono ?_
      rintro e w12 ⟨v12, rr, rfl, hN12, hrr, b12⟩
      rw [(H11.out.1).2.1] at hN12 hrr
      obtain ⟨A12, n12, c12, zs12, rfl, h12⟩ := Nu.of hN12 b12 (Nat.lt_of_le_of_lt (Nat.div_le_self _ _) HB.out)
      have HC12 := Lib.hid h12.2.1
      have HRR := Lib.hid (And.intro hrr (show rr < B64 by rw [hrr]; exact Nat.lt_trans (Nat.mod_lt _ hd0) HdB.out))
      have H12 := Lib.hid (And.intro (H11.out.1.keep b12) (And.intro (H11.out.2.1.keep b12) (And.intro h12.it (H11.out.2.2.trans (b12.mono H11.out.2.2.size)))))
      clear hN12 hrr b12 h12 H11
      go_wp2_with (fail)
      refine (IsZero_ok _ _ _ vs w12 (H12.out.2.1).2.2 (H12.out.2.1).1).mono ?_
      rintro e w' ⟨rfl, rfl⟩
      rw [show decide (V vs = 0) = true by rw [(H12.out.2.1).2.1]; simp; have := HY.out; omega]
      have hWb := W1_below w12 d
      go_wp2_with (fail)
      refine (RDivMod_ok _ _ _ _ _ _ us [d] (W1 w12 d) (H12.out.1).2.2 (by omega) ((H12.out.1).1.below hWb) (Sl_one w12 d HdB.out) (by rw [V_one]; exact hd0)).mono ?_
      rintro e w13 ⟨v13, u13, rfl, hN13, hM13, b13⟩
      rw [V_one d, (H12.out.1).2.1] at hN13 hM13
      replace hN13 := hN13.base hWb.size
      replace hM13 := hM13.base hWb.size
      replace b13 := hWb.trans (b13.mono hWb.size)
      clear hWb
      obtain ⟨A13, n13, c13, zs13, rfl, h13⟩ := Nu.of hN13 b13 (Nat.lt_of_le_of_lt (Nat.div_le_self _ _) HB.out)
      obtain ⟨B13, m13, d13, ys13, rfl, g13⟩ := Nu.of hM13 b13 (Nat.lt_of_le_of_lt (Nat.mod_le _ _) HB.out)
      have H13 := Lib.hid (And.intro (H12.out.2.2.1.keep b13) (And.intro h13.it (And.intro g13.it (H12.out.2.2.2.trans (b13.mono H12.out.2.2.2.size)))))
      clear hN13 hM13 b13 h13 g13 H12
      go_wp2_with (fail)
      refine (Is_ok _ _ _ _ _ _ zs12 zs13 w13 (H13.out.1).2.2 (H13.out.2.1).2.2 (H13.out.1).1 (H13.out.2.1).1 HC12.out (by rw [(H13.out.1).2.1, (H13.out.2.1).2.1])).mono ?_
      rintro e w14 ⟨rfl, b14⟩
      have H14 := Lib.hid (And.intro (H13.out.2.2.1.keep b14) (H13.out.2.2.2.trans (b14.mono H13.out.2.2.2.size)))
      clear b14 H13
      have hWb := W1_below w14 rr
      go_wp2_with (fail)
      refine (RCmp_ok _ _ _ _ _ _ [rr] ys13 (W1 w14 rr) (by omega) (H14.out.1).2.2 (Sl_one w14 rr HRR.out.2) ((H14.out.1).1.below hWb)).mono ?_
      rintro e w15 ⟨rfl, b15⟩
      rw [V_one, (H14.out.1).2.1, HRR.out.1, cmpI_same]
      replace b15 := hWb.trans (b15.mono hWb.size)
      have H15 := Lib.hid (H14.out.2.trans (b15.mono H14.out.2.size))
      clear hWb b15 H14
      go_wp2_with (fail)
      refine (nawake_any _).mono ?_
      rintro e w99 ⟨rfl, b99⟩
      go_wp2_with (fail)
      go_ret
      exact ⟨rfl, H15.out.trans (b99.mono H15.out.size)⟩
  · rcases hd with hd0 | hd0
    · subst hd0
      have HY : Hid (0 < Y) := hY0
      clear hY0
      go_wp2_with (fail)
      refine (NDivMod_ok _ _ _ _ _ _ us vs w3 (H3.out.1).2.2 (H3.out.2.1).2.2 (H3.out.1).1 (H3.out.2.1).1 (by rw [(H3.out.2.1).2.1]; exact HY.out) (.inl longC)).mono ?_
      rintro e w11 ⟨v11, u11, rfl, hN11, hM11, b11⟩
      rw [(H3.out.1).2.1, (H3.out.2.1).2.1] at hN11 hM11
      obtain ⟨A11, n11, c11, zs11, rfl, h11⟩ := Nu.of hN11 b11 (Nat.lt_of_le_of_lt (Nat.div_le_self _ _) HB.out)
      obtain ⟨B11, m11, d11, ys11, rfl, g11⟩ := Nu.of hM11 b11 (Nat.lt_of_le_of_lt (Nat.mod_le _ _) HB.out)
      have HC11 := Lib.hid (And.intro h11.2.1 g11.2.1)
      have H11 := Lib.hid (And.intro (H3.out.1.keep b11) (And.intro (H3.out.2.1.keep b11) (And.intro h11.it (And.intro g11.it (H3.out.2.2.trans (b11.mono H3.out.2.2.size))))))
      clear hN11 hM11 b11 h11 g11 H3
      go_wp2_with (fail)
      refine (NDivWord_zero _ _ _ w11 (H11.out.1).2.2).mono ?_
      rintro e w12 ⟨rfl, b12⟩
      have H12 := Lib.hid (And.intro (H11.out.1.keep b12) (And.intro (H11.out.2.1.keep b12) (And.intro (H11.out.2.2.1.keep b12) (And.intro (H11.out.2.2.2.1.keep b12) (H11.out.2.2.2.2.trans (b12.mono H11.out.2.2.2.2.size))))))
      clear b12 H11
      go_wp2_with (fail)
      refine (IsZero_ok _ _ _ vs w12 (H12.out.2.1).2.2 (H12.out.2.1).1).mono ?_
      rintro e w' ⟨rfl, rfl⟩
      rw [show decide (V vs = 0) = false by rw [(H12.out.2.1).2.1]; simp; have := HY.out; omega]
      go_wp2_with (fail)
      refine (RDivMod_ok _ _ _ _ _ _ us vs w12 (H12.out.1).2.2 (H12.out.2.1).2.2 (H12.out.1).1 (H12.out.2.1).1 (by rw [(H12.out.2.1).2.1]; exact HY.out)).mono ?_
      rintro e w13 ⟨v13, u13, rfl, hN13, hM13, b13⟩
      rw [(H12.out.1).2.1, (H12.out.2.1).2.1] at hN13 hM13
      obtain ⟨A13, n13, c13, zs13, rfl, h13⟩ := Nu.of hN13 b13 (Nat.lt_of_le_of_lt (Nat.div_le_self _ _) HB.out)
      obtain ⟨B13, m13, d13, ys13, rfl, g13⟩ := Nu.of hM13 b13 (Nat.lt_of_le_of_lt (Nat.mod_le _ _) HB.out)
      have H13 := Lib.hid (And.intro (H12.out.1.keep b13) (And.intro (H12.out.2.2.1.keep b13) (And.intro (H12.out.2.2.2.1.keep b13) (And.intro h13.it (And.intro g13.it (H12.out.2.2.2.2.trans (b13.mono H12.out.2.2.2.2.size)))))))
      clear hN13 hM13 b13 h13 g13 H12
      go_wp2_with (fail)
      refine (Is_ok _ _ _ _ _ _ zs11 zs13 w13 (H13.out.2.1).2.2 (H13.out.2.2.2.1).2.2 (H13.out.2.1).1 (H13.out.2.2.2.1).1 HC11.out.1 (by rw [(H13.out.2.1).2.1, (H13.out.2.2.2.1).2.1])).mono ?_
      rintro e w14 ⟨rfl, b14⟩
      have H14 := Lib.hid (And.intro (H13.out.1.keep b14) (And.intro (H13.out.2.2.1.keep b14) (And.intro (H13.out.2.2.2.2.1.keep b14) (H13.out.2.2.2.2.2.trans (b14.mono H13.out.2.2.2.2.2.size)))))
      clear b14 H13
      go_wp2_with (fail)
      refine (Is_ok _ _ _ _ _ _ ys11 ys13 w14 (H14.out.2.1).2.2 (H14.out.2.2.1).2.2 (H14.out.2.1).1 (H14.out.2.2.1).1 HC11.out.2 (by rw [(H14.out.2.1).2.1, (H14.out.2.2.1).2.1])).mono ?_
      rintro e w15 ⟨rfl, b15⟩
      have H15 := Lib.hid (And.intro (H14.out.1.keep b15) (H14.out.2.2.2.trans (b15.mono H14.out.2.2.2.size)))
      clear b15 H14
      go_wp2_with (fail)
      refine (nawake_any _).mono ?_
      rintro e w99 ⟨rfl, b99⟩
      go_wp2_with (fail)
      go_ret
      exact ⟨rfl, H15.out.2.trans (b99.mono H15.out.2.size)⟩
    · have hdi : ((d : Int) == 0) = false := by simp; omega
      have HY : Hid (0 < Y) := hY0
      clear hY0
      go_wp2_with (fail)
      refine (NDivMod_ok _ _ _ _ _ _ us vs w3 (H3.out.1).2.2 (H3.out.2.1).2.2 (H3.out.1).1 (H3.out.2.1).1 (by rw [(H3.out.2.1).2.1]; exact HY.out) (.inl longC)).mono ?_
      rintro e w11 ⟨v11, u11, rfl, hN11, hM11, b11⟩
      rw [(H3.out.1).2.1, (H3.out.2.1).2.1] at hN11 hM11
      obtain ⟨A11, n11, c11, zs11, rfl, h11⟩ := Nu.of hN11 b11 (Nat.lt_of_le_of_lt (Nat.div_le_self _ _) HB.out)
      obtain ⟨B11, m11, d11, ys11, rfl, g11⟩ := Nu.of hM11 b11 (Nat.lt_of_le_of_lt (Nat.mod_le _ _) HB.out)
      have HC11 := Lib.hid (And.intro h11.2.1 g11.2.1)
      have H11 := Lib.hid (And.intro (H3.out.1.keep b11) (And.intro (H3.out.2.1.keep b11) (And.intro h11.it (And.intro g11.it (H3.out.2.2.trans (b11.mono H3.out.2.2.size))))))
      clear hN11 hM11 b11 h11 g11 H3
      go_wp2_with (fail)
      refine (NDivWord_ok _ _ _ us d w11 (H11.out.1).2.2 (H11.out.1).1 HdB.out hd0).mono ?_
      rintro e w12 ⟨v12, rr, rfl, hN12, hrr, b12⟩
      rw [(H11.out.1).2.1] at hN12 hrr
      obtain ⟨A12, n12, c12, zs12, rfl, h12⟩ := Nu.of hN12 b12 (Nat.lt_of_le_of_lt (Nat.div_le_self _ _) HB.out)
      have HC12 := Lib.hid h12.2.1
      have HRR := Lib.hid (And.intro hrr (show rr < B64 by rw [hrr]; exact Nat.lt_trans (Nat.mod_lt _ hd0) HdB.out))
      have H12 := Lib.hid (And.intro (H11.out.1.keep b12) (And.intro (H11.out.2.1.keep b12) (And.intro (H11.out.2.2.1.keep b12) (And.intro (H11.out.2.2.2.1.keep b12) (And.intro h12.it (H11.out.2.2.2.2.trans (b12.mono H11.out.2.2.2.2.size)))))))
      clear hN12 hrr b12 h12 H11
      go_wp2_with (fail)
      refine (IsZero_ok _ _ _ vs w12 (H12.out.2.1).2.2 (H12.out.2.1).1).mono ?_
      rintro e w' ⟨rfl, rfl⟩
      rw [show decide (V vs = 0) = false by rw [(H12.out.2.1).2.1]; simp; have := HY.out; omega]
      go_wp2_with (fail)
      refine (RDivMod_ok _ _ _ _ _ _ us vs w12 (H12.out.1).2.2 (H12.out.2.1).2.2 (H12.out.1).1 (H12.out.2.1).1 (by rw [(H12.out.2.1).2.1]; exact HY.out)).mono ?_
      rintro e w13 ⟨v13, u13, rfl, hN13, hM13, b13⟩
      rw [(H12.out.1).2.1, (H12.out.2.1).2.1] at hN13 hM13
      obtain ⟨A13, n13, c13, zs13, rfl, h13⟩ := Nu.of hN13 b13 (Nat.lt_of_le_of_lt (Nat.div_le_self _ _) HB.out)
      obtain ⟨B13, m13, d13, ys13, rfl, g13⟩ := Nu.of hM13 b13 (Nat.lt_of_le_of_lt (Nat.mod_le _ _) HB.out)
      have H13 := Lib.hid (And.intro (H12.out.1.keep b13) (And.intro (H12.out.2.2.1.keep b13) (And.intro (H12.out.2.2.2.1.keep b13) (And.intro (H12.out.2.2.2.2.1.keep b13) (And.intro h13.it (And.intro g13.it (H12.out.2.2.2.2.2.trans (b13.mono H12.out.2.2.2.2.2.size))))))))
      clear hN13 hM13 b13 h13 g13 H12
      go_wp2_with (fail)
      refine (Is_ok _ _ _ _ _ _ zs11 zs13 w13 (H13.out.2.1).2.2 (H13.out.2.2.2.2.1).2.2 (H13.out.2.1).1 (H13.out.2.2.2.2.1).1 HC11.out.1 (by rw [(H13.out.2.1).2.1, (H13.out.2.2.2.2.1).2.1])).mono ?_
      rintro e w14 ⟨rfl, b14⟩
      have H14 := Lib.hid (And.intro (H13.out.1.keep b14) (And.intro (H13.out.2.2.1.keep b14) (And.intro (H13.out.2.2.2.1.keep b14) (And.intro (H13.out.2.2.2.2.2.1.keep b14) (H13.out.2.2.2.2.2.2.trans (b14.mono H13.out.2.2.2.2.2.2.size))))))
      clear b14 H13
      go_wp2_with (fail)
      refine (Is_ok _ _ _ _ _ _ ys11 ys13 w14 (H14.out.2.1).2.2 (H14.out.2.2.2.1).2.2 (H14.out.2.1).1 (H14.out.2.2.2.1).1 HC11.out.2 (by rw [(H14.out.2.1).2.1, (H14.out.2.2.2.1).2.1])).mono ?_
      rintro e w15 ⟨rfl, b15⟩
      have H15 := Lib.hid (And.intro (H14.out.1.keep b15) (And.intro (H14.out.2.2.1.keep b15) (H14.out.2.2.2.2.trans (b15.mono H14.out.2.2.2.2.size))))
      clear b15 H14
      have hWb := W1_below w15 d
      go_wp2_with (fail)
      refine (RDivMod_ok _ _ _ _ _ _ us [d] (W1 w15 d) (H15.out.1).2.2 (by omega) ((H15.out.1).1.below hWb) (Sl_one w15 d HdB.out) (by rw [V_one]; exact hd0)).mono ?_
      rintro e w16 ⟨v16, u16, rfl, hN16, hM16, b16⟩
      rw [V_one d, (H15.out.1).2.1] at hN16 hM16
      replace hN16 := hN16.base hWb.size
      replace hM16 := hM16.base hWb.size
      replace b16 := hWb.trans (b16.mono hWb.size)
      clear hWb
      obtain ⟨A16, n16, c16, zs16, rfl, h16⟩ := Nu.of hN16 b16 (Nat.lt_of_le_of_lt (Nat.div_le_self _ _) HB.out)
      obtain ⟨B16, m16, d16, ys16, rfl, g16⟩ := Nu.of hM16 b16 (Nat.lt_of_le_of_lt (Nat.mod_le _ _) HB.out)
      have H16 := Lib.hid (And.intro (H15.out.2.1.keep b16) (And.intro h16.it (And.intro g16.it (H15.out.2.2.trans (b16.mono H15.out.2.2.size)))))
      clear hN16 hM16 b16 h16 g16 H15
      go_wp2_with (fail)
      refine (Is_ok _ _ _ _ _ _ zs12 zs16 w16 (H16.out.1).2.2 (H16.out.2.1).2.2 (H16.out.1).1 (H16.out.2.1).1 HC12.out (by rw [(H16.out.1).2.1, (H16.out.2.1).2.1])).mono ?_
      rintro e w17 ⟨rfl, b17⟩
      have H17 := Lib.hid (And.intro (H16.out.2.2.1.keep b17) (H16.out.2.2.2.trans (b17.mono H16.out.2.2.2.size)))
      clear b17 H16
      have hWb := W1_below w17 rr
      go_wp2_with (fail)
      refine (RCmp_ok _ _ _ _ _ _ [rr] ys16 (W1 w17 rr) (by omega) (H17.out.1).2.2 (Sl_one w17 rr HRR.out.2) ((H17.out.1).1.below hWb)).mono ?_
      rintro e w18 ⟨rfl, b18⟩
      rw [V_one, (H17.out.1).2.1, HRR.out.1, cmpI_same]
      replace b18 := hWb.trans (b18.mono hWb.size)
      have H18 := Lib.hid (H17.out.2.trans (b18.mono H17.out.2.size))
      clear hWb b18 H17
      go_wp2_with (fail)
      refine (nawake_any _).mono ?_
      rintro e w99 ⟨rfl, b99⟩
      go_wp2_with (fail)
      go_ret
      exact ⟨rfl, H18.out.trans (b99.mono H18.out.size)⟩
end Go.Proofs.Ytalcikmngglplaa.natDivides
