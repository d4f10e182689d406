/- The contract of fast.LowMul (of not too long numbers). -/
import Derived.Test.YthpgdpkemnhneaaGreatDoorZFLow
namespace Go.Proofs.YthpgdpkemnhneaaGreatDoor
open Go.RowKit Go.Shelf
set_option linter.unusedVariables false
set_option linter.unusedSimpArgs false
set_option maxRecDepth 10000

theorem low3 {X Y N h x0 x1 y0 y1 : Nat} (hx : X % B64 ^ N = x0 + x1 * B64 ^ h) (hy : Y % B64 ^ N = y0 + y1 * B64 ^ h) (hh : N ≤ 2 * h) :
    (x0 * y0 + x0 * y1 * B64 ^ h + x1 * y0 * B64 ^ h) % B64 ^ N = X * Y % B64 ^ N := by
  rw [Nat.mul_mod, hx, hy]
  have e1 : (x0 + x1 * B64 ^ h) * (y0 + y1 * B64 ^ h) = (x0 * y0 + x0 * y1 * B64 ^ h + x1 * y0 * B64 ^ h) + x1 * y1 * B64 ^ (2 * h) := by
    rw [show 2 * h = h + h by omega, Nat.pow_add]
    generalize B64 ^ h = p
    grind
  rw [e1]
  obtain ⟨d, hd⟩ : ∃ d, 2 * h = N + d := ⟨2 * h - N, by omega⟩
  rw [hd, Nat.pow_add, show x1 * y1 * (B64 ^ N * B64 ^ d) = B64 ^ N * (x1 * y1 * B64 ^ d) by
    generalize B64 ^ N = p
    generalize B64 ^ d = q
    grind, Nat.add_mul_mod_self_left]
def lterms (A B C : Option Addr) (n m k c d e : Nat) (xs ys zs : List Nat) (h : Nat) : List Tm := [tplus A n c xs 0, tplus B m d ys h, tplus C k e zs h]
theorem lterms_sum {A B C : Option Addr} {n m k c d e : Nat} {xs ys zs : List Nat} {h x y z : Nat} (hx : V xs = x) (hy : V ys = y) (hz : V zs = z) : tsum (lterms A B C n m k c d e xs ys zs h) = ((x + y * B64 ^ h + z * B64 ^ h : Nat) : Int) := by
  simp only [tsum, lterms, List.map_cons, List.map_nil, List.sum_cons, List.sum_nil, tval_plus, Nat.pow_zero, Nat.mul_one, hx, hy, hz]
  push_cast
  omega
theorem lsum_lt {x y z n1 n2 n3 h : Nat} (hx : x < B64 ^ n1) (hy : y < B64 ^ n2) (hz : z < B64 ^ n3) (h1 : n1 ≤ 100) (h2 : n2 ≤ 100) (h3 : n3 ≤ 100) : x + y * B64 ^ h + z * B64 ^ h < B64 ^ (h + 102) := by
  have a1 := Nat.lt_of_lt_of_le hx (Nat.pow_le_pow_right B64_pos h1)
  have a2 := Nat.lt_of_lt_of_le hy (Nat.pow_le_pow_right B64_pos h2)
  have a3 := Nat.lt_of_lt_of_le hz (Nat.pow_le_pow_right B64_pos h3)
  have hp : 0 < B64 ^ h := Nat.pow_pos B64_pos
  rw [show h + 102 = h + (100 + 2) by omega, Nat.pow_add, Nat.pow_add]
  have hb : B64 ^ 2 = 340282366920938463463374607431768211456 := by decide
  rw [hb]
  generalize B64 ^ 100 = q at *
  generalize B64 ^ h = p at *
  have b1 : x ≤ p * q := Nat.le_trans (Nat.le_of_lt a1) (Nat.le_mul_of_pos_left q hp)
  have b2 : y * p ≤ p * q := by rw [Nat.mul_comm]; exact Nat.mul_le_mul_left p (Nat.le_of_lt a2)
  have b3 : z * p ≤ p * q := by rw [Nat.mul_comm]; exact Nat.mul_le_mul_left p (Nat.le_of_lt a3)
  have b4 : 0 < p * q := Nat.mul_pos hp (by omega)
  rw [← Nat.mul_assoc]
  omega
theorem sgn_pos {s : Bool} {z R : Nat} (h1 : (R : Int) = sgn s z) (h2 : s = true → z ≠ 0) : s = false ∧ z = R := by
  cases s with
  | false => simp [sgn] at h1; exact ⟨rfl, by omega⟩
  | true => have := h2 rfl; simp [sgn] at h1; omega
theorem quick_row {w : World} {A A' : Option Addr} {n n' c c' : Nat} {xs ys : List Nat} (hn : n < 50) (hn' : n' < 50) (hx : Sl w A n c xs) (hy : Sl w A' n' c' ys) :
    Calls Tryz.prog 42 #[.slice A n c, .slice A' n' c'] w fun e w' => ∃ A1 n1 c1 zs, e = .returned (.slice A1 n1 c1) ∧ n1 ≤ 100 ∧ Sl w' A1 n1 c1 zs ∧ V zs = V xs * V ys ∧ Below w.heap.size w w' := by
  refine (quick_ok A A' n n' c c' xs ys w hn hn' hx hy).mono ?_
  rintro e w' ⟨v, rfl, h1, h2⟩
  obtain ⟨A1, n1, c1, zs, rfl, s1, s2, s3, -⟩ := h1.sl
  have hl : V zs < B64 ^ (n + n') := by rw [s3, Nat.pow_add]; exact Nat.mul_lt_mul'' hx.lt hy.lt
  have h3 := (Cn_len s1.2.2.2.1 s2 (n + n')).2 hl
  rw [s1.1] at h3
  exact ⟨A1, n1, c1, zs, rfl, by omega, s1, s3, h2⟩
set_option maxHeartbeats 4000000 in
theorem LowMul_ok (A A' : Option Addr) (n n' c c' N : Nat) (xs ys : List Nat) (w : World) (hn : n < 50) (hn' : n' < 50) (hN : N ≤ 4096) (hx : Sl w A n c xs) (hy : Sl w A' n' c' ys) :
    Calls Tryz.prog 14 #[.slice A n c, .slice A' n' c', .int .i64 (N : Int)] w fun e w' => ∃ v, e = .returned (.tuple #[v, .int .i64 0]) ∧ Nt w w' v (V xs * V ys % B64 ^ N) ∧ Below w.heap.size w w' := by
  have Hx := Lib.hid (And.intro hx hy)
  have HC := Lib.hid (chkS_two (A := A) (A' := A') (c := c) (c' := c') (show n ≤ 4096 by omega) (show n' ≤ 4096 by omega))
  obtain ⟨h, hh⟩ : ∃ h, h = (N + 1) / 2 := ⟨_, rfl⟩
  have hhi : ((N : Int) + 1) / 2 = (h : Int) := by omega
  have hhi2 : ((N : Int) + 1).tdiv 2 = (h : Int) := by rw [Int.tdiv_eq_ediv_of_nonneg (by omega)]; exact hhi
  have hw1 : IntKind.i64.wrap ((N : Int) + 1) = (N : Int) + 1 := IntWalk.i64_in _ (by omega)
  have hw2 : IntKind.i64.wrap (h : Int) = (h : Int) := IntWalk.i64_in _ (by omega)
  have HN := Lib.hid (show N ≤ 2 * h by omega)
  have hh3 : h ≤ 3000 := by omega
  have hN0 : ¬ (N : Int) < 0 := by omega
  have hN1 : ¬ (4096 : Int) < (N : Int) := by omega
  clear hx hy hh
  go_enter Tryz.func14, Tryz.ntmps14
  go_wp2_with (fail)
  refine (fcheck_two A A' n n' c c' _ _ w rfl).mono ?_
  rintro e w1 ⟨rfl, hb1⟩
  rw [HC.out]
  have H1 := Lib.hid (And.intro (Hx.out.1.below hb1) (And.intro (Hx.out.2.below hb1) hb1))
  clear hb1
  go_wp2_with (fail)
  refine (below_ok A n c N xs _ (by omega) hN H1.out.1).mono ?_
  rintro e w2 ⟨k, hk, hkN, rfl, hv, hcn, rfl⟩
  have HX := Lib.hid (And.intro hv (show Sc w1 A k c (xs.take k) from ⟨H1.out.1.tk hk, hcn⟩))
  clear hv hcn
  go_wp2_with (fail)
  refine (fhalves_ok A k c h (xs.take k) _ (by omega) (by omega) HX.out.2).mono ?_
  rintro e w2 ⟨⟨A1, k1, c1, l1, A2, k2, c2, l2, rfl, s1, s2, -, hk1, hk2, hv1, -⟩, d1, rfl⟩
  have HX1 := Lib.hid (And.intro s1 (And.intro s2 hv1))
  have hkk : k1 < 50 ∧ k2 < 50 := by omega
  obtain ⟨q1, q2⟩ := hkk
  clear s1 s2 hk1 hk2 hv1
  go_wp2_with (fail)
  refine (below_ok A' n' c' N ys _ (by omega) hN (show Sl (w1.drewN d1) _ _ _ _ from H1.out.2.1)).mono ?_
  rintro e w2 ⟨k', hk', hkN', rfl, hv, hcn, rfl⟩
  have HY := Lib.hid (And.intro hv (show Sc (w1.drewN d1) A' k' c' (ys.take k') from ⟨H1.out.2.1.tk hk', hcn⟩))
  clear hv hcn
  go_wp2_with (fail)
  refine (fhalves_ok A' k' c' h (ys.take k') _ (by omega) (by omega) HY.out.2).mono ?_
  rintro e w2 ⟨⟨A3, k3, c3, l3, A4, k4, c4, l4, rfl, s1, s2, -, hk1, hk2, hv1, -⟩, d2, rfl⟩
  have HY1 := Lib.hid (And.intro s1 (And.intro s2 hv1))
  have hkk : k3 < 50 ∧ k4 < 50 := by omega
  obtain ⟨q3, q4⟩ := hkk
  clear s1 s2 hk1 hk2 hv1
  obtain ⟨X, hX⟩ : ∃ X, (w1.drewN d1).drewN d2 = X := ⟨_, rfl⟩
  have hwX : Below w.heap.size w X := by rw [← hX]; exact ⟨H1.out.2.2.os, H1.out.2.2.tape, H1.out.2.2.output, H1.out.2.2.size, H1.out.2.2.block⟩
  have HR : Hid (Sl X A1 k1 c1 l1 ∧ Sl X A2 k2 c2 l2 ∧ Sl X A3 k3 c3 l3 ∧ Sl X A4 k4 c4 l4 ∧ Below w.heap.size w X) := by
    rw [← hX] at hwX ⊢
    exact ⟨HX1.out.1.1, HX1.out.2.1.1, HY1.out.1.1, HY1.out.2.1.1, hwX⟩
  have HM := Lib.hid (low3 (X := V xs) (Y := V ys) (HX.out.1.symm.trans HX1.out.2.2) (HY.out.1.symm.trans HY1.out.2.2) HN.out)
  rw [hX]
  clear hX hwX HX HX1 HY HY1 H1
  go_wp2_with (fail)
  refine (quick_row q1 q3 HR.out.1 HR.out.2.2.1).mono ?_
  rintro e w2 ⟨B1, n1, e1, z1, rfl, hn1, s1, v1, b2⟩
  have H2 := Lib.hid (And.intro b2 (And.intro s1 v1))
  clear b2 s1 v1
  go_wp2_with (fail)
  refine (placed_ok B1 n1 e1 0 _).mono ?_
  rintro e w3 ⟨rfl, b3⟩
  have H3 := Lib.hid (And.intro (H2.out.1.trans (b3.mono H2.out.1.size)) (And.intro (H2.out.2.1.below b3) H2.out.2.2))
  clear b3 H2
  go_wp2_with (fail)
  refine (quick_row q1 q4 (HR.out.1.below H3.out.1) (HR.out.2.2.2.1.below H3.out.1)).mono ?_
  rintro e w4 ⟨B2, n2, e2, z2, rfl, hn2, s2, v2, b4⟩
  have H4 := Lib.hid (And.intro (H3.out.1.trans (b4.mono H3.out.1.size)) (And.intro (H3.out.2.1.below b4) (And.intro H3.out.2.2 (And.intro s2 v2))))
  clear b4 s2 v2 H3
  go_wp2_with (fail)
  refine (placed_ok B2 n2 e2 (h : Int) _).mono ?_
  rintro e w5 ⟨rfl, b5⟩
  have H5 := Lib.hid (And.intro (H4.out.1.trans (b5.mono H4.out.1.size)) (And.intro (H4.out.2.1.below b5) (And.intro H4.out.2.2.1 (And.intro (H4.out.2.2.2.1.below b5) H4.out.2.2.2.2))))
  clear b5 H4
  go_wp2_with (fail)
  refine (quick_row q2 q3 (HR.out.2.1.below H5.out.1) (HR.out.2.2.1.below H5.out.1)).mono ?_
  rintro e w6 ⟨B3, n3, e3, z3, rfl, hn3, s3, v3, b6⟩
  have H6 := Lib.hid (And.intro (H5.out.1.trans (b6.mono H5.out.1.size)) (And.intro (H5.out.2.1.below b6) (And.intro H5.out.2.2.1 (And.intro (H5.out.2.2.2.1.below b6) (And.intro H5.out.2.2.2.2 (And.intro s3 v3))))))
  clear b6 s3 v3 H5
  go_wp2_with (fail)
  refine (placed_ok B3 n3 e3 (h : Int) _).mono ?_
  rintro e w7 ⟨rfl, b7⟩
  have H7 := Lib.hid (And.intro (HR.out.2.2.2.2.trans ((H6.out.1.trans (b7.mono H6.out.1.size)).mono HR.out.2.2.2.2.size)) (And.intro (H6.out.2.1.below b7) (And.intro H6.out.2.2.1 (And.intro (H6.out.2.2.2.1.below b7) (And.intro H6.out.2.2.2.2.1 (And.intro (H6.out.2.2.2.2.2.1.below b7) H6.out.2.2.2.2.2.2))))))
  clear b7 H6
  go_wp2_with (fail)
  refine (fsum_ok (lterms B1 B2 B3 n1 n2 n3 e1 e2 e3 z1 z2 z3 h) _ 3 3 50000 _ (by omega) (Tl.new rfl (by omega) rfl (by
    intro t ht
    simp only [lterms, List.mem_cons, List.not_mem_nil, or_false] at ht
    rcases ht with rfl | rfl | rfl
    · exact H7.out.2.1
    · exact H7.out.2.2.2.1
    · exact H7.out.2.2.2.2.2.1)) (by
    intro t ht
    simp only [lterms, List.mem_cons, List.not_mem_nil, or_false] at ht
    rcases ht with rfl | rfl | rfl <;> (simp only; omega)) (by omega) (by simp only [wsum, lterms, List.map_cons, List.map_nil]; decide)).mono ?_
  rintro e w8 ⟨s, A9, n9, c9, z9, rfl, hS, hb8⟩
  rw [lterms_sum H7.out.2.2.1 H7.out.2.2.2.2.1 H7.out.2.2.2.2.2.2] at hS
  have hb8' : Below w7.heap.size w7 w8 := ((Below.refl _ w7).alloc (Nat.le_refl _) _).trans (hb8.mono (by simp))
  have hpos : s = false ∧ V z9 = V l1 * V l3 + V l1 * V l4 * B64 ^ h + V l2 * V l3 * B64 ^ h := sgn_pos hS.2.2.1 hS.2.2.2
  have hbig : V z9 < B64 ^ (h + 102) := by
    rw [hpos.2, ← H7.out.2.2.1, ← H7.out.2.2.2.2.1, ← H7.out.2.2.2.2.2.2]
    exact lsum_lt (H7.out.2.1.lt) (H7.out.2.2.2.1.lt) (H7.out.2.2.2.2.2.1.lt) hn1 hn2 hn3
  have hsc := hS.1.sc hS.2.1
  have hn9 : n9 ≤ h + 102 := by
    have := (Cn_len hsc.1.2.2.2.1 hS.2.1 (h + 102)).2 hbig
    rw [hsc.1.1] at this
    exact this
  have H8 := Lib.hid (And.intro (show Nw w w8 (.slice A9 n9 c9) n9 z9 from hS.1.later (by have := H7.out.1.size; simp; omega) (Below.refl _ _)) (And.intro hpos.2 (And.intro (H7.out.1.trans (hb8'.mono H7.out.1.size)) hsc.1)))
  obtain rfl := hpos.1
  clear hS hb8 hb8' H7 hpos hbig hsc
  go_wp2_with (fail)
  have hal : Below w8.heap.size w8 (w8.alloc (.cells #[.bool false, .slice A9 n9 c9] 59)) := (Below.refl _ _).alloc (Nat.le_refl _) _
  refine (below_ok A9 n9 c9 N z9 _ (by omega) hN (H8.out.2.2.2.below hal)).mono ?_
  rintro e w9 ⟨k9, hk9, -, rfl, hv9, hc9, rfl⟩
  have H9 := Lib.hid (And.intro ((H8.out.1.later (Nat.le_refl _) hal).tk hk9) (And.intro hv9 (And.intro hc9 (H8.out.2.2.1.trans (hal.mono H8.out.2.2.1.size)))))
  clear hal hv9 hc9
  go_wp2_with (fail)
  go_ret2
  refine ⟨_, rfl, ⟨k9, z9.take k9, H9.out.1, H9.out.2.2.1, ?_⟩, H9.out.2.2.2⟩
  rw [H9.out.2.1, H8.out.2.1]
  exact HM.out
end Go.Proofs.YthpgdpkemnhneaaGreatDoor
