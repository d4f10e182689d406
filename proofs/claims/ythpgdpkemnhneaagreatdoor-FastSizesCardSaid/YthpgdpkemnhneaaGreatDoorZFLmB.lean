/- fast.LowMul at long numbers of one kind: a power of B by a power of B less 1. -/
import Derived.Test.YthpgdpkemnhneaaGreatDoorZFBig
namespace Go.Proofs.YthpgdpkemnhneaaGreatDoor
open Go.RowKit Go.Shelf
set_option linter.unusedVariables false
set_option linter.unusedSimpArgs false
set_option maxRecDepth 10000

set_option maxHeartbeats 2000000 in
theorem quick_short (A A' : Option Addr) (n n' c c' : Nat) (xs ys : List Nat) (w : World) (hn : n ≤ 4096) (hn' : n' ≤ 4096) (hm : n < 50 ∨ n' < 50) (hx : Sl w A n c xs) (hy : Sl w A' n' c' ys) (hlt : V xs * V ys < Big) :
    Calls Tryz.prog 42 #[.slice A n c, .slice A' n' c'] w fun e w' => Rv w w' e (V xs * V ys) := by
  have Hx := Lib.hid (And.intro hx hy)
  have HL := Lib.hid hlt
  clear hx hy hlt
  by_cases hlt : n < n'
  · have hli : (n : Int) < (n' : Int) := by omega
    have hni : (n : Int) < 50 := by omega
    go_enter Tryz.func42, Tryz.ntmps42
    go_wp2_with (fail)
    have hbX : Below w.heap.size w (w.alloc (.cells #[.slice A n c] 23)).drew := below_dr ((Below.refl _ _).alloc (Nat.le_refl _) _)
    have hcell : (w.alloc (.cells #[.slice A n c] 23)).drew.cell? ⟨w.heap.size, 0, none⟩ = some (.slice A n c) := by simp
    go_region_held3 (fun w' => w'.cell? ⟨w.heap.size, 0, none⟩ = some (.slice A n c)) (first | exact hcell | exact hc2 | go_keep)
      (first
        | (go_at_call 78; refine (quickest_ok _ (by omega) _).mono ?_; rintro e w1 ⟨rfl, rfl⟩)
        | (go_at_call 69; refine (school_ok 50 _ _ _ _ _ _ ys xs _ (by omega) (by omega) (Hx.out.2.below hbX) (Hx.out.1.below hbX) (by rw [Nat.mul_comm]; exact HL.out)).mono ?_; rintro e w2 ⟨v, rfl, hN, hb⟩; have hc2 := (hb.cell (p := ⟨w.heap.size, 0, none⟩) (World.block_lt_of_cell? _ _ hcell)).trans hcell; have H := Lib.hid (And.intro hN (And.intro hb hbX)); clear hN hb))
    all_goals
      go_wp2_with (fail)
      go_ret
      rw [Nat.mul_comm]
      exact ⟨v, rfl, H.out.1.base H.out.2.2.size, H.out.2.2.trans (H.out.2.1.mono H.out.2.2.size)⟩
  · have hli : ¬ (n : Int) < (n' : Int) := by omega
    have hni : (n' : Int) < 50 := by omega
    go_enter Tryz.func42, Tryz.ntmps42
    go_wp2_with (fail)
    have hbX : Below w.heap.size w (w.alloc (.cells #[.slice A' n' c'] 23)).drew := below_dr ((Below.refl _ _).alloc (Nat.le_refl _) _)
    have hcell : (w.alloc (.cells #[.slice A' n' c'] 23)).drew.cell? ⟨w.heap.size, 0, none⟩ = some (.slice A' n' c') := by simp
    go_region_held3 (fun w' => w'.cell? ⟨w.heap.size, 0, none⟩ = some (.slice A' n' c')) (first | exact hcell | exact hc2 | go_keep)
      (first
        | (go_at_call 78; refine (quickest_ok _ (by omega) _).mono ?_; rintro e w1 ⟨rfl, rfl⟩)
        | (go_at_call 69; refine (school_ok 50 _ _ _ _ _ _ xs ys _ (by omega) (by omega) (Hx.out.1.below hbX) (Hx.out.2.below hbX) HL.out).mono ?_; rintro e w2 ⟨v, rfl, hN, hb⟩; have hc2 := (hb.cell (p := ⟨w.heap.size, 0, none⟩) (World.block_lt_of_cell? _ _ hcell)).trans hcell; have H := Lib.hid (And.intro hN (And.intro hb hbX)); clear hN hb))
    all_goals
      go_wp2_with (fail)
      go_ret
      exact ⟨v, rfl, H.out.1.base H.out.2.2.size, H.out.2.2.trans (H.out.2.1.mono H.out.2.2.size)⟩
theorem Sc.short {w : World} {A : Option Addr} {n c k : Nat} {xs : List Nat} (h : Sc w A n c xs) (hv : V xs < B64 ^ k) : n ≤ k := by
  have := (Cn_len h.1.2.2.2.1 h.2 k).2 hv
  rw [h.1.1] at this
  exact this
theorem Sc.long {w : World} {A : Option Addr} {n c k : Nat} {xs : List Nat} (h : Sc w A n c xs) (hv : B64 ^ k ≤ V xs) : k < n := by
  rcases Nat.lt_or_ge k n with h1 | h1
  · exact h1
  · have h2 := h.1.lt
    have h3 := Nat.pow_le_pow_right B64_pos h1
    omega
/-- what the halves are -/
theorem half_low {x l1 l2 h : Nat} (hx : x = l1 + l2 * B64 ^ h) (h1 : l1 < B64 ^ h) : l1 = x % B64 ^ h := by
  rw [hx, Nat.add_mul_mod_self_right, Nat.mod_eq_of_lt h1]
theorem pow_low {N h : Nat} (hh : h ≤ N) : B64 ^ N % B64 ^ h = 0 := by
  rw [show N = h + (N - h) by omega, Nat.pow_add, Nat.mul_mod_right]
theorem ones_low {L h : Nat} (hh : h ≤ L) : (B64 ^ L - 1) % B64 ^ h = B64 ^ h - 1 := by
  have hp : 0 < B64 ^ h := Nat.pow_pos B64_pos
  have hq : 0 < B64 ^ (L - h) := Nat.pow_pos B64_pos
  have e : B64 ^ L - 1 = (B64 ^ h - 1) + (B64 ^ (L - h) - 1) * B64 ^ h := by
    rw [show L = (L - h) + h by omega, Nat.pow_add, show (L - h + h - h) = L - h by omega, Nat.sub_mul, Nat.one_mul]
    have := Nat.le_mul_of_pos_left (B64 ^ h) hq
    omega
  rw [e, Nat.add_mul_mod_self_right, Nat.mod_eq_of_lt (by omega)]
theorem low_fin {N M : Nat} (hN : 1 ≤ N) (hM : 1 ≤ M) : B64 ^ (N - 1) * (B64 ^ M - 1) % B64 ^ N = (B64 - 1) * B64 ^ (N - 1) := by
  have hp : 0 < B64 ^ (N - 1) := Nat.pow_pos B64_pos
  have e1 : B64 ^ N = B64 * B64 ^ (N - 1) := by rw [show N = (N - 1) + 1 by omega, Nat.pow_succ, Nat.mul_comm, show N - 1 + 1 - 1 = N - 1 by omega]
  have e2 : B64 ^ M = B64 * B64 ^ (M - 1) := by rw [show M = (M - 1) + 1 by omega, Nat.pow_succ, Nat.mul_comm, show M - 1 + 1 - 1 = M - 1 by omega]
  have hq : 0 < B64 ^ (M - 1) := Nat.pow_pos B64_pos
  rw [e1, e2]
  generalize B64 ^ (N - 1) = p at *
  generalize B64 ^ (M - 1) = q at *
  have e3 : p * (B64 * q - 1) = (B64 - 1) * p + (q - 1) * (B64 * p) := by
    obtain ⟨q', rfl⟩ : ∃ q', q = q' + 1 := ⟨q - 1, by omega⟩
    have hB : 1 ≤ B64 := by decide
    obtain ⟨b, hb⟩ : ∃ b, B64 = b + 1 := ⟨B64 - 1, by omega⟩
    rw [hb, Nat.add_sub_cancel, Nat.add_sub_cancel, show (b + 1) * (q' + 1) - 1 = b + (b + 1) * q' by rw [Nat.mul_succ]; omega]
    grind
  rw [e3, Nat.add_mul_mod_self_right, Nat.mod_eq_of_lt]
  exact Nat.mul_lt_mul_of_pos_right (by decide) hp
theorem quick_rowS {w : World} {A A' : Option Addr} {n n' c c' : Nat} {xs ys : List Nat} (hn' : n' ≤ 4096) (hz : V xs = 0) (hx : Sc w A n c xs) (hy : Sc w A' n' c' ys) :
    Calls Tryz.prog 42 #[.slice A n c, .slice A' n' c'] w fun e w' => ∃ A1 n1 c1 zs, e = .returned (.slice A1 n1 c1) ∧ n1 ≤ 4096 ∧ Sl w' A1 n1 c1 zs ∧ V zs = V xs * V ys ∧ Below w.heap.size w w' := by
  have h0 := hx.short (k := 0) (by rw [hz]; decide)
  refine (quick_short A A' n n' c c' xs ys w (by omega) hn' (.inl (by omega)) hx.1 hy.1 (by rw [hz, Nat.zero_mul]; exact Nat.pow_pos B64_pos)).mono ?_
  rintro e w' ⟨v, rfl, h1, h2⟩
  obtain ⟨A1, n1, c1, zs, rfl, s1, s2, s3, -⟩ := h1.sl
  have h3 := (show Sc w' A1 n1 c1 zs from ⟨s1, s2⟩).short (k := 0) (by rw [s3, hz, Nat.zero_mul]; decide)
  exact ⟨A1, n1, c1, zs, rfl, by omega, s1, s3, h2⟩
theorem quick_rowL {w : World} {A A' : Option Addr} {n n' c c' : Nat} {xs ys : List Nat} (hn : 80 ≤ n) (hn' : 80 ≤ n') (h1 : n < 2 * n') (h2 : n' < 2 * n) (hs : n + n' ≤ 4096) (hx : Sc w A n c xs) (hy : Sc w A' n' c' ys) (hT : TabF w) :
    Calls Tryz.prog 42 #[.slice A n c, .slice A' n' c'] w fun e w' => ∃ A1 n1 c1 zs, e = .returned (.slice A1 n1 c1) ∧ n1 ≤ 4096 ∧ Sl w' A1 n1 c1 zs ∧ V zs = V xs * V ys ∧ Below w.heap.size w w' := by
  refine (quick_toom A A' n n' c c' xs ys w hn hn' h1 h2 (by omega) hx hy hT).mono ?_
  rintro e w' ⟨v, rfl, h1, h2⟩
  obtain ⟨A1, n1, c1, zs, rfl, s1, s2, s3, -⟩ := h1.sl
  have hl : V zs < B64 ^ (n + n') := by rw [s3, Nat.pow_add]; exact Nat.mul_lt_mul'' hx.1.lt hy.1.lt
  have h3 := (show Sc w' A1 n1 c1 zs from ⟨s1, s2⟩).short hl
  exact ⟨A1, n1, c1, zs, rfl, by omega, s1, s3, h2⟩
set_option maxHeartbeats 4000000 in
theorem LowMul_ones (A A' : Option Addr) (n n' c c' N M : Nat) (xs ys : List Nat) (w : World) (hN1 : 2001 ≤ N) (hN2 : N ≤ 2050) (hM1 : 2047 ≤ M) (hM2 : M ≤ 2096) (hn : n ≤ 4096) (hn' : n' ≤ 4096) (hx : Sl w A n c xs) (hy : Sl w A' n' c' ys) (hvx : V xs = B64 ^ (N - 1)) (hvy : V ys = B64 ^ M - 1) (hT : TabF w) :
    Calls Tryz.prog 14 #[.slice A n c, .slice A' n' c', .int .i64 (N : Int)] w fun e w' => ∃ v, e = .returned (.tuple #[v, .int .i64 0]) ∧ Nt w w' v ((B64 - 1) * B64 ^ (N - 1)) ∧ Below w.heap.size w w' := by
  have Hx := Lib.hid (And.intro hx (And.intro hy (And.intro hvx (And.intro hvy hT))))
  have HC := Lib.hid (chkS_two (A := A) (A' := A') (c := c) (c' := c') hn hn')
  obtain ⟨h, hh⟩ : ∃ h, h = (N + 1) / 2 := ⟨_, rfl⟩
  have hhi : ((N : Int) + 1) / 2 = (h : Int) := by omega
  have hhi2 : ((N : Int) + 1).tdiv 2 = (h : Int) := by rw [Int.tdiv_eq_ediv_of_nonneg (by omega)]; exact hhi
  have hw1 : IntKind.i64.wrap ((N : Int) + 1) = (N : Int) + 1 := IntWalk.i64_in _ (by omega)
  have hw2 : IntKind.i64.wrap (h : Int) = (h : Int) := IntWalk.i64_in _ (by omega)
  have HN := Lib.hid (show N ≤ 2 * h by omega)
  have hh3 : h ≤ 1025 := by omega
  have hh4 : 1001 ≤ h := by omega
  have hh5 : N ≤ 2 * h ∧ 2 * h ≤ N + 1 := by omega
  have hN0 : ¬ (N : Int) < 0 := by omega
  have hN1' : ¬ (4096 : Int) < (N : Int) := by omega
  clear hx hy hh hvx hvy hT
  go_enter Tryz.func14, Tryz.ntmps14
  go_wp2_with (fail)
  refine (fcheck_two A A' n n' c c' _ _ w rfl).mono ?_
  rintro e w1 ⟨rfl, hb1⟩
  rw [HC.out]
  have H1 := Lib.hid (And.intro (Hx.out.1.below hb1) (And.intro (Hx.out.2.1.below hb1) (And.intro (Hx.out.2.2.2.2.below hb1) hb1)))
  clear hb1
  go_wp2_with (fail)
  refine (below_ok A n c N xs _ (by omega) (by omega) H1.out.1).mono ?_
  rintro e w2 ⟨k, hk, hkN, rfl, hv, hcn, rfl⟩
  have HX := Lib.hid (And.intro hv (show Sc w1 A k c (xs.take k) from ⟨H1.out.1.tk hk, hcn⟩))
  have hv' : V (xs.take k) = B64 ^ (N - 1) := by rw [hv, Hx.out.2.2.1, Nat.mod_eq_of_lt (Nat.pow_lt_pow_right B64_one (by omega))]
  have hkN2 : k = N := by
    have := HX.out.2.long (k := N - 1) (by rw [hv']; exact Nat.le_refl _)
    omega
  have hk4096 : k ≤ 4096 := by omega
  have HKN := Lib.hid (And.intro hkN2 hv')
  clear hcn hv hkN2 hv'
  go_wp2_with (fail)
  refine (fhalves_ok A k c h (xs.take k) _ (by omega) (by omega) HX.out.2).mono ?_
  rintro e w2 ⟨⟨A1, k1, c1, l1, A2, k2, c2, l2, rfl, s1, s2, hk1h, hk1, hk2, hv1, -⟩, d1, rfl⟩
  have hl1 : V l1 = 0 := by
    rw [half_low hv1 (Nat.lt_of_lt_of_le s1.1.lt (Nat.pow_le_pow_right B64_pos hk1h)), HKN.out.2]
    exact pow_low (by omega)
  have HX1 := Lib.hid (And.intro s1 (And.intro s2 (And.intro hv1 hl1)))
  have HK2 := Lib.hid (show k2 = N - h by have := HKN.out.1; omega)
  clear s1 s2 hk1 hk2 hv1 hk1h hl1
  go_wp2_with (fail)
  refine (below_ok A' n' c' N ys _ (by omega) (by omega) (show Sl (w1.drewN d1) _ _ _ _ from H1.out.2.1)).mono ?_
  rintro e w2 ⟨k', hk', hkN', rfl, hv, hcn, rfl⟩
  have HY := Lib.hid (And.intro hv (show Sc (w1.drewN d1) A' k' c' (ys.take k') from ⟨H1.out.2.1.tk hk', hcn⟩))
  obtain ⟨L, hL1, hL2, hL3⟩ : ∃ L, V (ys.take k') = B64 ^ L - 1 ∧ 1100 ≤ L ∧ L ≤ 2096 := by
    rcases Nat.lt_or_ge M N with h1 | h1
    · refine ⟨M, ?_, by omega, by omega⟩
      rw [hv, Hx.out.2.2.2.1, Nat.mod_eq_of_lt]
      have := Nat.pow_lt_pow_right B64_one h1
      have := Nat.pow_pos (n := M) B64_pos
      omega
    · exact ⟨N, by rw [hv, Hx.out.2.2.2.1, ones_low h1], by omega, by omega⟩
  have hk'4096 : k' ≤ 4096 := by omega
  have HL := Lib.hid (And.intro hL1 (And.intro hL2 hL3))
  clear hcn hv hL1 hL2 hL3
  go_wp2_with (fail)
  refine (fhalves_ok A' k' c' h (ys.take k') _ (by omega) (by omega) HY.out.2).mono ?_
  rintro e w2 ⟨⟨A3, k3, c3, l3, A4, k4, c4, l4, rfl, s1, s2, hk3h, hk3, hk4, hv1, -⟩, d2, rfl⟩
  have hl3 : V l3 = B64 ^ h - 1 := by
    rw [half_low hv1 (Nat.lt_of_lt_of_le s1.1.lt (Nat.pow_le_pow_right B64_pos hk3h)), HL.out.1]
    exact ones_low (by have := HL.out.2.1; omega)
  have hk3' : k3 = h := by
    have h1 : B64 ^ (h - 1) ≤ V l3 := by
      rw [hl3]
      have := Nat.pow_lt_pow_right B64_one (show h - 1 < h by omega)
      omega
    have := s1.long h1
    omega
  have hk4' : k4 ≤ 4096 := by omega
  have HY1 := Lib.hid (And.intro s1 (And.intro s2 hv1))
  clear s1 s2 hk3 hk4 hv1 hk3h hl3
  obtain ⟨X, hX⟩ : ∃ X, (w1.drewN d1).drewN d2 = X := ⟨_, rfl⟩
  have hwX : Below w.heap.size w X := by rw [← hX]; exact ⟨H1.out.2.2.2.os, H1.out.2.2.2.tape, H1.out.2.2.2.output, H1.out.2.2.2.size, H1.out.2.2.2.block⟩
  have HR : Hid (Sc X A1 k1 c1 l1 ∧ Sc X A2 k2 c2 l2 ∧ Sc X A3 k3 c3 l3 ∧ Sc X A4 k4 c4 l4 ∧ Below w.heap.size w X ∧ TabF X ∧ V l1 = 0) := by
    rw [← hX] at hwX ⊢
    exact Lib.hid ⟨⟨HX1.out.1.1, HX1.out.1.2⟩, ⟨HX1.out.2.1.1, HX1.out.2.1.2⟩, ⟨HY1.out.1.1, HY1.out.1.2⟩, ⟨HY1.out.2.1.1, HY1.out.2.1.2⟩, hwX, H1.out.2.2.1, HX1.out.2.2.2⟩
  have HM := Lib.hid ((low3 (X := V xs) (Y := V ys) (HX.out.1.symm.trans HX1.out.2.2.1) (HY.out.1.symm.trans HY1.out.2.2) HN.out).trans (show V xs * V ys % B64 ^ N = (B64 - 1) * B64 ^ (N - 1) from by rw [Hx.out.2.2.1, Hx.out.2.2.2.1]; exact low_fin (by omega) (by omega)))
  have hk2' := HK2.out
  have q2 : 80 ≤ k2 := by omega
  have q3 : 80 ≤ k3 := by omega
  have q23 : k2 < 2 * k3 := by omega
  have q32 : k3 < 2 * k2 := by omega
  have qs : k2 + k3 ≤ 4096 := by omega
  have q3' : k3 ≤ 4096 := by omega
  rw [hX]
  clear hX hwX HX HX1 HY HY1 H1 hk2' hk3'
  go_wp2_with (fail)
  refine (quick_rowS q3' HR.out.2.2.2.2.2.2 HR.out.1 HR.out.2.2.1).mono ?_
  rintro e w2 ⟨B1, n1, e1, z1, rfl, hn1, s1, v1, b2⟩
  have H2 := Lib.hid (And.intro b2 (And.intro s1 v1))
  clear b2 s1 v1
  go_wp2_with (fail)
  refine (placed_ok B1 n1 e1 0 _).mono ?_
  rintro e w3 ⟨rfl, b3⟩
  have H3 := Lib.hid (And.intro (H2.out.1.trans (b3.mono H2.out.1.size)) (And.intro (H2.out.2.1.below b3) H2.out.2.2))
  clear b3 H2
  go_wp2_with (fail)
  refine (quick_rowS hk4' HR.out.2.2.2.2.2.2 (HR.out.1.below H3.out.1) (HR.out.2.2.2.1.below H3.out.1)).mono ?_
  rintro e w4 ⟨B2, n2, e2, z2, rfl, hn2, s2, v2, b4⟩
  have H4 := Lib.hid (And.intro (H3.out.1.trans (b4.mono H3.out.1.size)) (And.intro (H3.out.2.1.below b4) (And.intro H3.out.2.2 (And.intro s2 v2))))
  clear b4 s2 v2 H3
  go_wp2_with (fail)
  refine (placed_ok B2 n2 e2 (h : Int) _).mono ?_
  rintro e w5 ⟨rfl, b5⟩
  have H5 := Lib.hid (And.intro (H4.out.1.trans (b5.mono H4.out.1.size)) (And.intro (H4.out.2.1.below b5) (And.intro H4.out.2.2.1 (And.intro (H4.out.2.2.2.1.below b5) H4.out.2.2.2.2))))
  clear b5 H4
  go_wp2_with (fail)
  refine (quick_rowL q2 q3 q23 q32 qs (HR.out.2.1.below H5.out.1) (HR.out.2.2.1.below H5.out.1) (HR.out.2.2.2.2.2.1.below H5.out.1)).mono ?_
  rintro e w6 ⟨B3, n3, e3, z3, rfl, hn3, s3, v3, b6⟩
  have H6 := Lib.hid (And.intro (H5.out.1.trans (b6.mono H5.out.1.size)) (And.intro (H5.out.2.1.below b6) (And.intro H5.out.2.2.1 (And.intro (H5.out.2.2.2.1.below b6) (And.intro H5.out.2.2.2.2 (And.intro s3 v3))))))
  clear b6 s3 v3 H5
  go_wp2_with (fail)
  refine (placed_ok B3 n3 e3 (h : Int) _).mono ?_
  rintro e w7 ⟨rfl, b7⟩
  have H7 := Lib.hid (And.intro (HR.out.2.2.2.2.1.trans ((H6.out.1.trans (b7.mono H6.out.1.size)).mono HR.out.2.2.2.2.1.size)) (And.intro (H6.out.2.1.below b7) (And.intro H6.out.2.2.1 (And.intro (H6.out.2.2.2.1.below b7) (And.intro H6.out.2.2.2.2.1 (And.intro (H6.out.2.2.2.2.2.1.below b7) H6.out.2.2.2.2.2.2))))))
  clear b7 H6
  go_wp2_with (fail)
  refine (fsum_ok (lterms B1 B2 B3 n1 n2 n3 e1 e2 e3 z1 z2 z3 h) _ 3 3 50000 _ (by omega) (Tl.new rfl (by omega) rfl (by
    intro t ht
    simp only [lterms, List.mem_cons, List.not_mem_nil, or_false] at ht
    rcases ht with rfl | rfl | rfl
    · exact H7.out.2.1
    · exact H7.out.2.2.2.1
    · exact H7.out.2.2.2.2.2.1)) (by
    intro t ht
    simp only [lterms, List.mem_cons, List.not_mem_nil, or_false] at ht
    rcases ht with rfl | rfl | rfl <;> (simp only; omega)) (by omega) (by simp only [wsum, lterms, List.map_cons, List.map_nil]; decide)).mono ?_
  rintro e w8 ⟨s, A9, n9, c9, z9, rfl, hS, hb8⟩
  rw [lterms_sum H7.out.2.2.1 H7.out.2.2.2.2.1 H7.out.2.2.2.2.2.2] at hS
  have hb8' : Below w7.heap.size w7 w8 := ((Below.refl _ w7).alloc (Nat.le_refl _) _).trans (hb8.mono (by simp))
  have hpos : s = false ∧ V z9 = V l1 * V l3 + V l1 * V l4 * B64 ^ h + V l2 * V l3 * B64 ^ h := sgn_pos hS.2.2.1 hS.2.2.2
  have hbig : V z9 < B64 ^ (n3 + h) := by
    rw [hpos.2, HR.out.2.2.2.2.2.2, Nat.zero_mul, Nat.zero_mul, Nat.zero_mul, Nat.zero_add, ← H7.out.2.2.2.2.2.2, Nat.pow_add]
    exact Nat.mul_lt_mul_of_pos_right H7.out.2.2.2.2.2.1.lt (Nat.pow_pos B64_pos)
  have hsc := hS.1.sc hS.2.1
  have hn9 : n9 ≤ 4096 + h := by
    have := (Cn_len hsc.1.2.2.2.1 hS.2.1 (n3 + h)).2 hbig
    rw [hsc.1.1] at this
    omega
  have H8 := Lib.hid (And.intro (show Nw w w8 (.slice A9 n9 c9) n9 z9 from hS.1.later (by have := H7.out.1.size; simp; omega) (Below.refl _ _)) (And.intro hpos.2 (And.intro (H7.out.1.trans (hb8'.mono H7.out.1.size)) hsc.1)))
  obtain rfl := hpos.1
  clear hS hb8 hb8' H7 hpos hbig hsc
  go_wp2_with (fail)
  have hal : Below w8.heap.size w8 (w8.alloc (.cells #[.bool false, .slice A9 n9 c9] 59)) := (Below.refl _ _).alloc (Nat.le_refl _) _
  refine (below_ok A9 n9 c9 N z9 _ (by omega) (by omega) (H8.out.2.2.2.below hal)).mono ?_
  rintro e w9 ⟨k9, hk9, -, rfl, hv9, hc9, rfl⟩
  have H9 := Lib.hid (And.intro ((H8.out.1.later (Nat.le_refl _) hal).tk hk9) (And.intro hv9 (And.intro hc9 (H8.out.2.2.1.trans (hal.mono H8.out.2.2.1.size)))))
  clear hal hv9 hc9
  go_wp2_with (fail)
  go_ret2
  refine ⟨_, rfl, ⟨k9, z9.take k9, H9.out.1, H9.out.2.2.1, ?_⟩, H9.out.2.2.2⟩
  rw [H9.out.2.1, H8.out.2.1]
  exact HM.out
end Go.Proofs.YthpgdpkemnhneaaGreatDoor
