/- The contract of reckonerref02.Pow. -/
import Derived.Test.YtalcikmngglplaaP1
namespace Go.Proofs.Ytalcikmngglplaa
open Go.RowKit
set_option linter.unusedVariables false
set_option linter.unusedSimpArgs false
set_option maxRecDepth 10000

/-- all powers up to the k-th are small -/
theorem pow_step {p q k k' : Nat} (h : p + q * k' = k) (ho : k' % 2 = 1) : p + q + (2 * q) * (k' / 2) = k := by
  have : k' = 2 * (k' / 2) + 1 := by omega
  rw [this, Nat.mul_add, Nat.mul_one] at h
  have e : q * (2 * (k' / 2)) = (2 * q) * (k' / 2) := by rw [← Nat.mul_assoc, Nat.mul_comm q 2]
  omega
theorem pow_step0 {p q k k' : Nat} (h : p + q * k' = k) (ho : k' % 2 = 0) : p + (2 * q) * (k' / 2) = k := by
  have : k' = 2 * (k' / 2) := by omega
  rw [this] at h
  have e : q * (2 * (k' / 2)) = (2 * q) * (k' / 2) := by rw [← Nat.mul_assoc, Nat.mul_comm q 2]
  omega

set_option maxHeartbeats 4000000 in
theorem RPow_ok (A : Option Addr) (n c : Nat) (xs : List Nat) (k : Nat) (w : World) (hn : n ≤ 4096) (hk : k ≤ 9223372036854775807) (hx : Sl w A n c xs) (hB : ∀ p, p ≤ k → V xs ^ p < Big) :
    Calls Try.prog 27 #[.slice A n c, .int .i64 k] w fun e w' => Rv w w' e (V xs ^ k) := by
  have Hx := Lib.hid hx
  have Hk := Lib.hid hk
  obtain ⟨x, hxv⟩ : ∃ x, V xs = x := ⟨_, rfl⟩
  rw [hxv] at hB ⊢
  have HX := Lib.hid hxv
  have HB := Lib.hid hB
  clear hx hxv hB hk
  go_enter Try.func27, Try.ntmps27
  go_wp2_with (fail)
  refine (RFromWord_ok 1 w (by decide)).mono ?_
  rintro e w1 hR1
  obtain ⟨A1, n1, c1, zs1, rfl, h1⟩ := hR1.open (Big_of (k := 1) (by decide) (by omega))
  have H1 := Lib.hid h1
  clear h1 hR1
  go_wp2_with (fail)
  refine (RTrim_ok A n c xs w1 hn (Hx.out.below H1.out.bel)).mono ?_
  rintro e w2 hR2
  obtain ⟨A2, n2, c2, zs2, rfl, h2⟩ := hR2.open (Big_of Hx.out.lt hn)
  have H2 : Hid (0 + 1 * k = k ∧ Nu w w2 A2 n2 c2 zs2 (x ^ 1) ∧ Nu w w2 A1 n1 c1 zs1 (x ^ 0)) := by
    rw [HX.out] at h2
    exact ⟨by omega, by rw [Nat.pow_one]; exact h2.from H1.out.bel, H1.out.keep h2.bel⟩
  clear h2 hR2 H1
  have hkI : (k : Int) ≤ 9223372036854775807 := by have := Hk.out; omega
  go_wp2_with (fail)
  go_loopw [0, 1, 5] (fun xv kv ov wr => ∃ (k' p q : Nat) (A : Option Addr) (n c : Nat) (zs : List Nat) (A' : Option Addr) (n' c' : Nat) (zs' : List Nat), k' ≤ k ∧ kv = .int .i64 k' ∧ xv = .slice A n c ∧ ov = .slice A' n' c' ∧ Hid (p + q * k' = k ∧ Nu w wr A n c zs (x ^ q) ∧ Nu w wr A' n' c' zs' (x ^ p))) (fun _ kv _ _ => (intOf kv).toNat)
  case atStart => exact ⟨k, 0, 1, A2, n2, c2, zs2, A1, n1, c1, zs1, Nat.le_refl _, rfl, rfl, rfl, H2⟩
  case round =>
    clear H2
    obtain ⟨k', p, q, A3, n3, c3, zs3, A4, n4, c4, zs4, hk', rfl, rfl, rfl, hH⟩ := hrel
    rcases Nat.eq_zero_or_pos k' with rfl | hpos
    · have hki : ¬ (0 : Int) < ((0 : Nat) : Int) := by omega
      go_wp2_with (fail)
      go_ret
      obtain ⟨h1, _, h3⟩ := hH.out
      rw [Nat.mul_zero, Nat.add_zero] at h1
      rw [h1] at h3
      exact ⟨_, rfl, h3.2.2.2.2.1, h3.bel⟩
    · have hki : (0 : Int) < (k' : Int) := by omega
      obtain ⟨m, hm, hm1, hm2⟩ : ∃ m : Nat, m = k' / 2 ∧ (k' : Int).tdiv 2 = (m : Int) ∧ (k' : Int) / 2 = (m : Int) := ⟨k' / 2, rfl, by rw [Int.tdiv_eq_ediv_of_nonneg (by omega)]; omega, by omega⟩
      have hmw : IntKind.i64.wrap (m : Int) = (m : Int) := IntWalk.i64_in _ (by omega)
      have hq : q ≤ q * k' := Nat.le_mul_of_pos_right _ hpos
      have hn3 := hH.out.2.1.2.2.2.1
      have hn4 := hH.out.2.2.2.2.2.1
      rcases Nat.mod_two_eq_zero_or_one k' with hz | hz
      · have e1 : (k' : Int) % 2 = 0 := by omega
        have e2 : (k' : Int).tmod 2 = 0 := by rw [Int.tmod_eq_emod_of_nonneg (by omega)]; omega
        have hk2 : (1 : Int) < (k' : Int) := by omega
        have hst := pow_step0 hH.out.1 hz
        rw [← hm] at hst
        have h2q : 2 * q ≤ k := by have := hH.out.1; have : q * 2 ≤ q * k' := Nat.mul_le_mul_left _ (by omega); omega
        have HM := Lib.hid (And.intro hst (And.intro h2q hm))
        clear hst hz h2q hq hm
        go_wp2_with (fail)
        refine (RNMul_ok _ _ _ _ _ _ zs3 zs3 wr hn3 hn3 hH.out.2.1.1 hH.out.2.1.1).mono ?_
        rintro e w3 hR3
        rw [hH.out.2.1.2.2.1, ← Nat.pow_add, ← Nat.two_mul] at hR3
        obtain ⟨A5, n5, c5, zs5, rfl, h5⟩ := hR3.open (HB.out _ HM.out.2.1)
        have HN : Hid (p + (2 * q) * m = k ∧ Nu w w3 A5 n5 c5 zs5 (x ^ (2 * q)) ∧ Nu w w3 A4 n4 c4 zs4 (x ^ p)) := ⟨HM.out.1, h5.from hH.out.2.1.bel, hH.out.2.2.keep h5.bel⟩
        clear h5 hR3 hH
        go_wp2_with (fail)
        go_roundw
        case rel => exact ⟨m, p, 2 * q, A5, n5, c5, zs5, A4, n4, c4, zs4, by have := HM.out.2.2; omega, rfl, rfl, rfl, HN⟩
        case measure => simp [intOf]; have := HM.out.2.2; omega
      · have e1 : (k' : Int) % 2 = 1 := by omega
        have e2 : (k' : Int).tmod 2 = 1 := by rw [Int.tmod_eq_emod_of_nonneg (by omega)]; omega
        have hst := pow_step hH.out.1 hz
        rw [← hm] at hst
        have hpq : p + q ≤ k := by have := hH.out.1; omega
        have HM := Lib.hid (And.intro hst (And.intro hpq (And.intro hm (And.intro hz hH.out.1))))
        clear hst hz hpq hq hm
        go_wp2_with (fail)
        refine (RNMul_ok _ _ _ _ _ _ zs4 zs3 wr hn4 hn3 hH.out.2.2.1 hH.out.2.1.1).mono ?_
        rintro e w3 hR3
        rw [hH.out.2.1.2.2.1, hH.out.2.2.2.2.1, ← Nat.pow_add] at hR3
        obtain ⟨A5, n5, c5, zs5, rfl, h5⟩ := hR3.open (HB.out _ HM.out.2.1)
        have H5 := Lib.hid (And.intro (hH.out.2.1.keep h5.bel) (h5.from hH.out.2.1.bel))
        clear h5 hR3 hH
        by_cases hk1 : k' = 1
        · subst hk1
          have hm0 : m = 0 := by have := HM.out.2.2.1; omega
          have HN : Hid ((p + q) + q * 0 = k ∧ Nu w w3 A3 n3 c3 zs3 (x ^ q) ∧ Nu w w3 A5 n5 c5 zs5 (x ^ (p + q))) := ⟨by have := HM.out.2.2.2.2; omega, H5.out.1, H5.out.2⟩
          subst hm0
          clear H5
          go_wp2_with (fail)
          go_roundw
          case rel => exact ⟨0, p + q, q, A3, n3, c3, zs3, A5, n5, c5, zs5, by omega, by go_num, rfl, rfl, HN⟩
          case measure => simp [intOf]
        · have hk2 : (1 : Int) < (k' : Int) := by omega
          have h2q : 2 * q ≤ k := by have := HM.out.2.2.2.2; have : q * 2 ≤ q * k' := Nat.mul_le_mul_left _ (by omega); omega
          have H2q := Lib.hid h2q
          clear h2q
          go_wp2_with (fail)
          refine (RNMul_ok _ _ _ _ _ _ zs3 zs3 w3 hn3 hn3 H5.out.1.1 H5.out.1.1).mono ?_
          rintro e w4 hR4
          rw [H5.out.1.2.2.1, ← Nat.pow_add, ← Nat.two_mul] at hR4
          obtain ⟨A6, n6, c6, zs6, rfl, h6⟩ := hR4.open (HB.out _ H2q.out)
          have HN : Hid ((p + q) + (2 * q) * m = k ∧ Nu w w4 A6 n6 c6 zs6 (x ^ (2 * q)) ∧ Nu w w4 A5 n5 c5 zs5 (x ^ (p + q))) := ⟨HM.out.1, h6.from H5.out.1.bel, H5.out.2.keep h6.bel⟩
          clear h6 hR4 H5
          go_wp2_with (fail)
          go_roundw
          case rel => exact ⟨m, p + q, 2 * q, A6, n6, c6, zs6, A5, n5, c5, zs5, by have := HM.out.2.2.1; omega, rfl, rfl, rfl, HN⟩
          case measure => simp [intOf]; have := HM.out.2.2.1; omega
end Go.Proofs.Ytalcikmngglplaa
