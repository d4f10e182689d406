/- The walk of the law FastLows. -/
import Derived.Test.YtelenmfajhamlaaDoorZFAwake
import Derived.Test.YtelenmfajhamlaaDoorZFLm
import Derived.Test.YtelenmfajhamlaaDoorZLawF
import Derived.Test.YtelenmfajhamlaaDoorP4
import Derived.OpenShut
namespace Go.Proofs.YtelenmfajhamlaaDoor.fastLows
open Go.ChangeShapes Go.RowKit
set_option linter.unusedVariables false
set_option linter.unusedSimpArgs false

set_option maxHeartbeats 1000000 in
theorem LowMul_out (A A' : Option Addr) (n n' c c' : Nat) (N : Int) (w : World) (hn : n ≤ 4096) (hn' : n' ≤ 4096) (hN : N < 0 ∨ 4096 < N) :
    Calls Tryd.prog 33 #[.slice A n c, .slice A' n' c', .int .i64 N] w fun e w' => e = .returned (.tuple #[.slice none 0 0, .int .i64 1]) ∧ Below w.heap.size w w' := by
  have HC := Lib.hid (chkS_two (A := A) (A' := A') (c := c) (c' := c') hn hn')
  by_cases h1 : N < 0
  · go_enter Tryd.func33, Tryd.ntmps33
    go_wp2_with (fail)
    refine (fcheck_two A A' n n' c c' _ _ w rfl).mono ?_
    rintro e w1 ⟨rfl, hb1⟩
    rw [HC.out]
    have H1 := Lib.hid hb1
    clear hb1
    go_wp2_with (fail)
    go_ret2
    exact ⟨rfl, H1.out⟩
  · have h2 : 4096 < N := by omega
    go_enter Tryd.func33, Tryd.ntmps33
    go_wp2_with (fail)
    refine (fcheck_two A A' n n' c c' _ _ w rfl).mono ?_
    rintro e w1 ⟨rfl, hb1⟩
    rw [HC.out]
    have H1 := Lib.hid hb1
    clear hb1
    go_wp2_with (fail)
    go_ret2
    exact ⟨rfl, H1.out⟩
set_option maxRecDepth 100000 in
set_option maxHeartbeats 8000000 in
theorem walk (w : World) (a0 : Option Addr) (n0 c0 : Nat) (xs : List Nat) (hx : Sl w a0 n0 c0 xs) (a1 : Option Addr) (n1 c1 : Nat) (ys : List Nat) (hy : Sl w a1 n1 c1 ys) (a2 : Int) (w2 : (Lit.int .i64 a2).wf = true) (hT : TabF w) :
    Calls Tryd.prog 7 #[.slice a0 n0 c0, .slice a1 n1 c1, .int .i64 a2] w fun e w' => e = .returned (.bool true) ∧ Below w.heap.size w w' := by
  have Hx := Lib.hid (And.intro hx (And.intro hy hT))
  clear hx hy w2 hT
  go_enter Tryd.func7, Tryd.ntmps7
  go_wp2_with (fail)
  refine (few3_row _ _ _ 20 xs _ Hx.out.1 (by omega)).mono ?_
  rintro e w3 ⟨A1, k1, d1, us, rfl, hk1, hs1, -, -, hb1⟩
  have H1 := Lib.hid (And.intro hs1 (And.intro (Hx.out.2.1.below hb1) (And.intro (Hx.out.2.2.below hb1) hb1)))
  clear hs1 hb1
  go_wp2_with (fail)
  refine (few3_row _ _ _ 20 ys _ H1.out.2.1 (by omega)).mono ?_
  rintro e w4 ⟨A2, k2, d2, vs, rfl, hk2, hs2, -, -, hb2⟩
  have H2 : Hid (Row2 w w4 A1 A2 k1 k2 d1 d2 us vs) := ⟨H1.out.1.below hb2, hs2, H1.out.2.2.1.below hb2, H1.out.2.2.2.trans (hb2.mono H1.out.2.2.2.size)⟩
  clear hs2 hb2 H1
  have HL := Lib.hid (mul_lt3 H2.out.1 H2.out.2.1 (by omega))
  go_wp2_with (fail)
  go_loopw [2, 9, 10, 11] (fun bv kv _ _ wr => ∃ (k : Nat) (b : Int), k ≤ 2 ∧ kv = .int .i64 k ∧ bv = .int .i64 b ∧ Hid (Row2 w wr A1 A2 k1 k2 d1 d2 us vs)) (fun _ kv _ _ _ => 2 - (intOf kv).toNat)
  case atStart => exact ⟨0, a2, by omega, rfl, rfl, H2⟩
  case round =>
    clear H2
    obtain ⟨k, b, hk, rfl, rfl, H⟩ := hrel
    by_cases hlt : k < 2
    · have hki : (k : Int) < 2 := by omega
      obtain ⟨s, hs⟩ : ∃ s, (IntKind.u64.wrap b % 45).toNat = s := ⟨_, rfl⟩
      have hw := IntKind.wrap_u64 b
      have hs44 : s ≤ 44 := by omega
      have hs1 : IntKind.u64.wrap b % 45 = (s : Int) := by omega
      have hs2 : (IntKind.u64.wrap b).tmod 45 = (s : Int) := by rw [Int.tmod_eq_emod_of_nonneg (by rw [hw]; omega)]; exact hs1
      clear hs hw
      by_cases h1 : b < 0
      · go_wp2_with (fail)
        refine (LowMul_out _ _ _ _ _ _ b _ (by omega) (by omega) (Or.inl h1)).mono ?_
        rintro e w5 ⟨rfl, hb5⟩
        have H5 := Lib.hid (H.out.keep hb5)
        clear hb5
        go_wp2_with (fail)
        refine ⟨⟨k + 1, (s : Int), by omega, by go_num, rfl, H5⟩, ?_⟩
        simp [intOf]; omega
      by_cases h2 : 4096 < b
      · go_wp2_with (fail)
        refine (LowMul_out _ _ _ _ _ _ b _ (by omega) (by omega) (Or.inr h2)).mono ?_
        rintro e w5 ⟨rfl, hb5⟩
        have H5 := Lib.hid (H.out.keep hb5)
        clear hb5
        go_wp2_with (fail)
        refine ⟨⟨k + 1, (s : Int), by omega, by go_num, rfl, H5⟩, ?_⟩
        simp [intOf]; omega
      obtain ⟨m, rfl⟩ := Int.eq_ofNat_of_zero_le (show 0 ≤ b by omega)
      have hm2 : m ≤ 4096 := by omega
      have hm7 : (m : Int) % 45 = (s : Int) := by have hw := IntKind.wrap_u64 (m : Int); omega
      obtain ⟨M, hM⟩ : ∃ M, 64 * m = M := ⟨_, rfl⟩
      have hM2 : M ≤ 262144 := by omega
      have hmi : (64 : Int) * (m : Int) = (M : Int) := by omega
      have hmw : IntKind.i64.wrap (M : Int) = (M : Int) := IntWalk.i64_in _ (by omega)
      have HP := Lib.hid (show (2 : Nat) ^ M = B64 ^ m by rw [← hM, Nat.pow_mul]; rfl)
      clear hM
      have HLm := Lib.hid (show V us * V vs % B64 ^ m < Big from Nat.lt_of_le_of_lt (Nat.mod_le _ _) HL.out)
      go_wp2_with (fail)
      refine (LowMul_ok A1 A2 k1 k2 d1 d2 m us vs _ (by omega) (by omega) hm2 H.out.1 H.out.2.1).mono ?_
      rintro e w5 ⟨v, rfl, hN, hb⟩
      obtain ⟨A3, n3, c3, zs, rfl, h3⟩ := Nu.of hN hb HLm.out
      have H3 := Lib.hid (And.intro (H.out.keep hb) h3)
      clear hN hb h3
      go_wp2_with (fail)
      refine (RNMul_ok _ _ _ _ _ _ us vs _ (by omega) (by omega) H3.out.1.1 H3.out.1.2.1).mono ?_
      rintro e w6 hR
      obtain ⟨A4, n4, c4, z4, rfl, h4⟩ := hR.open HL.out
      have H4 := Lib.hid (And.intro (H3.out.1.keep h4.bel) (And.intro (H3.out.2.keep h4.bel) h4))
      clear hR h4 H3
      go_wp2_with (fail)
      refine (R2Low_ok A4 n4 c4 z4 M _ H4.out.2.2.2.2.2.1 hM2 H4.out.2.2.1).mono ?_
      rintro e w7 hR
      rw [HP.out, H4.out.2.2.2.2.1] at hR
      obtain ⟨A5, n5, c5, z5, rfl, h5⟩ := hR.open HLm.out
      have H5 := Lib.hid (And.intro (H4.out.1.keep h5.bel) (And.intro (H4.out.2.1.keep h5.bel) h5))
      clear hR h5 H4
      go_wp2_with (fail)
      refine (Is_nu H5.out.2.1 H5.out.2.2.1 H5.out.2.2.2.2.2.1 H5.out.2.2.2.2.1).mono ?_
      rintro e w8 ⟨rfl, b8⟩
      have H8 := Lib.hid (H5.out.1.keep b8)
      clear b8 H5
      go_wp2_with (fail)
      refine ⟨⟨k + 1, (s : Int), by omega, by go_num, congrArg (Value.int .i64) (by omega), H8⟩, ?_⟩
      simp [intOf]; omega
    · have hki : ¬ (k : Int) < 2 := by omega
      go_wp2_with (fail)
      refine (fawake_any _ H.out.2.2.1).mono ?_
      rintro e w5 ⟨rfl, hb5⟩
      have HB := Lib.hid (H.out.keep hb5)
      clear hb5
      go_wp2_with (fail)
      go_ret
      exact ⟨rfl, HB.out.2.2.2⟩
end Go.Proofs.YtelenmfajhamlaaDoor.fastLows
