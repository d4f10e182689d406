/- The walk of the law NatPowers. -/
import Derived.Test.YtalcikmngglplaaP3
import Derived.Test.YtalcikmngglplaaZNProdsW
import Derived.Test.YtalcikmngglplaaP5
import Derived.Test.YtalcikmngglplaaZRPow
import Derived.OpenShut
namespace Go.Proofs.Ytalcikmngglplaa
open Go.RowKit Go.Shelf
set_option linter.unusedVariables false
set_option linter.unusedSimpArgs false
set_option maxRecDepth 10000

theorem Big_two : Big = 2 ^ (64 * Most) := B64_two Most
theorem pow_large {x l m : Nat} (hx : 2 ^ (l - 1) ≤ x) (h : 262144 ≤ (l - 1) * m) : Big ≤ x ^ m := by
  rw [Big_two]
  have h1 : 64 * Most ≤ (l - 1) * m := h
  refine Nat.le_trans (Nat.pow_le_pow_right (by decide) h1) ?_
  rw [Nat.pow_mul]
  exact Nat.pow_le_pow_left hx m
theorem pow_small {x l m p : Nat} (hx : x < 2 ^ l) (h : l * m ≤ 5000) (hp : p ≤ m) : x ^ p < Big := by
  rw [Big_two]
  have h1 : l * p < 64 * Most := Nat.lt_of_le_of_lt (Nat.le_trans (Nat.mul_le_mul_left l hp) h) (by decide)
  refine Nat.lt_of_le_of_lt ?_ (Nat.pow_lt_pow_right (by decide) h1)
  rw [Nat.pow_mul]
  exact Nat.pow_le_pow_left (Nat.le_of_lt hx) p
/-- powers that are small -/
def Tiny (x m M : Nat) : Prop := x ^ m = x ^ M ∧ ∀ p, x ^ p < Big
theorem pow_tiny {x : Nat} (hx : x ≤ 1) (m : Nat) : x ^ m = x ^ (min m 1) ∧ ∀ p, x ^ p < Big := by
  have h1 : ∀ p, x ^ p ≤ 1 := fun p => by
    have : x ^ p ≤ 1 ^ p := Nat.pow_le_pow_left hx p
    rwa [Nat.one_pow] at this
  refine ⟨?_, fun p => Nat.lt_of_le_of_lt (h1 p) Big_one⟩
  rcases Nat.eq_zero_or_pos m with rfl | hm
  · rfl
  · rw [Nat.min_eq_right hm, Nat.pow_one]
    have : x = 0 ∨ x = 1 := by omega
    rcases this with rfl | rfl
    · exact Nat.zero_pow hm
    · exact Nat.one_pow m

set_option maxHeartbeats 1000000 in
theorem NPow_arg (A : Option Addr) (n c : Nat) (k : Int) (w : World) (hn : n ≤ 4096) (hk : k < 0 ∨ 1000000 < k) :
    Calls Try.prog 25 #[.slice A n c, .int .i64 k] w fun e w' => e = .returned (.tuple #[.slice none 0 0, .int .i64 1]) ∧ Below w.heap.size w w' := by
  have Hk := Lib.hid (chkS_one (A := A) (c := c) hn)
  rcases hk with hk | hk
  · go_enter Try.func25, Try.ntmps25
    go_wp2_with (fail)
    go_step3
    go_wp2_with (fail)
    refine (checkSizes_one A _ c _ _ w rfl).mono ?_
    rintro e w1 ⟨rfl, hb1⟩
    rw [Hk.out]
    go_wp2_with (fail)
    dsimp only [Exit.noGoto]
    go_ret2
    exact ⟨rfl, hb1⟩
  · have hk0 : ¬ k < 0 := by omega
    go_enter Try.func25, Try.ntmps25
    go_wp2_with (fail)
    go_step3
    go_wp2_with (fail)
    refine (checkSizes_one A _ c _ _ w rfl).mono ?_
    rintro e w1 ⟨rfl, hb1⟩
    rw [Hk.out]
    go_wp2_with (fail)
    dsimp only [Exit.noGoto]
    go_ret2
    exact ⟨rfl, hb1⟩
end Go.Proofs.Ytalcikmngglplaa
namespace Go.Proofs.Ytalcikmngglplaa.natPowers
open Go.ChangeShapes Go.RowKit
set_option linter.unusedVariables false

set_option maxRecDepth 100000 in
set_option maxHeartbeats 8000000 in
theorem walk (w : World) (a0 : Option Addr) (n0 c0 : Nat) (xs : List Nat) (hx : Sl w a0 n0 c0 xs) (a1 : Int) (w1 : (Lit.int .i64 a1).wf = true) :
    Calls Try.prog 5 #[.slice a0 n0 c0, .int .i64 a1] w fun e w' => e = .returned (.bool true) ∧ Below w.heap.size w w' := by
  have hb := bounds_i64 w1
  have Hx := Lib.hid hx
  have H0 := Lib.hid hb
  clear hx w1 hb
  go_enter Try.func5, Try.ntmps5
  go_wp2_with (fail)
  refine (few_row _ _ _ 6 xs _ Hx.out (by omega)).mono ?_
  rintro e w2 ⟨A1, k1, d1, us, rfl, hk1, hs1, _, _, hb1⟩
  have H1 := Lib.hid (And.intro hs1 hb1)
  clear hs1 hb1
  go_wp2_with (fail)
  go_loopw [1, 6] (fun kv iv wr => ∃ (k : Int) (r : Nat), r ≤ 2 ∧ iv = .int .i64 r ∧ kv = .int .i64 k ∧ Hid (-9223372036854775808 ≤ k ∧ k ≤ 9223372036854775807 ∧ Sl wr A1 k1 d1 us ∧ Below w.heap.size w wr)) (fun _ iv _ => 2 - (intOf iv).toNat)
  case atStart => exact ⟨a1, 0, by omega, rfl, rfl, by have := H0.out; omega, by have := H0.out; omega, H1.out⟩
  case round =>
    clear H1
    obtain ⟨k, r, hr, rfl, rfl, hH⟩ := hrel
    by_cases hlt : r < 2
    · obtain ⟨u, hu⟩ : ∃ u : Nat, IntKind.u64.wrap k = (u : Int) := ⟨(k % 18446744073709551616).toNat, by rw [IntKind.wrap_u64]; omega⟩
      obtain ⟨q, hq, hq1, hq2⟩ : ∃ q : Nat, q < 40 ∧ (u : Int).tmod 40 = (q : Int) ∧ (u : Int) % 40 = (q : Int) := ⟨u % 40, Nat.mod_lt _ (by decide), by rw [Int.tmod_eq_emod_of_nonneg (by omega)]; omega, by omega⟩
      have hqw : IntKind.i64.wrap (q : Int) = (q : Int) := IntWalk.i64_in _ (by omega)
      have hri : (r : Int) < 2 := by omega
      by_cases hneg : k < 0 ∨ 1000000 < k
      · have Hneg := Lib.hid hneg
        have hcase : k < 0 ∨ (¬ k < 0 ∧ 1000000 < k) := by omega
        clear hneg
        rcases hcase with hk | ⟨hk, hk2⟩
        all_goals
          go_wp2_with (fail)
          refine (NPow_arg _ _ _ k wr (by omega) Hneg.out).mono ?_
          rintro e w3 ⟨rfl, b3⟩
          have HN : Hid (-9223372036854775808 ≤ (q : Int) ∧ (q : Int) ≤ 9223372036854775807 ∧ Sl w3 A1 k1 d1 us ∧ Below w.heap.size w w3) := ⟨by omega, by omega, hH.out.2.2.1.below b3, hH.out.2.2.2.trans (b3.mono hH.out.2.2.2.size)⟩
          clear hH b3
          go_wp2_with (fail)
          go_roundw
          case rel => exact ⟨q, r + 1, by omega, by go_num, rfl, HN⟩
          case measure => simp [intOf]; omega
      · by_cases hkz : k = 0
        · subst hkz
          clear hneg
          have Hq : Hid (-9223372036854775808 ≤ (q : Int) ∧ (q : Int) ≤ 9223372036854775807) := ⟨by omega, by omega⟩
          go_wp2_with (fail)
          refine (NPow_ok _ _ _ us 0 wr (by omega) (by omega) hH.out.2.2.1).mono ?_
          rintro e w3 hR3
          rw [Nat.pow_zero] at hR3
          obtain ⟨A5, n5, c5, zs5, rfl, h5⟩ := hR3.open Big_one
          have H5 := Lib.hid (And.intro h5 (And.intro (hH.out.2.2.1.below h5.bel) (hH.out.2.2.2.trans (h5.bel.mono hH.out.2.2.2.size))))
          clear h5 hR3 hH
          go_wp2_with (fail)
          refine (RLen_ok A1 k1 d1 us w3 (by omega) H5.out.2.1).mono ?_
          rintro e w4 ⟨l, rfl, hl, hBL, rfl⟩
          have HL := Lib.hid hBL
          clear hBL
          have hP1 : ∀ p, p ≤ 0 → V us ^ p < Big := fun p hp => by
            obtain rfl : p = 0 := by omega
            rw [Nat.pow_zero]; exact Big_one
          have HP1 := Lib.hid hP1
          clear hP1
          by_cases hl1 : l ≤ 1
          · have hli : (l : Int) ≤ 1 := by omega
            clear hl1 hl
            go_wp2_with (fail)
            refine (RPow_ok _ _ _ us 0 w3 (by omega) (by omega) H5.out.2.1 HP1.out).mono ?_
            rintro e w5 hR5
            rw [Nat.pow_zero] at hR5
            obtain ⟨A6, n6, c6, zs6, rfl, h6⟩ := hR5.open Big_one
            have H6 := Lib.hid (And.intro (H5.out.1.keep h6.bel) (And.intro h6 (And.intro (H5.out.2.1.below h6.bel) (H5.out.2.2.trans (h6.bel.mono H5.out.2.2.size)))))
            clear h6 hR5 H5
            go_wp2_with (fail)
            refine (Is_two H6.out.1 H6.out.2.1).mono ?_
            rintro e w6 ⟨rfl, b6⟩
            have HN : Hid (-9223372036854775808 ≤ (q : Int) ∧ (q : Int) ≤ 9223372036854775807 ∧ Sl w6 A1 k1 d1 us ∧ Below w.heap.size w w6) := ⟨Hq.out.1, Hq.out.2, H6.out.2.2.1.below b6, H6.out.2.2.2.trans (b6.mono H6.out.2.2.2.size)⟩
            clear H6 b6
            go_wp2_with (fail)
            go_roundw
            case rel => exact ⟨q, r + 1, by omega, by go_num, rfl, HN⟩
            case measure => simp [intOf]; omega
          · have hli : ¬ (l : Int) ≤ 1 := by omega
            clear hl1
            go_wp2_with (fail)
            refine (RLen_ok A1 k1 d1 us w3 (by omega) H5.out.2.1).mono ?_
            rintro e w4 ⟨l', rfl, _, hBL', rfl⟩
            obtain rfl : l' = l := BL_uniq hBL' HL.out
            clear hBL'
            go_wp2_with (fail)
            refine (RLen_ok A1 k1 d1 us w3 (by omega) H5.out.2.1).mono ?_
            rintro e w4 ⟨l'', rfl, _, hBL', rfl⟩
            obtain rfl : l'' = l' := BL_uniq hBL' HL.out
            clear hBL' hl
            go_wp2_with (fail)
            refine (RPow_ok _ _ _ us 0 w3 (by omega) (by omega) H5.out.2.1 HP1.out).mono ?_
            rintro e w5 hR5
            rw [Nat.pow_zero] at hR5
            obtain ⟨A6, n6, c6, zs6, rfl, h6⟩ := hR5.open Big_one
            have H6 := Lib.hid (And.intro (H5.out.1.keep h6.bel) (And.intro h6 (And.intro (H5.out.2.1.below h6.bel) (H5.out.2.2.trans (h6.bel.mono H5.out.2.2.size)))))
            clear h6 hR5 H5
            go_wp2_with (fail)
            refine (Is_two H6.out.1 H6.out.2.1).mono ?_
            rintro e w6 ⟨rfl, b6⟩
            have HN : Hid (-9223372036854775808 ≤ (q : Int) ∧ (q : Int) ≤ 9223372036854775807 ∧ Sl w6 A1 k1 d1 us ∧ Below w.heap.size w w6) := ⟨Hq.out.1, Hq.out.2, H6.out.2.2.1.below b6, H6.out.2.2.2.trans (b6.mono H6.out.2.2.2.size)⟩
            clear H6 b6
            go_wp2_with (fail)
            go_roundw
            case rel => exact ⟨q, r + 1, by omega, by go_num, rfl, HN⟩
            case measure => simp [intOf]; omega
        · obtain ⟨m, rfl⟩ := Int.eq_ofNat_of_zero_le (show 0 ≤ k by omega)
          have hmp : 0 < m := by omega
          clear hkz
          have hm : m ≤ 1000000 := by omega
          have hk0 : ¬ (m : Int) < 0 := by omega
          have hk1' : ¬ (1000000 : Int) < (m : Int) := by omega
          clear hneg
          go_wp2_with (fail)
          refine (NPow_ok _ _ _ us m wr (by omega) hm hH.out.2.2.1).mono ?_
          rintro e w3 hR3
          obtain ⟨hR3', b3⟩ := hR3
          have H3 := Lib.hid (And.intro (hH.out.2.2.1.below b3) (hH.out.2.2.2.trans (b3.mono hH.out.2.2.2.size)))
          have Hq : Hid (-9223372036854775808 ≤ (q : Int) ∧ (q : Int) ≤ 9223372036854775807) := ⟨by omega, by omega⟩
          have HR := Lib.hid (And.intro hR3' b3)
          clear hR3' b3 hH
          obtain ⟨v, ee, hve, hwf, hres⟩ : ∃ v ee : _, e = .returned (.tuple #[v, .int .i64 ee]) ∧ (∃ A n c, v = Value.slice A n c) ∧ ((ee = 0 ∧ Nt wr w3 v (V us ^ m) ∧ V us ^ m < Big) ∨ (ee = 2 ∧ v = .slice none 0 0 ∧ Big ≤ V us ^ m)) := by
            rcases HR.out.1 with ⟨v, he, h1, h2⟩ | ⟨he, h1⟩
            · obtain ⟨A, n, c, _, hv, _⟩ := h1.sl
              exact ⟨v, 0, he, ⟨A, n, c, hv⟩, .inl ⟨rfl, h1, h2⟩⟩
            · exact ⟨_, 2, he, ⟨_, _, _, rfl⟩, .inr ⟨rfl, rfl, h1⟩⟩
          obtain ⟨Av, nv, cv', rfl⟩ := hwf
          subst hve
          have HS := Lib.hid hres
          have HB3 := Lib.hid HR.out.2
          clear hres HR
          go_wp2_with (fail)
          refine (RLen_ok A1 k1 d1 us w3 (by omega) H3.out.1).mono ?_
          rintro e w4 ⟨l, rfl, hl, hBL, rfl⟩
          have HL := Lib.hid hBL
          clear hBL
          have hl2 : l ≤ 384 := by omega
          by_cases hl1 : l ≤ 1
          · have hli : (l : Int) ≤ 1 := by omega
            have hv1 : V us ≤ 1 := by
              have := HL.out.1
              have h2 : 2 ^ l ≤ 2 ^ 1 := Nat.pow_le_pow_right (by decide) hl1
              omega
            obtain ⟨hp1, hp2⟩ := pow_tiny hv1 m
            obtain ⟨M, hM, hM2⟩ : ∃ M, M = min m 1 ∧ M ≤ 1 := ⟨_, rfl, by omega⟩
            rw [← hM] at hp1
            have HP := Lib.hid (And.intro hp1 (And.intro hp2 HS.out))
            have hp12 : Tiny (V us) m M := And.intro hp1 hp2
            clear hp1 hp2 hv1
            have hok := HS.out
            obtain ⟨rfl, hN, _⟩ : ee = 0 ∧ Nt wr w3 (.slice Av nv cv') (V us ^ m) ∧ True := by
              rcases hok with h | h
              · exact ⟨h.1, h.2.1, trivial⟩
              · exact absurd (HP.out.2.1 m) (by have := h.2.2; omega)
            obtain ⟨A5, n5, c5, zs5, he5, h5⟩ := Nu.of hN HB3.out (HP.out.2.1 m)
            injection he5 with q1 q2 q3
            subst q1 q2 q3
            have H5 := Lib.hid h5
            clear h5 hN hok HS HP HB3
            have HP2 := Lib.hid hp12
            clear hp12
            have hmc : (m = 0 ∧ M = 0) ∨ (0 < m ∧ M = 1) := by omega
            obtain rfl : M = 1 := by omega
            clear hmc hM hM2
            · have Hmp := Lib.hid (And.intro hmp hm)
              clear hl1 hl hl2 HL hmp hm hk1' hk0
              go_wp2_with (fail)
              rw [show min (m : Int) 1 = ((1 : Nat) : Int) by have := Hmp.out.1; omega]
              refine (RPow_ok _ _ _ us 1 w3 (by omega) (by omega) H3.out.1 (fun p _ => HP2.out.2 p)).mono ?_
              rintro e w5 hR5
              rw [← HP2.out.1] at hR5
              obtain ⟨A6, n6, c6, zs6, rfl, h6⟩ := hR5.open (HP2.out.2 m)
              have H6 := Lib.hid (And.intro (H5.out.keep h6.bel) (And.intro h6 (And.intro (H3.out.1.below h6.bel) (H3.out.2.trans (h6.bel.mono H3.out.2.size)))))
              clear h6 hR5 H5
              go_wp2_with (fail)
              refine (Is_two H6.out.1 H6.out.2.1).mono ?_
              rintro e w6 ⟨rfl, b6⟩
              have HN : Hid (-9223372036854775808 ≤ (q : Int) ∧ (q : Int) ≤ 9223372036854775807 ∧ Sl w6 A1 k1 d1 us ∧ Below w.heap.size w w6) := ⟨Hq.out.1, Hq.out.2, H6.out.2.2.1.below b6, H6.out.2.2.2.trans (b6.mono H6.out.2.2.2.size)⟩
              clear H6 b6
              go_wp2_with (fail)
              go_roundw
              case rel => exact ⟨q, r + 1, by omega, by go_num, rfl, HN⟩
              case measure => simp [intOf]; omega
          · have hli : ¬ (l : Int) ≤ 1 := by omega
            obtain ⟨P, hP, hP2⟩ : ∃ P : Nat, ((l : Int) - 1) * (m : Int) = (P : Int) ∧ P = (l - 1) * m := ⟨(l - 1) * m, by rw [show (l : Int) - 1 = ((l - 1 : Nat) : Int) by omega]; simp, rfl⟩
            obtain ⟨Q, hQ, hQ2⟩ : ∃ Q : Nat, (l : Int) * (m : Int) = (Q : Int) ∧ Q = l * m := ⟨l * m, by simp, rfl⟩
            have hPb : P ≤ 384 * 1000000 := by rw [hP2]; exact Nat.mul_le_mul (by omega) hm
            have hQb : Q ≤ 384 * 1000000 := by rw [hQ2]; exact Nat.mul_le_mul hl2 hm
            have hPw : IntKind.i64.wrap (P : Int) = (P : Int) := IntWalk.i64_in _ (by omega)
            have hQw : IntKind.i64.wrap (Q : Int) = (Q : Int) := IntWalk.i64_in _ (by omega)
            have HPQ := Lib.hid (And.intro hP2 hQ2)
            clear hP2 hQ2
            go_wp2_with (fail)
            refine (RLen_ok A1 k1 d1 us w3 (by omega) H3.out.1).mono ?_
            rintro e w4 ⟨l', rfl, _, hBL', rfl⟩
            obtain rfl : l' = l := BL_uniq hBL' HL.out
            clear hBL'
            have HN : Hid (-9223372036854775808 ≤ (q : Int) ∧ (q : Int) ≤ 9223372036854775807 ∧ Sl w3 A1 k1 d1 us ∧ Below w.heap.size w w3) := ⟨Hq.out.1, Hq.out.2, H3.out.1, H3.out.2⟩
            by_cases hbig : 262144 ≤ P
            · have hbi : (262144 : Int) ≤ (P : Int) := by omega
              have hlarge : Big ≤ V us ^ m := by
                have h1 := HL.out.2.1
                have h0 : 0 < V us := by
                  rcases Nat.eq_zero_or_pos (V us) with h | h
                  · have := HL.out.2.2 h; omega
                  · exact h
                exact pow_large (h1 h0).2 (by rw [← HPQ.out.1]; exact hbig)
              obtain ⟨rfl, hvn, _⟩ : ee = 2 ∧ Value.slice Av nv cv' = .slice none 0 0 ∧ True := by
                rcases HS.out with h | h
                · exact absurd h.2.2 (by omega)
                · exact ⟨h.1, h.2.1, trivial⟩
              injection hvn with q1 q2 q3
              subst q1 q2 q3
              clear hlarge HS HB3
              go_wp2_with (fail)
              go_roundw
              case rel => exact ⟨q, r + 1, by omega, by go_num, rfl, HN⟩
              case measure => simp [intOf]; omega
            · have hbi : decide ((262144 : Int) ≤ (P : Int)) = false := decide_eq_false (by omega)
              clear hbig
              go_wp2_with (fail)
              refine (RLen_ok A1 k1 d1 us w3 (by omega) H3.out.1).mono ?_
              rintro e w4 ⟨l'', rfl, _, hBL', rfl⟩
              obtain rfl : l'' = l' := BL_uniq hBL' HL.out
              clear hBL'
              by_cases hsm : Q ≤ 5000
              · have hsi : (Q : Int) ≤ 5000 := by omega
                have HP3 := Lib.hid (fun p (hp : p ≤ m) => pow_small HL.out.1 (by rw [← HPQ.out.2]; exact hsm) hp)
                obtain ⟨rfl, hN, _⟩ : ee = 0 ∧ Nt wr w3 (.slice Av nv cv') (V us ^ m) ∧ True := by
                  rcases HS.out with h | h
                  · exact ⟨h.1, h.2.1, trivial⟩
                  · exact absurd (HP3.out m (Nat.le_refl _)) (by have := h.2.2; omega)
                obtain ⟨A5, n5, c5, zs5, he5, h5⟩ := Nu.of hN HB3.out (HP3.out m (Nat.le_refl _))
                injection he5 with q1 q2 q3
                subst q1 q2 q3
                have H5 := Lib.hid h5
                clear h5 hN HS HB3 HN
                go_wp2_with (fail)
                refine (RPow_ok _ _ _ us m w3 (by omega) (by omega) H3.out.1 HP3.out).mono ?_
                rintro e w5 hR5
                obtain ⟨A6, n6, c6, zs6, rfl, h6⟩ := hR5.open (HP3.out m (Nat.le_refl _))
                have H6 := Lib.hid (And.intro (H5.out.keep h6.bel) (And.intro h6 (And.intro (H3.out.1.below h6.bel) (H3.out.2.trans (h6.bel.mono H3.out.2.size)))))
                clear h6 hR5 H5
                go_wp2_with (fail)
                refine (Is_two H6.out.1 H6.out.2.1).mono ?_
                rintro e w6 ⟨rfl, b6⟩
                have HN : Hid (-9223372036854775808 ≤ (q : Int) ∧ (q : Int) ≤ 9223372036854775807 ∧ Sl w6 A1 k1 d1 us ∧ Below w.heap.size w w6) := ⟨Hq.out.1, Hq.out.2, H6.out.2.2.1.below b6, H6.out.2.2.2.trans (b6.mono H6.out.2.2.2.size)⟩
                clear H6 b6
                go_wp2_with (fail)
                go_roundw
                case rel => exact ⟨q, r + 1, by omega, by go_num, rfl, HN⟩
                case measure => simp [intOf]; omega
              · have hsi : ¬ (Q : Int) ≤ 5000 := by omega
                clear hsm
                clear HS HB3
                go_wp2_with (fail)
                go_roundw
                case rel => exact ⟨q, r + 1, by omega, by go_num, rfl, HN⟩
                case measure => simp [intOf]; omega
    · go_wp2_with (fail)
      refine (nawake_any _).mono ?_
      rintro e w3 ⟨rfl, b3⟩
      go_wp2_with (fail)
      go_ret
      exact ⟨rfl, hH.out.2.2.2.trans (b3.mono hH.out.2.2.2.size)⟩
end Go.Proofs.Ytalcikmngglplaa.natPowers
