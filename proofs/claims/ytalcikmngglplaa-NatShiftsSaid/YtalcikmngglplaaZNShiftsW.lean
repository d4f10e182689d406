/- The walk of the law NatShifts. -/
import Derived.Test.YtalcikmngglplaaZNPowsW
import Derived.Test.YtalcikmngglplaaP6
import Derived.Test.YtalcikmngglplaaP4
namespace Go.Proofs.Ytalcikmngglplaa
open Go.RowKit Go.Shelf
set_option linter.unusedVariables false
set_option linter.unusedSimpArgs false
set_option maxRecDepth 10000

/-- whether a number that is shifted up is small, by its length -/
theorem shl_small {x l m : Nat} (h : BL x l) : x * 2 ^ m < Big ↔ l = 0 ∨ l + m ≤ 262144 := by
  rw [Big_two]
  rcases Nat.eq_zero_or_pos x with h0 | h0
  · rw [h0, Nat.zero_mul]
    exact ⟨fun _ => .inl (h.2.2 h0), fun _ => Nat.pow_pos (by decide)⟩
  · obtain ⟨h1, h2⟩ := h.2.1 h0
    constructor
    · intro h3
      refine .inr ?_
      rcases Nat.lt_or_ge 262144 (l + m) with h4 | h4
      · exfalso
        have h5 : 2 ^ (64 * Most) ≤ 2 ^ (l - 1 + m) := Nat.pow_le_pow_right (by decide) (show 262144 ≤ l - 1 + m by omega)
        rw [Nat.pow_add] at h5
        have h6 : 2 ^ (l - 1) * 2 ^ m ≤ x * 2 ^ m := Nat.mul_le_mul_right _ h2
        exact Nat.lt_irrefl _ (Nat.lt_of_lt_of_le (Nat.lt_of_le_of_lt h6 h3) h5)
      · exact h4
    · rintro (h3 | h3)
      · omega
      · have h5 : 2 ^ (l + m) ≤ 2 ^ (64 * Most) := Nat.pow_le_pow_right (by decide) (show l + m ≤ 262144 from h3)
        rw [Nat.pow_add] at h5
        exact Nat.lt_of_lt_of_le (Nat.mul_lt_mul_of_pos_right h.1 (Nat.pow_pos (by decide))) h5
end Go.Proofs.Ytalcikmngglplaa
namespace Go.Proofs.Ytalcikmngglplaa.natShifts
open Go.ChangeShapes Go.RowKit
set_option linter.unusedVariables false

set_option maxRecDepth 100000 in
set_option maxHeartbeats 8000000 in
theorem walk (w : World) (a0 : Option Addr) (n0 c0 : Nat) (xs : List Nat) (hx : Sl w a0 n0 c0 xs) (a1 : Int) (w1 : (Lit.int .i64 a1).wf = true) :
    Calls Try.prog 7 #[.slice a0 n0 c0, .int .i64 a1] w fun e w' => e = .returned (.bool true) ∧ Below w.heap.size w w' := by
  have hb := bounds_i64 w1
  have Hx := Lib.hid hx
  have H0 := Lib.hid hb
  clear hx w1 hb
  go_enter Try.func7, Try.ntmps7
  go_wp2_with (fail)
  refine (few_row _ _ _ 40 xs _ Hx.out (by omega)).mono ?_
  rintro e w2 ⟨A1, k1, d1, us, rfl, hk1, hs1, _, _, hb1⟩
  have H1 := Lib.hid (And.intro hs1 hb1)
  clear hs1 hb1
  go_wp2_with (fail)
  go_loopw [1, 6] (fun kv iv wr => ∃ (k : Int) (r : Nat), r ≤ 2 ∧ iv = .int .i64 r ∧ kv = .int .i64 k ∧ Hid (-9223372036854775808 ≤ k ∧ k ≤ 9223372036854775807 ∧ Sl wr A1 k1 d1 us ∧ Below w.heap.size w wr)) (fun _ iv _ => 2 - (intOf iv).toNat)
  case atStart => exact ⟨a1, 0, by omega, rfl, rfl, by have := H0.out; omega, by have := H0.out; omega, H1.out⟩
  case round =>
    clear H1
    obtain ⟨k, r, hr, rfl, rfl, hH⟩ := hrel
    by_cases hlt : r < 2
    · obtain ⟨u, hu⟩ : ∃ u : Nat, IntKind.u64.wrap k = (u : Int) := ⟨(k % 18446744073709551616).toNat, by rw [IntKind.wrap_u64]; omega⟩
      obtain ⟨q, hq, hq1, hq2⟩ : ∃ q : Nat, q < 3000 ∧ (u : Int).tmod 3000 = (q : Int) ∧ (u : Int) % 3000 = (q : Int) := ⟨u % 3000, Nat.mod_lt _ (by decide), by rw [Int.tmod_eq_emod_of_nonneg (by omega)]; omega, by omega⟩
      have hqw : IntKind.i64.wrap (q : Int) = (q : Int) := IntWalk.i64_in _ (by omega)
      have hri : (r : Int) < 2 := by omega
      have hU : V us < Big := Big_of hH.out.2.2.1.lt (by omega)
      have HU := Lib.hid hU
      clear hU
      by_cases hneg : k < 0 ∨ 262144 < k
      · have Hneg := Lib.hid hneg
        have hcase : k < 0 ∨ (¬ k < 0 ∧ 262144 < k) := by omega
        clear hneg
        rcases hcase with hk | ⟨hk, hk2⟩
        all_goals
          go_wp2_with (fail)
          refine (NLeft_err (E := 1) rfl (checkShift_arg _ _ _ k wr (by omega) Hneg.out)).mono ?_
          rintro e w3 ⟨rfl, b3⟩
          have H3 := Lib.hid (And.intro (hH.out.2.2.1.below b3) (hH.out.2.2.2.trans (b3.mono hH.out.2.2.2.size)))
          clear b3 hH
          go_wp2_with (fail)
          refine (NRight_err (E := 1) rfl (checkShift_arg _ _ _ k w3 (by omega) Hneg.out)).mono ?_
          rintro e w4 ⟨rfl, b3⟩
          have H4 := Lib.hid (And.intro (H3.out.1.below b3) (H3.out.2.trans (b3.mono H3.out.2.size)))
          clear b3 H3
          go_wp2_with (fail)
          refine (NLow_err (E := 1) rfl (checkShift_arg _ _ _ k w4 (by omega) Hneg.out)).mono ?_
          rintro e w5 ⟨rfl, b3⟩
          have HN : Hid (-9223372036854775808 ≤ (q : Int) ∧ (q : Int) ≤ 9223372036854775807 ∧ Sl w5 A1 k1 d1 us ∧ Below w.heap.size w w5) := ⟨by omega, by omega, H4.out.1.below b3, H4.out.2.trans (b3.mono H4.out.2.size)⟩
          clear b3 H4
          go_wp2_with (fail)
          go_roundw
          case rel => exact ⟨q, r + 1, by omega, by go_num, rfl, HN⟩
          case measure => simp [intOf]; omega
      · obtain ⟨m, rfl⟩ := Int.eq_ofNat_of_zero_le (show 0 ≤ k by omega)
        have hm : m ≤ 262144 := by omega
        have hk0 : ¬ (m : Int) < 0 := by omega
        have hk1' : ¬ (262144 : Int) < (m : Int) := by omega
        clear hneg
        have HR1 := Lib.hid (Nat.lt_of_le_of_lt (Nat.div_le_self _ _) HU.out : V us / 2 ^ m < Big)
        have HR2 := Lib.hid (Nat.lt_of_le_of_lt (Nat.mod_le _ _) HU.out : V us % 2 ^ m < Big)
        rcases Nat.lt_or_ge (V us * 2 ^ m) Big with hsm | hsm
        · have HSM := Lib.hid hsm
          clear hsm
          go_wp2_with (fail)
          refine (NLeft_ok _ _ _ us m wr (by omega) hm hH.out.2.2.1).mono ?_
          rintro e w3 hR3
          obtain ⟨A3, n3, c3, zs3, rfl, h3⟩ := hR3.open HSM.out
          have H3 := Lib.hid (And.intro (hH.out.2.2.1.below h3.bel) (And.intro (hH.out.2.2.2.trans (h3.bel.mono hH.out.2.2.2.size)) (h3.from hH.out.2.2.2)))
          clear h3 hR3 hH
          go_wp2_with (fail)
          refine (NRight_ok _ _ _ us m w3 (by omega) hm H3.out.1).mono ?_
          rintro e w4 ⟨v4, rfl, hN4, b4⟩
          obtain ⟨A4, n4, c4, zs4, rfl, h4⟩ := Nu.of hN4 b4 HR1.out
          have H4 := Lib.hid (And.intro (H3.out.1.below b4) (And.intro (h4.from H3.out.2.1) (H3.out.2.2.keep b4)))
          clear hN4 b4 h4 H3
          go_wp2_with (fail)
          refine (NLow_ok _ _ _ us m w4 (by omega) hm H4.out.1).mono ?_
          rintro e w5 ⟨v5, rfl, hN5, b5⟩
          obtain ⟨A5, n5, c5, zs5, rfl, h5⟩ := Nu.of hN5 b5 HR2.out
          have H5 := Lib.hid (And.intro (H4.out.1.below b5) (And.intro (h5.from H4.out.2.1.bel) (And.intro (H4.out.2.1.keep b5) (H4.out.2.2.keep b5))))
          clear hN5 b5 h5 H4
          go_wp2_with (fail)
          refine (R2Right_ok _ _ _ us m w5 (by omega) (by omega) H5.out.1).mono ?_
          rintro e w6 hR6
          obtain ⟨A6, n6, c6, zs6, rfl, h6⟩ := hR6.open HR1.out
          have H6 := Lib.hid (And.intro (H5.out.1.below h6.bel) (And.intro (H5.out.2.1.keep h6.bel) (And.intro (H5.out.2.2.1.keep h6.bel) (And.intro h6 (H5.out.2.2.2.keep h6.bel)))))
          clear hR6 h6 H5
          go_wp2_with (fail)
          refine (Is_two H6.out.2.2.1 H6.out.2.2.2.1).mono ?_
          rintro e w7 ⟨rfl, b7⟩
          have H7 := Lib.hid (And.intro (H6.out.1.below b7) (And.intro (H6.out.2.1.keep b7) (H6.out.2.2.2.2.keep b7)))
          clear b7 H6
          go_wp2_with (fail)
          refine (R2Low_ok _ _ _ us m w7 (by omega) hm H7.out.1).mono ?_
          rintro e w8 hR8
          obtain ⟨A8, n8, c8, zs8, rfl, h8⟩ := hR8.open HR2.out
          have H8 := Lib.hid (And.intro (H7.out.1.below h8.bel) (And.intro (H7.out.2.1.keep h8.bel) (And.intro h8 (H7.out.2.2.keep h8.bel))))
          clear hR8 h8 H7
          go_wp2_with (fail)
          refine (Is_two H8.out.2.1 H8.out.2.2.1).mono ?_
          rintro e w9 ⟨rfl, b9⟩
          have H9 := Lib.hid (And.intro (H8.out.1.below b9) (And.intro (H8.out.2.1.keep b9).bel (H8.out.2.2.2.keep b9)))
          clear b9 H8
          go_wp2_with (fail)
          refine (RLen_ok A1 k1 d1 us w9 (by omega) H9.out.1).mono ?_
          rintro e w10 ⟨l, rfl, hl, hBL, rfl⟩
          have HL := Lib.hid hBL
          clear hBL
          have hlm : IntKind.i64.wrap ((l : Int) + (m : Int)) = (l : Int) + (m : Int) := IntWalk.i64_in _ (by omega)
          have hcs := (shl_small (m := m) HL.out).1 HSM.out
          have hcs2 : l = 0 ∨ (0 < l ∧ l + m ≤ 262144) := by omega
          clear hcs
          rcases hcs2 with hl0 | ⟨hl0, hl1⟩
          · subst hl0
            go_wp2_with (fail)
            refine (R2Left_ok _ _ _ us m w9 (by omega) hm H9.out.1).mono ?_
            rintro e w12 hR12
            obtain ⟨A12, n12, c12, zs12, rfl, h12⟩ := hR12.open HSM.out
            have H12 := Lib.hid (And.intro (H9.out.1.below h12.bel) (And.intro (H9.out.2.2.keep h12.bel) h12))
            clear hR12 h12 H9
            go_wp2_with (fail)
            refine (Is_two H12.out.2.1 H12.out.2.2).mono ?_
            rintro e w13 ⟨rfl, b13⟩
            have HN : Hid (-9223372036854775808 ≤ (q : Int) ∧ (q : Int) ≤ 9223372036854775807 ∧ Sl w13 A1 k1 d1 us ∧ Below w.heap.size w w13) := ⟨by omega, by omega, H12.out.1.below b13, (H12.out.2.1.keep b13).bel⟩
            clear b13 H12
            go_wp2_with (fail)
            go_roundw
            case rel => exact ⟨q, r + 1, by omega, by go_num, rfl, HN⟩
            case measure => simp [intOf]; omega
          · have hl2 : (0 : Int) < (l : Int) := by omega
            have hl3 : ¬ (262144 : Int) < (l : Int) + (m : Int) := by omega
            go_wp2_with (fail)
            refine (RLen_ok A1 k1 d1 us w9 (by omega) H9.out.1).mono ?_
            rintro e w11 ⟨l', rfl, _, hBL', rfl⟩
            obtain rfl : l' = l := BL_uniq hBL' HL.out
            clear hBL'
            go_wp2_with (fail)
            refine (R2Left_ok _ _ _ us m w9 (by omega) hm H9.out.1).mono ?_
            rintro e w12 hR12
            obtain ⟨A12, n12, c12, zs12, rfl, h12⟩ := hR12.open HSM.out
            have H12 := Lib.hid (And.intro (H9.out.1.below h12.bel) (And.intro (H9.out.2.2.keep h12.bel) h12))
            clear hR12 h12 H9
            go_wp2_with (fail)
            refine (Is_two H12.out.2.1 H12.out.2.2).mono ?_
            rintro e w13 ⟨rfl, b13⟩
            have HN : Hid (-9223372036854775808 ≤ (q : Int) ∧ (q : Int) ≤ 9223372036854775807 ∧ Sl w13 A1 k1 d1 us ∧ Below w.heap.size w w13) := ⟨by omega, by omega, H12.out.1.below b13, (H12.out.2.1.keep b13).bel⟩
            clear b13 H12
            go_wp2_with (fail)
            go_roundw
            case rel => exact ⟨q, r + 1, by omega, by go_num, rfl, HN⟩
            case measure => simp [intOf]; omega
        · have HSM := Lib.hid hsm
          clear hsm
          go_wp2_with (fail)
          refine (NLeft_ok _ _ _ us m wr (by omega) hm hH.out.2.2.1).mono ?_
          rintro e w3 hR3
          obtain ⟨⟨_, _, _, hbad⟩ | ⟨rfl, _⟩, b3⟩ := hR3
          · exact absurd hbad (by have := HSM.out; omega)
          have H3 := Lib.hid (And.intro (hH.out.2.2.1.below b3) (And.intro (hH.out.2.2.2.trans (b3.mono hH.out.2.2.2.size)) True.intro))
          clear b3 hH
          go_wp2_with (fail)
          refine (NRight_ok _ _ _ us m w3 (by omega) hm H3.out.1).mono ?_
          rintro e w4 ⟨v4, rfl, hN4, b4⟩
          obtain ⟨A4, n4, c4, zs4, rfl, h4⟩ := Nu.of hN4 b4 HR1.out
          have H4 := Lib.hid (And.intro (H3.out.1.below b4) (And.intro (h4.from H3.out.2.1) True.intro))
          clear hN4 b4 h4 H3
          go_wp2_with (fail)
          refine (NLow_ok _ _ _ us m w4 (by omega) hm H4.out.1).mono ?_
          rintro e w5 ⟨v5, rfl, hN5, b5⟩
          obtain ⟨A5, n5, c5, zs5, rfl, h5⟩ := Nu.of hN5 b5 HR2.out
          have H5 := Lib.hid (And.intro (H4.out.1.below b5) (And.intro (h5.from H4.out.2.1.bel) (And.intro (H4.out.2.1.keep b5) True.intro)))
          clear hN5 b5 h5 H4
          go_wp2_with (fail)
          refine (R2Right_ok _ _ _ us m w5 (by omega) (by omega) H5.out.1).mono ?_
          rintro e w6 hR6
          obtain ⟨A6, n6, c6, zs6, rfl, h6⟩ := hR6.open HR1.out
          have H6 := Lib.hid (And.intro (H5.out.1.below h6.bel) (And.intro (H5.out.2.1.keep h6.bel) (And.intro (H5.out.2.2.1.keep h6.bel) (And.intro h6 True.intro))))
          clear hR6 h6 H5
          go_wp2_with (fail)
          refine (Is_two H6.out.2.2.1 H6.out.2.2.2.1).mono ?_
          rintro e w7 ⟨rfl, b7⟩
          have H7 := Lib.hid (And.intro (H6.out.1.below b7) (And.intro (H6.out.2.1.keep b7) True.intro))
          clear b7 H6
          go_wp2_with (fail)
          refine (R2Low_ok _ _ _ us m w7 (by omega) hm H7.out.1).mono ?_
          rintro e w8 hR8
          obtain ⟨A8, n8, c8, zs8, rfl, h8⟩ := hR8.open HR2.out
          have H8 := Lib.hid (And.intro (H7.out.1.below h8.bel) (And.intro (H7.out.2.1.keep h8.bel) (And.intro h8 True.intro)))
          clear hR8 h8 H7
          go_wp2_with (fail)
          refine (Is_two H8.out.2.1 H8.out.2.2.1).mono ?_
          rintro e w9 ⟨rfl, b9⟩
          have H9 := Lib.hid (And.intro (H8.out.1.below b9) (And.intro (H8.out.2.1.keep b9).bel True.intro))
          clear b9 H8
          go_wp2_with (fail)
          refine (RLen_ok A1 k1 d1 us w9 (by omega) H9.out.1).mono ?_
          rintro e w10 ⟨l, rfl, hl, hBL, rfl⟩
          have HL := Lib.hid hBL
          clear hBL
          have hlm : IntKind.i64.wrap ((l : Int) + (m : Int)) = (l : Int) + (m : Int) := IntWalk.i64_in _ (by omega)
          have hcs : ¬ (l = 0 ∨ l + m ≤ 262144) := fun h => absurd ((shl_small (m := m) HL.out).2 h) (by have := HSM.out; omega)
          have hl2 : (0 : Int) < (l : Int) := by omega
          have hl3 : (262144 : Int) < (l : Int) + (m : Int) := by omega
          clear hcs
          go_wp2_with (fail)
          refine (RLen_ok A1 k1 d1 us w9 (by omega) H9.out.1).mono ?_
          rintro e w11 ⟨l', rfl, _, hBL', rfl⟩
          obtain rfl : l' = l := BL_uniq hBL' HL.out
          clear hBL'
          have HN : Hid (-9223372036854775808 ≤ (q : Int) ∧ (q : Int) ≤ 9223372036854775807 ∧ Sl w9 A1 k1 d1 us ∧ Below w.heap.size w w9) := ⟨by omega, by omega, H9.out.1, H9.out.2.1⟩
          go_wp2_with (fail)
          go_roundw
          case rel => exact ⟨q, r + 1, by omega, by go_num, rfl, HN⟩
          case measure => simp [intOf]; omega
    · go_wp2_with (fail)
      refine (nawake_any _).mono ?_
      rintro e w3 ⟨rfl, b3⟩
      go_wp2_with (fail)
      go_ret
      exact ⟨rfl, hH.out.2.2.2.trans (b3.mono hH.out.2.2.2.size)⟩
end Go.Proofs.Ytalcikmngglplaa.natShifts
