/- The walk of the law NatBits. -/
import Derived.Test.YtalcikmngglplaaZLawR
import Derived.Test.YtalcikmngglplaaP7
import Derived.Test.YtalcikmngglplaaP6
import Derived.OpenShut
namespace Go.Proofs.Ytalcikmngglplaa
open Go.RowKit
set_option linter.unusedVariables false
set_option linter.unusedSimpArgs false

theorem setOf_lt {x i e : Nat} (b : Bool) (hx : x < 2 ^ e) (hi : i ≤ e) : setOf x i b < 2 ^ (e + 1) := by
  have h := Nat.pow_le_pow_right (show 0 < 2 by decide) hi
  have h2 : 2 ^ (e + 1) = 2 ^ e + 2 ^ e := by rw [Nat.pow_succ]; omega
  rw [h2]
  clear h2
  unfold setOf
  generalize 2 ^ e = E at *
  generalize 2 ^ i = I at *
  split
  · omega
  · split <;> omega
theorem setOf_Big {us : List Nat} {k i : Nat} (b : Bool) (h : V us < B64 ^ k) (hk : k ≤ 40) (hi : i < 262144) : setOf (V us) i b < Big := by
  obtain ⟨e, he, he2⟩ : ∃ e, 64 * Most = e + 1 ∧ e = 262143 := ⟨262143, rfl, rfl⟩
  rw [show Big = 2 ^ (64 * Most) from B64_pw Most, he]
  refine setOf_lt b (Nat.lt_of_lt_of_le h ?_) (by omega)
  rw [B64_pw]
  exact Nat.pow_le_pow_right (by decide) (by omega)
theorem jl_Big (s : Int) {xs ys : List Nat} (hx : Ws xs) (hy : Ws ys) {N : Nat} (hN : N ≤ 4096) : V (jl s xs ys N) < Big :=
  Big_of (k := N) (by have := V_lt _ (jl_ws s hx hy N); rwa [jl_len] at this) hN
end Go.Proofs.Ytalcikmngglplaa
namespace Go.Proofs.Ytalcikmngglplaa.natBits
open Go.ChangeShapes Go.RowKit
set_option linter.unusedVariables false

/-- both rows, as they stand -/
def Two (w wr : World) (A1 A2 : Option Addr) (k1 k2 d1 d2 : Nat) (us vs : List Nat) : Prop := Sl wr A1 k1 d1 us ∧ Sl wr A2 k2 d2 vs ∧ Below w.heap.size w wr
theorem Two.keep {w wr w' : World} {A1 A2 : Option Addr} {k1 k2 d1 d2 : Nat} {us vs : List Nat} (h : Two w wr A1 A2 k1 k2 d1 d2 us vs) (hb : Below wr.heap.size wr w') : Two w w' A1 A2 k1 k2 d1 d2 us vs :=
  ⟨h.1.below hb, h.2.1.below hb, h.2.2.trans (hb.mono h.2.2.size)⟩

set_option maxRecDepth 100000 in
set_option maxHeartbeats 8000000 in
theorem walk (w : World) (a0 : Option Addr) (n0 c0 : Nat) (xs : List Nat) (hx : Sl w a0 n0 c0 xs) (a1 : Option Addr) (n1 c1 : Nat) (ys : List Nat) (hy : Sl w a1 n1 c1 ys) (a2 : Int) (w2 : (Lit.int .i64 a2).wf = true) :
    Calls Try.prog 8 #[.slice a0 n0 c0, .slice a1 n1 c1, .int .i64 a2] w fun e w' => e = .returned (.bool true) ∧ Below w.heap.size w w' := by
  have hb := bounds_i64 w2
  have Hx := Lib.hid (And.intro hx hy)
  have H0 := Lib.hid hb
  clear hx hy w2 hb
  go_enter Try.func8, Try.ntmps8
  go_wp2_with (fail)
  refine (few_row _ _ _ 40 xs _ Hx.out.1 (by omega)).mono ?_
  rintro e w3 ⟨A1, k1, d1, us, rfl, hk1, hs1, -, -, hb1⟩
  have H1 := Lib.hid (And.intro hs1 (And.intro (Hx.out.2.below hb1) hb1))
  clear hs1 hb1
  go_wp2_with (fail)
  refine (few_row _ _ _ 40 ys _ H1.out.2.1 (by omega)).mono ?_
  rintro e w4 ⟨A2, k2, d2, vs, rfl, hk2, hs2, -, -, hb2⟩
  have H2 : Hid (Two w w4 A1 A2 k1 k2 d1 d2 us vs) := ⟨H1.out.1.below hb2, hs2, H1.out.2.2.trans (hb2.mono H1.out.2.2.size)⟩
  clear hs2 hb2 H1
  go_wp2_with (fail)
  go_loopw [2, 9] (fun kv iv wr => ∃ (k : Int) (r : Nat), r ≤ 2 ∧ iv = .int .i64 r ∧ kv = .int .i64 k ∧ Hid (-9223372036854775808 ≤ k ∧ k ≤ 9223372036854775807 ∧ Two w wr A1 A2 k1 k2 d1 d2 us vs)) (fun _ iv _ => 2 - (intOf iv).toNat)
  case atStart => exact ⟨a2, 0, by omega, rfl, rfl, by have := H0.out; omega, by have := H0.out; omega, H2.out⟩
  case round =>
    clear H2
    obtain ⟨k, r, hr, rfl, rfl, hH⟩ := hrel
    by_cases hlt : r < 2
    · obtain ⟨u, hu⟩ : ∃ u : Nat, IntKind.u64.wrap k = (u : Int) := ⟨(k % 18446744073709551616).toNat, by rw [IntKind.wrap_u64]; omega⟩
      obtain ⟨q, hq, hq1, hq2⟩ : ∃ q : Nat, q < 2600 ∧ (u : Int).tmod 2600 = (q : Int) ∧ (u : Int) % 2600 = (q : Int) := ⟨u % 2600, Nat.mod_lt _ (by decide), by rw [Int.tmod_eq_emod_of_nonneg (by omega)]; omega, by omega⟩
      have hqw : IntKind.i64.wrap (q : Int) = (q : Int) := IntWalk.i64_in _ (by omega)
      have hri : (r : Int) < 2 := by omega
      by_cases hneg : k < 0 ∨ 262144 ≤ k
      · have Hneg := Lib.hid hneg
        have hcase : k < 0 ∨ (¬ k < 0 ∧ 262144 ≤ k) := by omega
        clear hneg
        rcases hcase with hk | ⟨hk, hk2⟩
        all_goals
          go_wp2_with (fail)
          refine (SetBit_arg _ _ _ k true wr (by omega) Hneg.out).mono ?_
          rintro e w5 ⟨rfl, b5⟩
          have H5 := Lib.hid (And.intro hH.out.1 (And.intro hH.out.2.1 (hH.out.2.2.keep b5)))
          clear b5 hH
          go_wp2_with (fail)
          refine (SetBit_arg _ _ _ k false w5 (by omega) Hneg.out).mono ?_
          rintro e w6 ⟨rfl, b6⟩
          have H6 := Lib.hid (And.intro H5.out.1 (And.intro H5.out.2.1 (H5.out.2.2.keep b6)))
          clear b6 H5
          go_wp2_with (fail)
          refine (NBit_ok _ _ _ us k w6 (by omega) H6.out.2.1 H6.out.2.2.1).mono ?_
          rintro e w7 ⟨rfl, b7⟩
          have H7 := Lib.hid (And.intro H6.out.1 (And.intro H6.out.2.1 (H6.out.2.2.keep b7)))
          clear b7 H6
          go_wp2_with (fail)
          refine (R2Bit_ok _ _ _ us k w7 (by omega) H7.out.2.1 H7.out.2.2.1).mono ?_
          rintro e w8 ⟨rfl, b8⟩
          have HN : Hid (-9223372036854775808 ≤ (q : Int) ∧ (q : Int) ≤ 9223372036854775807 ∧ Two w w8 A1 A2 k1 k2 d1 d2 us vs) := ⟨by omega, by omega, H7.out.2.2.keep b8⟩
          clear b8 H7
          generalize bitOf (V us) k = B at *
          cases B
          all_goals
            go_wp2_with (fail)
            go_roundw
            case rel => exact ⟨q, r + 1, by omega, by go_num, rfl, HN⟩
            case measure => simp [intOf]; omega
      · obtain ⟨m, rfl⟩ := Int.eq_ofNat_of_zero_le (show 0 ≤ k by omega)
        have hm : m < 262144 := by omega
        have hk0 : ¬ (m : Int) < 0 := by omega
        have hk1' : decide ((262144 : Int) ≤ (m : Int)) = false := decide_eq_false (by omega)
        clear hneg
        have HT := Lib.hid (setOf_Big true hH.out.2.2.1.lt hk1 hm)
        have HF := Lib.hid (setOf_Big false hH.out.2.2.1.lt hk1 hm)
        have HMm := Lib.hid hm
        clear hm
        go_wp2_with (fail)
        refine (SetBit_ok _ _ _ us m true wr (by omega) HMm.out hH.out.2.2.1).mono ?_
        rintro e w5 ⟨v5, rfl, hN5, b5⟩
        obtain ⟨A5, n5, c5, zs5, rfl, h5⟩ := Nu.of hN5 b5 HT.out
        have H5 := Lib.hid (And.intro (hH.out.2.2.keep b5) h5)
        clear hN5 b5 h5 hH
        go_wp2_with (fail)
        refine (SetBit_ok _ _ _ us m false w5 (by omega) HMm.out H5.out.1.1).mono ?_
        rintro e w6 ⟨v6, rfl, hN6, b6⟩
        obtain ⟨A6, n6, c6, zs6, rfl, h6⟩ := Nu.of hN6 b6 HF.out
        have H6 := Lib.hid (And.intro (H5.out.1.keep b6) (And.intro (H5.out.2.keep b6) h6))
        clear hN6 b6 h6 H5
        go_wp2_with (fail)
        refine (NBit_ok _ _ _ us m w6 (by omega) (by have := HMm.out; omega) H6.out.1.1).mono ?_
        rintro e w7 ⟨rfl, b7⟩
        have H7 := Lib.hid (And.intro (H6.out.1.keep b7) (And.intro (H6.out.2.1.keep b7) (H6.out.2.2.keep b7)))
        clear b7 H6
        go_wp2_with (fail)
        refine (R2Bit_ok _ _ _ us m w7 (by omega) (by have := HMm.out; omega) H7.out.1.1).mono ?_
        rintro e w8 ⟨rfl, b8⟩
        have H8 := Lib.hid (And.intro (H7.out.1.keep b8) (And.intro (H7.out.2.1.keep b8) (H7.out.2.2.keep b8)))
        clear b8 H7
        generalize bitOf (V us) (m : Int) = B at *
        cases B
        all_goals
          go_wp2_with (fail)
          refine (R2SetBit_ok _ _ _ us m true w8 (by omega) HMm.out H8.out.1.1).mono ?_
          rintro e w9 hR9
          obtain ⟨A9, n9, c9, zs9, rfl, h9⟩ := hR9.open HT.out
          have H9 := Lib.hid (And.intro (H8.out.1.keep h9.bel) (And.intro (H8.out.2.1.keep h9.bel) (And.intro (H8.out.2.2.keep h9.bel) h9)))
          clear hR9 h9 H8
          go_wp2_with (fail)
          refine (Is_two H9.out.2.1 H9.out.2.2.2).mono ?_
          rintro e w10 ⟨rfl, b10⟩
          have H10 := Lib.hid (And.intro (H9.out.1.keep b10) (H9.out.2.2.1.keep b10))
          clear b10 H9
          go_wp2_with (fail)
          refine (R2SetBit_ok _ _ _ us m false w10 (by omega) HMm.out H10.out.1.1).mono ?_
          rintro e w11 hR11
          obtain ⟨A11, n11, c11, zs11, rfl, h11⟩ := hR11.open HF.out
          have H11 := Lib.hid (And.intro (H10.out.1.keep h11.bel) (And.intro (H10.out.2.keep h11.bel) h11))
          clear hR11 h11 H10
          go_wp2_with (fail)
          refine (Is_two H11.out.2.1 H11.out.2.2).mono ?_
          rintro e w12 ⟨rfl, b12⟩
          have HN : Hid (-9223372036854775808 ≤ (q : Int) ∧ (q : Int) ≤ 9223372036854775807 ∧ Two w w12 A1 A2 k1 k2 d1 d2 us vs) := ⟨by omega, by omega, H11.out.1.keep b12⟩
          clear b12 H11
          go_wp2_with (fail)
          go_roundw
          case rel => exact ⟨q, r + 1, by omega, by go_num, rfl, HN⟩
          case measure => simp [intOf]; omega
    · obtain ⟨N, hN, hN4⟩ : ∃ N : Nat, Mx N k1 k2 ∧ N ≤ 40 := by
        unfold Mx
        rcases Nat.lt_or_ge k1 k2 with h | h
        · exact ⟨k2, ⟨by omega, by omega, by omega⟩, by omega⟩
        · exact ⟨k1, ⟨by omega, by omega, by omega⟩, by omega⟩
      have HM := Lib.hid hN
      have HB := Lib.hid (fun s => jl_Big s hH.out.2.2.1.2.2.2.1 hH.out.2.2.2.1.2.2.2.1 (N := N) (by omega))
      have H4 := Lib.hid hH.out.2.2
      clear hN hH
      go_wp2_with (fail)
      refine (NAnd_ok _ _ _ _ _ _ us vs N wr (by omega) (by omega) HM.out H4.out.1 H4.out.2.1).mono ?_
      rintro e w21 ⟨v21, rfl, hN21, b21⟩
      obtain ⟨A21, n21, c21, zs21, rfl, h21⟩ := Nu.of hN21 b21 (HB.out 38)
      have H21 := Lib.hid (And.intro (H4.out.keep b21) h21)
      clear hN21 b21 h21 H4
      go_wp2_with (fail)
      refine (NOr_ok _ _ _ _ _ _ us vs N w21 (by omega) (by omega) HM.out H21.out.1.1 H21.out.1.2.1).mono ?_
      rintro e w22 ⟨v22, rfl, hN22, b22⟩
      obtain ⟨A22, n22, c22, zs22, rfl, h22⟩ := Nu.of hN22 b22 (HB.out 124)
      have H22 := Lib.hid (And.intro (H21.out.1.keep b22) (And.intro (H21.out.2.keep b22) h22))
      clear hN22 b22 h22 H21
      go_wp2_with (fail)
      refine (NXor_ok _ _ _ _ _ _ us vs N w22 (by omega) (by omega) HM.out H22.out.1.1 H22.out.1.2.1).mono ?_
      rintro e w23 ⟨v23, rfl, hN23, b23⟩
      obtain ⟨A23, n23, c23, zs23, rfl, h23⟩ := Nu.of hN23 b23 (HB.out 94)
      have H23 := Lib.hid (And.intro (H22.out.1.keep b23) (And.intro (H22.out.2.1.keep b23) (And.intro (H22.out.2.2.keep b23) h23)))
      clear hN23 b23 h23 H22
      go_wp2_with (fail)
      refine (R2Joined_ok _ _ _ _ _ _ us vs 0 38 N w23 (by omega) (by omega) HM.out (by decide) H23.out.1.1 H23.out.1.2.1).mono ?_
      rintro e w24 hR24
      obtain ⟨A24, n24, c24, zs24, rfl, h24⟩ := hR24.open (HB.out 38)
      have H24 := Lib.hid (And.intro (H23.out.1.keep h24.bel) (And.intro (H23.out.2.1.keep h24.bel) (And.intro (H23.out.2.2.1.keep h24.bel) (And.intro (H23.out.2.2.2.keep h24.bel) h24))))
      clear hR24 h24 H23
      go_wp2_with (fail)
      refine (Is_two H24.out.2.1 H24.out.2.2.2.2).mono ?_
      rintro e w25 ⟨rfl, b25⟩
      have H25 := Lib.hid (And.intro (H24.out.1.keep b25) (And.intro (H24.out.2.2.1.keep b25) (H24.out.2.2.2.1.keep b25)))
      clear b25 H24
      go_wp2_with (fail)
      refine (R2Joined_ok _ _ _ _ _ _ us vs 1 124 N w25 (by omega) (by omega) HM.out (by decide) H25.out.1.1 H25.out.1.2.1).mono ?_
      rintro e w26 hR26
      obtain ⟨A26, n26, c26, zs26, rfl, h26⟩ := hR26.open (HB.out 124)
      have H26 := Lib.hid (And.intro (H25.out.1.keep h26.bel) (And.intro (H25.out.2.1.keep h26.bel) (And.intro (H25.out.2.2.keep h26.bel) h26)))
      clear hR26 h26 H25
      go_wp2_with (fail)
      refine (Is_two H26.out.2.1 H26.out.2.2.2).mono ?_
      rintro e w27 ⟨rfl, b27⟩
      have H27 := Lib.hid (And.intro (H26.out.1.keep b27) (H26.out.2.2.1.keep b27))
      clear b27 H26
      go_wp2_with (fail)
      refine (R2Joined_ok _ _ _ _ _ _ us vs 2 94 N w27 (by omega) (by omega) HM.out (by decide) H27.out.1.1 H27.out.1.2.1).mono ?_
      rintro e w28 hR28
      obtain ⟨A28, n28, c28, zs28, rfl, h28⟩ := hR28.open (HB.out 94)
      have H28 := Lib.hid (And.intro (H27.out.1.keep h28.bel) (And.intro (H27.out.2.keep h28.bel) h28))
      clear hR28 h28 H27
      go_wp2_with (fail)
      refine (Is_two H28.out.2.1 H28.out.2.2).mono ?_
      rintro e w29 ⟨rfl, b29⟩
      have H29 := Lib.hid (H28.out.1.keep b29)
      clear b29 H28
      go_wp2_with (fail)
      refine (nawake_any _).mono ?_
      rintro e w3 ⟨rfl, b3⟩
      go_wp2_with (fail)
      go_ret
      exact ⟨rfl, (H29.out.keep b3).2.2⟩
end Go.Proofs.Ytalcikmngglplaa.natBits
