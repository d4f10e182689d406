/- The walk of the law FastMuls. -/
import Derived.Test.YtelenmfajhamlaaDoorZFAwake
import Derived.Test.YtelenmfajhamlaaDoorZFSq
import Derived.Test.YtelenmfajhamlaaDoorZLawF
import Derived.OpenShut
namespace Go.Proofs.YtelenmfajhamlaaDoor.fastMuls
open Go.ChangeShapes Go.RowKit
set_option linter.unusedVariables false
set_option linter.unusedSimpArgs false

theorem least_ok (b : Int) (s : Nat) (w : World) (hs : IntKind.u64.wrap b % 62 = (s : Int)) (hs61 : s ≤ 61) :
    Calls Tryd.prog 32 #[.int .i64 b] w fun e w' => e = .returned (.int .i64 (3 + (s : Int))) ∧ w = w' := by
  have hs2 : (IntKind.u64.wrap b).tmod 62 = (s : Int) := by have hw := IntKind.wrap_u64 b; rw [Int.tmod_eq_emod_of_nonneg (by rw [hw]; omega)]; exact hs
  go_enter Tryd.func32, Tryd.ntmps32
  go_wp2_with (fail)
  go_ret
  exact ⟨rfl, rfl⟩

set_option maxRecDepth 100000 in
set_option maxHeartbeats 8000000 in
theorem walk (w : World) (a0 : Option Addr) (n0 c0 : Nat) (xs : List Nat) (hx : Sl w a0 n0 c0 xs) (a1 : Option Addr) (n1 c1 : Nat) (ys : List Nat) (hy : Sl w a1 n1 c1 ys) (a2 : Int) (w2 : (Lit.int .i64 a2).wf = true) (hT : TabF w) :
    Calls Tryd.prog 6 #[.slice a0 n0 c0, .slice a1 n1 c1, .int .i64 a2] w fun e w' => e = .returned (.bool true) ∧ Below w.heap.size w w' := by
  have Hx := Lib.hid (And.intro hx (And.intro hy hT))
  clear hx hy w2 hT
  go_enter Tryd.func6, Tryd.ntmps6
  go_wp2_with (fail)
  refine (few3_row _ _ _ 40 xs _ Hx.out.1 (by omega)).mono ?_
  rintro e w3 ⟨A1, k1, d1, us, rfl, hk1, hs1, -, -, hb1⟩
  have H1 := Lib.hid (And.intro hs1 (And.intro (Hx.out.2.1.below hb1) (And.intro (Hx.out.2.2.below hb1) hb1)))
  clear hs1 hb1
  go_wp2_with (fail)
  refine (few3_row _ _ _ 40 ys _ H1.out.2.1 (by omega)).mono ?_
  rintro e w4 ⟨A2, k2, d2, vs, rfl, hk2, hs2, -, -, hb2⟩
  have H2 : Hid (Row2 w w4 A1 A2 k1 k2 d1 d2 us vs) := ⟨H1.out.1.below hb2, hs2, H1.out.2.2.1.below hb2, H1.out.2.2.2.trans (hb2.mono H1.out.2.2.2.size)⟩
  clear hs2 hb2 H1
  have HL := Lib.hid (And.intro (mul_lt3 H2.out.1 H2.out.2.1 (by omega)) (mul_lt3 H2.out.1 H2.out.1 (by omega)))
  go_wp2_with (fail)
  refine (FMul_ok _ _ _ _ _ _ us vs _ (by omega) (by omega) (by omega) H2.out.1 H2.out.2.1).mono ?_
  rintro e w5 hR
  obtain ⟨A3, k3, d3, zs, rfl, h3⟩ := hR.open HL.out.1
  have H3 : Hid (Row3 w w5 A1 A2 A3 k1 k2 k3 d1 d2 d3 us vs zs) := ⟨H2.out.keep h3.bel, h3.1⟩
  have HN := Lib.hid h3
  have hk3 := h3.2.2.2.1
  have HV := Lib.hid h3.2.2.1
  clear hR h3 H2
  go_wp2_with (fail)
  refine (RNMul_ok _ _ _ _ _ _ us vs _ (by omega) (by omega) H3.out.1.1 H3.out.1.2.1).mono ?_
  rintro e w6 hR
  obtain ⟨A4, k4, d4, zs4, rfl, h4⟩ := hR.open HL.out.1
  have H4 := Lib.hid (And.intro (H3.out.keep h4.bel) (And.intro (HN.out.keep h4.bel) h4))
  clear hR h4 H3 HN
  go_wp2_with (fail)
  refine (Is_nu H4.out.2.1 H4.out.2.2.1 H4.out.2.2.2.2.2.1 H4.out.2.2.2.2.1).mono ?_
  rintro e w7 ⟨rfl, b7⟩
  have H5 := Lib.hid (H4.out.1.keep b7)
  clear b7 H4
  go_wp2_with (fail)
  go_loopw [2, 12, 13, 14, 15, 16, 17, 18] (fun bv kv _ _ _ _ _ _ wr => ∃ (k : Nat) (b : Int), k ≤ 2 ∧ kv = .int .i64 k ∧ bv = .int .i64 b ∧ Hid (Row3 w wr A1 A2 A3 k1 k2 k3 d1 d2 d3 us vs zs)) (fun _ kv _ _ _ _ _ _ _ => 2 - (intOf kv).toNat)
  case atStart => exact ⟨0, a2, by omega, rfl, rfl, H5⟩
  case round =>
    clear H5
    obtain ⟨k, b, hk, rfl, rfl, H⟩ := hrel
    by_cases hlt : k < 2
    · have hki : (k : Int) < 2 := by omega
      obtain ⟨s, hs⟩ : ∃ s, (IntKind.u64.wrap b % 62).toNat = s := ⟨_, rfl⟩
      have hw := IntKind.wrap_u64 b
      have HSs := Lib.hid (show s ≤ 61 ∧ IntKind.u64.wrap b % 62 = (s : Int) by omega)
      clear hs hw
      by_cases hout : b < 3 ∨ 64 < b
      · have HC2 := Lib.hid (show chkL b [(A1, k1, d1), (A2, k2, d2)] = 1 by rw [chkL, if_pos (chkS_two (by omega) (by omega)), if_pos hout])
        have HC1 := Lib.hid (show chkL b [(A1, k1, d1)] = 1 by rw [chkL, if_pos (chkS_one (by omega)), if_pos hout])
        go_wp2_with (fail)
        refine (Karatsuba_err b _ _ _ _ _ _ 1 _ HC2.out rfl).mono ?_
        rintro e w8 ⟨rfl, b8⟩
        have H8 := Lib.hid (H.out.keep b8)
        clear b8
        go_wp2_with (fail)
        refine (Toom_err b _ _ _ _ _ _ 1 _ HC2.out rfl).mono ?_
        rintro e w9 ⟨rfl, b9⟩
        have H9 := Lib.hid (H8.out.keep b9)
        clear b9 H8
        go_wp2_with (fail)
        refine (Square_err b _ _ _ 1 _ HC1.out rfl).mono ?_
        rintro e w10 ⟨rfl, b10⟩
        have H10 := Lib.hid (H9.out.keep b10)
        clear b10 H9
        by_cases h1 : b < 3
        · go_wp2_with (fail)
          refine (least_ok b s _ HSs.out.2 HSs.out.1).mono ?_
          rintro e w11 ⟨rfl, rfl⟩
          go_wp2_with (fail)
          refine ⟨⟨k + 1, 3 + (s : Int), by omega, by go_num, rfl, H10⟩, ?_⟩
          simp [intOf]; omega
        · have h2 : 64 < b := by omega
          go_wp2_with (fail)
          refine (least_ok b s _ HSs.out.2 HSs.out.1).mono ?_
          rintro e w11 ⟨rfl, rfl⟩
          go_wp2_with (fail)
          refine ⟨⟨k + 1, 3 + (s : Int), by omega, by go_num, rfl, H10⟩, ?_⟩
          simp [intOf]; omega
      · obtain ⟨m, rfl⟩ := Int.eq_ofNat_of_zero_le (show 0 ≤ b by omega)
        have hm3 : 3 ≤ m := by omega
        have hm64 : m ≤ 64 := by omega
        clear hout
        go_wp2_with (fail)
        refine (Karatsuba_ok m hm3 hm64 _ _ _ _ _ _ us vs _ (by omega) (by omega) H.out.1.1 H.out.1.2.1 H.out.1.2.2.1).mono ?_
        rintro e w8 hR
        obtain ⟨A5, k5, d5, zs5, rfl, h5⟩ := hR.open HL.out.1
        have H8 := Lib.hid (And.intro (H.out.keep h5.bel) h5)
        clear hR h5
        go_wp2_with (fail)
        refine (Toom_ok m hm3 hm64 _ _ _ _ _ _ us vs _ (by omega) (by omega) H8.out.1.1.1 H8.out.1.1.2.1 H8.out.1.1.2.2.1).mono ?_
        rintro e w9 hR
        obtain ⟨A6, k6, d6, zs6, rfl, h6⟩ := hR.open HL.out.1
        have H9 := Lib.hid (And.intro (H8.out.1.keep h6.bel) (And.intro (H8.out.2.keep h6.bel) h6))
        clear hR h6 H8
        go_wp2_with (fail)
        refine (Square_ok m hm3 hm64 _ _ _ us _ (by omega) H9.out.1.1.1).mono ?_
        rintro e w10 hR
        obtain ⟨A7, k7, d7, zs7, rfl, h7⟩ := hR.open HL.out.2
        have H10 := Lib.hid (And.intro (H9.out.1.keep h7.bel) (And.intro (H9.out.2.1.keep h7.bel) (And.intro (H9.out.2.2.keep h7.bel) h7)))
        clear hR h7 H9
        go_wp2_with (fail)
        refine (Is_nu H10.out.2.1 H10.out.1.2 hk3 HV.out).mono ?_
        rintro e w11 ⟨rfl, b11⟩
        have H11 := Lib.hid (And.intro (H10.out.1.keep b11) (And.intro (H10.out.2.2.1.keep b11) (H10.out.2.2.2.keep b11)))
        clear b11 H10
        go_wp2_with (fail)
        refine (Is_nu H11.out.2.1 H11.out.1.2 hk3 HV.out).mono ?_
        rintro e w12 ⟨rfl, b12⟩
        have H12 := Lib.hid (And.intro (H11.out.1.keep b12) (H11.out.2.2.keep b12))
        clear b12 H11
        go_wp2_with (fail)
        refine (RNMul_ok _ _ _ _ _ _ us us _ (by omega) (by omega) H12.out.1.1.1 H12.out.1.1.1).mono ?_
        rintro e w13 hR
        obtain ⟨A8, k8, d8, zs8, rfl, h8⟩ := hR.open HL.out.2
        have H13 := Lib.hid (And.intro (H12.out.1.keep h8.bel) (And.intro (H12.out.2.keep h8.bel) h8))
        clear hR h8 H12
        go_wp2_with (fail)
        refine (Is_nu H13.out.2.1 H13.out.2.2.1 H13.out.2.2.2.2.2.1 H13.out.2.2.2.2.1).mono ?_
        rintro e w14 ⟨rfl, b14⟩
        have H14 := Lib.hid (H13.out.1.keep b14)
        clear b14 H13
        go_wp2_with (fail)
        refine (least_ok (m : Int) s _ HSs.out.2 HSs.out.1).mono ?_
        rintro e w15 ⟨rfl, rfl⟩
        go_wp2_with (fail)
        refine ⟨⟨k + 1, 3 + (s : Int), by omega, by go_num, rfl, H14⟩, ?_⟩
        simp [intOf]; omega
    · have hki : ¬ (k : Int) < 2 := by omega
      go_wp2_with (fail)
      refine (fawake_any _ H.out.1.2.2.1).mono ?_
      rintro e w2 ⟨rfl, hb2⟩
      have HB := Lib.hid (H.out.keep hb2)
      clear hb2
      go_wp2_with (fail)
      go_ret
      exact ⟨rfl, HB.out.1.2.2.2⟩
end Go.Proofs.YtelenmfajhamlaaDoor.fastMuls
