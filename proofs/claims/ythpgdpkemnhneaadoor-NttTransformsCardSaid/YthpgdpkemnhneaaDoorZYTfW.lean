/- The walk of the law NttTransforms. -/
import Derived.Test.YthpgdpkemnhneaaDoorZYRfT
import Derived.Test.YthpgdpkemnhneaaDoorZYTame
import Derived.OpenShut
namespace Go.Proofs.YthpgdpkemnhneaaDoor.nttTransforms
open Go.ChangeShapes Go.RowKit
set_option linter.unusedVariables false
set_option linter.unusedSimpArgs false

theorem tame5 (A : Option Addr) (n c : Nat) (xs : List Nat) (w : World) (hx : Sl w A n c xs) :
    Calls Tryd.prog 17 #[.slice A n c, .int .i64 5] w fun e w' => ∃ A1 k1 d1 us, e = .returned (.slice A1 k1 d1) ∧ k1 ≤ 40 ∧ Sl w' A1 k1 d1 us ∧ Below w.heap.size w w' := by
  refine (tame_ok A n c 5 xs w (by decide) (by have := hx.2.1; have := hx.2.2.1; omega) hx).mono ?_
  rintro e w' ⟨s, hs, hR⟩
  obtain ⟨g, c3, rfl, h1, h2, -⟩ := hR.open
  exact ⟨_, 2 ^ s, c3, _, rfl, Nat.le_trans (Nat.pow_le_pow_right (n := 2) (by decide) hs) (by decide), h1, h2⟩
open Classical in
set_option maxRecDepth 100000 in
set_option maxHeartbeats 8000000 in
theorem walk (w : World) (a0 : Option Addr) (n0 c0 : Nat) (xs : List Nat) (hx : Sl w a0 n0 c0 xs) (hT : TabY w) :
    Calls Tryd.prog 3 #[.slice a0 n0 c0] w fun e w' => e = .returned (.bool true) ∧ Below w.heap.size w w' := by
  have Hx := Lib.hid (And.intro hx hT)
  clear hx hT
  go_enter Tryd.func3, Tryd.ntmps3
  go_wp2_with (fail)
  refine (few4_row _ _ _ 40 xs _ Hx.out.1 (by omega)).mono ?_
  rintro e w3 ⟨A1, k1, d1, us, rfl, hk1, hs1, -, -, hb1⟩
  have H1 : Hid (∃ us, RowY w w3 A1 a0 k1 n0 d1 c0 us xs) := Lib.hid ⟨us, hs1, Hx.out.1.below hb1, Hx.out.2.below hb1, hb1⟩
  clear hs1 hb1 Hx
  go_wp2_with (fail)
  go_loopw [3, 4, 5, 6, 7, 8] (fun av iv _ _ _ _ wr => ∃ (k k1 d1 : Nat) (A1 : Option Addr), k ≤ 2 ∧ k1 ≤ 40 ∧ iv = .int .i64 k ∧ av = .slice A1 k1 d1 ∧ Hid (∃ us, RowY w wr A1 a0 k1 n0 d1 c0 us xs)) (fun _ iv _ _ _ _ _ => 2 - (intOf iv).toNat)
  case atStart => exact ⟨0, k1, d1, A1, by omega, hk1, rfl, rfl, H1⟩
  case round =>
    clear H1
    obtain ⟨k, n, d, A, hk, hn, rfl, rfl, HE⟩ := hrel
    obtain ⟨us, hH⟩ := HE.out
    have H := Lib.hid hH
    clear HE hH
    by_cases hlt : k < 2
    · have hki : (k : Int) < 2 := by omega
      have hlen := fun W => R4Length_ok (n : Int) W (by omega) (by omega)
      by_cases hL : IsLen (n : Int) ∧ Rs1 us = true
      · obtain ⟨hL1, hL2⟩ := hL
        obtain ⟨s, hs, hns⟩ := id hL1
        have hn2 : n = 2 ^ s := by omega
        have hs9 : s ≤ 9 := by
          rcases Nat.lt_or_ge 9 s with h | h
          · have := Nat.pow_le_pow_right (n := 2) (by decide) (show 6 ≤ s by omega)
            rw [← hn2] at this
            omega
          · exact h
        have hP := (rs1_iff H.out.1.1).1 hL2
        have hln : Hid (∀ W, Calls Tryd.prog 12 #[.int .i64 n] W fun e w' => e = .returned (.bool true) ∧ W = w') := Lib.hid (by intro W; have := hlen W; rwa [decide_eq_true hL1] at this)
        have HP := Lib.hid (And.intro hs (And.intro hn2 (And.intro hs9 (And.intro hP hL2))))
        obtain ⟨F, hF⟩ : ∃ F, Tr n (rt s) (yx us) = F := ⟨_, rfl⟩
        obtain ⟨G, hG⟩ : ∃ G : Nat → Nat, (fun k => Tr n (rt s) (yx us) ((n - k) % n) * (n ^ (PP - 2) % PP) % PP) = G := ⟨_, rfl⟩
        have HF := Lib.hid (And.intro hF hG)
        clear hL1 hL2 hlen hns hn2 hP hs hs9 hF hG
        go_wp2_with (fail)
        refine (YTransform_ok A n d s us _ HP.out.1 HP.out.2.1 H.out.1 HP.out.2.2.2.1 H.out.2.2.1).mono ?_
        rintro e w4 ⟨g4, c4, rfl, hc3, hc4, hRp, -, hb4⟩
        rw [HF.out.1] at hRp
        have H4 := Lib.hid (And.intro (H.out.keep hb4) (hRp.sl hc3 hc4))
        clear hc3 hc4 hRp hb4 H
        go_wp2_with (fail)
        refine (YBack_ok A n d s us _ HP.out.1 HP.out.2.1 H4.out.1.1 HP.out.2.2.2.1 H4.out.1.2.2.1).mono ?_
        rintro e w5 ⟨g5, c5, rfl, hc3, hc4, hRp, -, hb5⟩
        rw [HF.out.2] at hRp
        have H5 := Lib.hid (And.intro (H4.out.1.keep hb5) (And.intro (H4.out.2.below hb5) (hRp.sl hc3 hc4)))
        clear hc3 hc4 hRp hb5 H4
        go_wp2_with (fail)
        refine (hln.out _).mono ?_
        rintro e w6 ⟨rfl, rfl⟩
        go_wp2_with (fail)
        refine (R4Residues_ok A n d us _ (by omega) H5.out.1.1).mono ?_
        rintro e w6 ⟨rfl, rfl⟩
        rw [HP.out.2.2.2.2]
        go_wp2_with (fail)
        refine (R4Transform_ok A n d s us _ HP.out.2.2.1 HP.out.2.1 H5.out.1.1).mono ?_
        rintro e w7 ⟨B7, d7, rfl, hs7, hb7⟩
        rw [HF.out.1] at hs7
        have H7 := Lib.hid (And.intro (H5.out.1.keep hb7) (And.intro (H5.out.2.1.below hb7) (And.intro (H5.out.2.2.below hb7) hs7)))
        clear hs7 hb7 H5
        go_wp2_with (fail)
        refine (same_ok _ _ n n _ _ _ _ _ (by omega) (by omega) H7.out.2.1 H7.out.2.2.2).mono ?_
        rintro e w8 ⟨rfl, hb8⟩
        rw [decide_eq_true (rfl : tb n F = tb n F)]
        have H8 := Lib.hid (And.intro (H7.out.1.keep hb8) (H7.out.2.2.1.below hb8))
        clear hb8 H7
        go_wp2_with (fail)
        refine (R4Back_ok A n d s us _ HP.out.2.2.1 HP.out.2.1 H8.out.1.1).mono ?_
        rintro e w9 ⟨B9, d9, rfl, hs9, hb9⟩
        rw [HF.out.2] at hs9
        have H9 := Lib.hid (And.intro (H8.out.1.keep hb9) (And.intro (H8.out.2.below hb9) hs9))
        clear hs9 hb9 H8
        go_wp2_with (fail)
        refine (same_ok _ _ n n _ _ _ _ _ (by omega) (by omega) H9.out.2.1 H9.out.2.2).mono ?_
        rintro e w10 ⟨rfl, hb10⟩
        rw [decide_eq_true (rfl : tb n G = tb n G)]
        have H10 := Lib.hid (H9.out.1.keep hb10)
        clear hb10 H9
        go_wp2_with (fail)
        refine (tame5 _ _ _ xs _ H10.out.2.1).mono ?_
        rintro e w11 ⟨A3, k3, d3, vs, rfl, hk3, hs3, hb3⟩
        have HN : Hid (∃ us, RowY w w11 A3 a0 k3 n0 d3 c0 us xs) := Lib.hid ⟨vs, hs3, H10.out.2.1.below hb3, H10.out.2.2.1.below hb3, H10.out.2.2.2.trans (hb3.mono H10.out.2.2.2.size)⟩
        clear hs3 hb3 H10 HP HF
        go_wp2_with (fail)
        go_roundw
        case rel => exact ⟨k + 1, k3, d3, A3, by omega, hk3, by go_num, rfl, HN⟩
        case measure => simp [intOf]; omega
      · have HL := Lib.hid hL
        have hcase : (Hid (∀ W, Calls Tryd.prog 12 #[.int .i64 n] W fun e w' => e = .returned (.bool false) ∧ W = w')) ∨ (Hid ((∀ W, Calls Tryd.prog 12 #[.int .i64 n] W fun e w' => e = .returned (.bool true) ∧ W = w') ∧ Rs1 us = false)) := by
          by_cases hL1 : IsLen (n : Int)
          · right
            refine Lib.hid ⟨by intro W; have := hlen W; rwa [decide_eq_true hL1] at this, ?_⟩
            cases e : Rs1 us
            · rfl
            · exact absurd ⟨hL1, e⟩ hL
          · left
            exact Lib.hid (by intro W; have := hlen W; rwa [decide_eq_false hL1] at this)
        clear hL hlen
        go_wp2_with (fail)
        refine (YTransform_err A n d us _ H.out.1 HL.out).mono ?_
        rintro e w4 ⟨rfl, hb4⟩
        have H4 := Lib.hid (H.out.keep hb4)
        clear hb4 H
        go_wp2_with (fail)
        refine (YBack_err A n d us _ H4.out.1 HL.out).mono ?_
        rintro e w5 ⟨rfl, hb5⟩
        have H5 := Lib.hid (H4.out.keep hb5)
        clear hb5 H4
        go_wp2_with (fail)
        rcases hcase with hln | hln
        · refine (hln.out _).mono ?_
          rintro e w6 ⟨rfl, rfl⟩
          go_wp2_with (fail)
          refine (tame5 _ _ _ xs _ H5.out.2.1).mono ?_
          rintro e w11 ⟨A3, k3, d3, vs, rfl, hk3, hs3, hb3⟩
          have HN : Hid (∃ us, RowY w w11 A3 a0 k3 n0 d3 c0 us xs) := Lib.hid ⟨vs, hs3, H5.out.2.1.below hb3, H5.out.2.2.1.below hb3, H5.out.2.2.2.trans (hb3.mono H5.out.2.2.2.size)⟩
          clear hs3 hb3 H5 hln HL
          go_wp2_with (fail)
          go_roundw
          case rel => exact ⟨k + 1, k3, d3, A3, by omega, hk3, by go_num, rfl, HN⟩
          case measure => simp [intOf]; omega
        · refine (hln.out.1 _).mono ?_
          rintro e w6 ⟨rfl, rfl⟩
          go_wp2_with (fail)
          refine (R4Residues_ok A n d us _ (by omega) H5.out.1).mono ?_
          rintro e w6 ⟨rfl, rfl⟩
          rw [hln.out.2]
          go_wp2_with (fail)
          refine (tame5 _ _ _ xs _ H5.out.2.1).mono ?_
          rintro e w11 ⟨A3, k3, d3, vs, rfl, hk3, hs3, hb3⟩
          have HN : Hid (∃ us, RowY w w11 A3 a0 k3 n0 d3 c0 us xs) := Lib.hid ⟨vs, hs3, H5.out.2.1.below hb3, H5.out.2.2.1.below hb3, H5.out.2.2.2.trans (hb3.mono H5.out.2.2.2.size)⟩
          clear hs3 hb3 H5 hln HL
          go_wp2_with (fail)
          go_roundw
          case rel => exact ⟨k + 1, k3, d3, A3, by omega, hk3, by go_num, rfl, HN⟩
          case measure => simp [intOf]; omega
    · have hki : ¬ (k : Int) < 2 := by omega
      go_wp2_with (fail)
      refine (yawake_any _ H.out.2.2.1).mono ?_
      rintro e w9 ⟨rfl, b9⟩
      have H9 := Lib.hid (H.out.keep b9)
      clear b9 H
      go_wp2_with (fail)
      go_ret
      exact ⟨rfl, H9.out.2.2.2⟩
end Go.Proofs.YthpgdpkemnhneaaDoor.nttTransforms
