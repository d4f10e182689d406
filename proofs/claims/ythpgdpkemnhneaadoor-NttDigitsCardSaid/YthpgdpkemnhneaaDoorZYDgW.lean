/- The walk of the law NttDigits. -/
import Derived.Test.YthpgdpkemnhneaaDoorZYDgR
import Derived.OpenShut
namespace Go.Proofs.YthpgdpkemnhneaaDoor.nttDigits
open Go.ChangeShapes Go.RowKit
set_option linter.unusedVariables false
set_option linter.unusedSimpArgs false

theorem dsum_big {sz m : Nat} {f : Nat → Nat} (hsz : sz = 8 ∨ sz = 16 ∨ sz = 32) (hf : ∀ i, f i < B64) (hm : m ≤ 4096) : dsum sz m f < Big := by
  rw [← jv_all]
  exact Big_of (jv_lt (by omega) hf m m 0 (by omega)) hm
/-- the next size -/
theorem next_size (n : Int) : ∃ (s N : Nat), (IntKind.u64.wrap n).tmod 3 = (s : Int) ∧ IntKind.u64.wrap n % 3 = (s : Int) ∧ IntKind.u64.wrap (s : Int) = (s : Int) ∧ (0 : Int) ≤ (s : Int) ∧ (s : Int) ≤ 64 ∧ IntKind.i64.wrap (8 * 2 ^ s) = (N : Int) ∧ Hid (N = 8 ∨ N = 16 ∨ N = 32) := by
  have hw := IntKind.wrap_u64 n
  obtain ⟨s, hs, hs3⟩ : ∃ s : Nat, IntKind.u64.wrap n % 3 = (s : Int) ∧ s ≤ 2 := ⟨(IntKind.u64.wrap n % 3).toNat, by omega, by omega⟩
  have h0 : 0 ≤ IntKind.u64.wrap n := by rw [hw]; omega
  refine ⟨s, 8 * 2 ^ s, by rw [Int.tmod_eq_emod_of_nonneg h0, hs], hs, wrap_nat s (by have : B64 = 18446744073709551616 := rfl; omega), by omega, by omega, ?_, Lib.hid ?_⟩
  · have : s = 0 ∨ s = 1 ∨ s = 2 := by omega
    rcases this with rfl | rfl | rfl <;> rfl
  · have : s = 0 ∨ s = 1 ∨ s = 2 := by omega
    rcases this with rfl | rfl | rfl
    · exact .inl rfl
    · exact .inr (.inl rfl)
    · exact .inr (.inr rfl)
open Classical in
set_option maxRecDepth 100000 in
set_option maxHeartbeats 8000000 in
theorem walk (w : World) (a0 : Option Addr) (n0 c0 : Nat) (xs : List Nat) (hx : Sl w a0 n0 c0 xs) (a1 : Option Addr) (n1 c1 : Nat) (ys : List Nat) (hy : Sl w a1 n1 c1 ys) (a2 : Int) (w2 : (Lit.int .i64 a2).wf = true) (hT : TabY w) :
    Calls Tryd.prog 6 #[.slice a0 n0 c0, .slice a1 n1 c1, .int .i64 a2] w fun e w' => e = .returned (.bool true) ∧ Below w.heap.size w w' := by
  obtain ⟨i0, hi, hz0, hz1, hz2⟩ := info_parts Tryd.info43
  have Hx := Lib.hid (And.intro hx (And.intro hy hT))
  clear hx hy hT w2
  go_enter Tryd.func6, Tryd.ntmps6
  go_wp2_with (fail)
  refine (few4_row _ _ _ 20 xs _ Hx.out.1 (by omega)).mono ?_
  rintro e w3 ⟨A1, k1, d1, us, rfl, hk1, hs1, -, -, hb1⟩
  have H1 := Lib.hid (And.intro hs1 (And.intro (Hx.out.2.1.below hb1) (And.intro (Hx.out.2.2.below hb1) hb1)))
  clear hs1 hb1
  go_wp2_with (fail)
  refine (few4_row _ _ _ 40 ys _ H1.out.2.1 (by omega)).mono ?_
  rintro e w4 ⟨A2, k2, d2, vs, rfl, hk2, hs2, -, -, hb2⟩
  have H2 : Hid (RowY w w4 A1 A2 k1 k2 d1 d2 us vs) := ⟨H1.out.1.below hb2, hs2, H1.out.2.2.1.below hb2, H1.out.2.2.2.trans (hb2.mono H1.out.2.2.2.size)⟩
  clear hs2 hb2 H1 Hx
  go_wp2_with (fail)
  go_loopw [2, 9, 10, 11, 12, 13] (fun nv iv _ _ _ _ wr => ∃ (k : Nat) (n : Int), k ≤ 2 ∧ iv = .int .i64 k ∧ nv = .int .i64 n ∧ Hid (RowY w wr A1 A2 k1 k2 d1 d2 us vs)) (fun _ iv _ _ _ _ _ => 2 - (intOf iv).toNat)
  case atStart => exact ⟨0, a2, by omega, rfl, rfl, H2⟩
  case round =>
    clear H2
    obtain ⟨k, n, hk, rfl, rfl, H⟩ := hrel
    by_cases hlt : k < 2
    · have hki : (k : Int) < 2 := by omega
      by_cases hD : DgS n
      · obtain ⟨sz, hsz, rfl⟩ : ∃ sz : Nat, (sz = 8 ∨ sz = 16 ∨ sz = 32) ∧ n = (sz : Int) := by
          rcases hD with rfl | rfl | rfl
          · exact ⟨8, by omega, rfl⟩
          · exact ⟨16, by omega, rfl⟩
          · exact ⟨32, by omega, rfl⟩
        obtain ⟨s, N, q1, q2, q3, q4, q5, q6, HNs⟩ := next_size (sz : Int)
        have Hs := Lib.hid (And.intro hsz (dsum_big (f := yx vs) hsz (fun i => yx_lt H.out.2.1.2.2.2.1 i) (show k2 ≤ 4096 by omega)))
        have hcase : (((sz : Int) != 8) = false) ∨ (((sz : Int) != 8) = true ∧ ((sz : Int) != 16) = false) ∨ (((sz : Int) != 8) = true ∧ ((sz : Int) != 16) = true ∧ ((sz : Int) != 32) = false) := by
          rcases hsz with rfl | rfl | rfl
          · left; rfl
          · right; left; exact ⟨rfl, rfl⟩
          · right; right; exact ⟨rfl, rfl, rfl⟩
        clear hsz hD
        go_wp2_with (fail)
        refine (YDigits_ok A1 k1 d1 sz us _ Hs.out.1 (by omega) H.out.1).mono ?_
        rintro e w5 ⟨L, hL, hR⟩
        obtain ⟨m1, hm1⟩ : ∃ m1, (L + sz - 1) / sz = m1 := ⟨_, rfl⟩
        rw [hm1] at hR
        obtain ⟨g, c3, rfl, hc3, hc4, hRp, -, hb5⟩ := hR
        have H5 := Lib.hid (And.intro (H.out.keep hb5) (And.intro (hRp.sl hc3 hc4) (And.intro hL hm1)))
        clear hL hm1 hc3 hc4 hRp hb5 H
        go_wp2_with (fail)
        refine (YJoin_ok A2 k2 d2 sz vs _ Hs.out.1 (by omega) H5.out.1.2.1).mono ?_
        rintro e w6 hR
        obtain ⟨A4, k4, d4, zs4, rfl, h4⟩ := hR.open Hs.out.2
        have H6 := Lib.hid (And.intro (H5.out.1.keep h4.bel) (And.intro (H5.out.2.1.below h4.bel) (And.intro H5.out.2.2 h4)))
        clear hR h4 H5
        rcases hcase with hcase | ⟨h8, hcase⟩ | ⟨h8, h16, hcase⟩
        all_goals
          go_wp2_with (fail)
          refine (R4Digits_ok A1 k1 d1 sz us _ Hs.out.1 (by omega) H6.out.1.1).mono ?_
          rintro e w7 ⟨m2, B7, d7, rfl, hm2, hs7, hv7, hb7⟩
          have H7 := Lib.hid (And.intro (H6.out.1.keep hb7) (And.intro (H6.out.2.1.below hb7) (And.intro (H6.out.2.2.2.keep hb7) (And.intro hs7 (show m1 = m2 from H6.out.2.2.1.2 ▸ dg_len Hs.out.1 H6.out.2.2.1.1 hv7.1 hv7.2)))))
          have hm1 : m1 ≤ 1000000 := by have := H7.out.2.2.2.2; omega
          clear hs7 hv7 hb7 H6
          go_wp2_with (fail)
          refine (same_ok _ _ m1 m2 _ _ _ _ _ hm1 (by omega) H7.out.2.1 H7.out.2.2.2.1).mono ?_
          rintro e w8 ⟨rfl, hb8⟩
          rw [decide_eq_true (show tb m1 (dgt sz (V us)) = tb m2 (dgt sz (V us)) by rw [H7.out.2.2.2.2])]
          have H8 := Lib.hid (And.intro (H7.out.1.keep hb8) (H7.out.2.2.1.keep hb8))
          clear hb8 H7 hm1
          go_wp2_with (fail)
          refine (R4Join_ok A2 k2 d2 sz vs _ Hs.out.1 (by omega) H8.out.1.2.1).mono ?_
          rintro e w9 hR
          obtain ⟨A9, k9, d9, zs9, rfl, h9⟩ := hR.open Hs.out.2
          have H9 := Lib.hid (And.intro (H8.out.1.keep h9.bel) (And.intro (H8.out.2.keep h9.bel) h9))
          clear hR h9 H8
          go_wp2_with (fail)
          refine (Is_nu4 H9.out.2.1 H9.out.2.2.1 H9.out.2.2.2.2.2.1 H9.out.2.2.2.2.1).mono ?_
          rintro e w10 ⟨rfl, b10⟩
          have H10 := Lib.hid (H9.out.1.keep b10)
          clear b10 H9
          go_wp2_with (fail)
          go_roundw
          case rel => exact ⟨k + 1, N, by omega, by go_num, rfl, H10⟩
          case measure => simp [intOf]; omega
      · obtain ⟨s, N, q1, q2, q3, q4, q5, q6, HNs⟩ := next_size n
        have hn8 : (n != 8) = true := by simp; intro h; exact hD (.inl h)
        have hn16 : (n != 16) = true := by simp; intro h; exact hD (.inr (.inl h))
        have hn32 : (n != 32) = true := by simp; intro h; exact hD (.inr (.inr h))
        have HD := Lib.hid hD
        clear hD
        go_wp2_with (fail)
        refine (YDigits_arg A1 k1 d1 n _ (by omega) HD.out).mono ?_
        rintro e w5 ⟨rfl, hb5⟩
        have H5 := Lib.hid (H.out.keep hb5)
        clear hb5 H
        go_wp2_with (fail)
        refine (YJoin_arg A2 k2 d2 n _ HD.out).mono ?_
        rintro e w6 ⟨rfl, hb6⟩
        have H6 := Lib.hid (H5.out.keep hb6)
        clear hb6 H5
        go_wp2_with (fail)
        go_roundw
        case rel => exact ⟨k + 1, N, by omega, by go_num, rfl, H6⟩
        case measure => simp [intOf]; omega
    · have hki : ¬ (k : Int) < 2 := by omega
      go_wp2_with (at_make; refine wpList_make_full _ rfl _ _ 22 rfl wr.heap.size 43 i0 (.int .u64 0) 1 Tryd.underlying22 hi hz0 hz1 .i64 .i64 _ _ 262145 rfl rfl rfl rfl (by rw [hz2]; omega) (by unfold maxLen; omega) (Nat.le_refl _) ?_)
      intro w7 hown hgrow
      have hb7 := below_of_grown hgrow (Nat.le_refl _)
      have H7 := Lib.hid (H.out.keep hb7)
      clear hown hgrow hb7 H
      go_wp2_with (fail)
      refine (YJoin_big _ _ _ 8 _ (.inl rfl) (by omega)).mono ?_
      rintro e w8 ⟨rfl, b8⟩
      have H8 := Lib.hid (H7.out.keep b8)
      clear b8 H7
      go_wp2_with (fail)
      refine (yawake_any _ H8.out.2.2.1).mono ?_
      rintro e w9 ⟨rfl, b9⟩
      have H9 := Lib.hid (H8.out.keep b9)
      clear b9 H8
      go_wp2_with (fail)
      go_ret
      exact ⟨rfl, H9.out.2.2.2⟩
end Go.Proofs.YthpgdpkemnhneaaDoor.nttDigits
