/- The walk of the law WordsSizes. -/
import Derived.Test.YtnhoodpglbjhhaaAwake
import Derived.Test.YtnhoodpglbjhhaaNeg
import Derived.Test.YtnhoodpglbjhhaaAddMul
import Derived.Test.YtnhoodpglbjhhaaSubMul
import Derived.OpenShut
namespace Go.Proofs.Ytnhoodpglbjhhaa.wordsSizes
open Go.ChangeShapes Go.RowKit
set_option linter.unusedVariables false

theorem chk_l (n : Nat) (h : 4096 < n) : chk [(n : Int), ((1 : Nat) : Int)] = 2 := chk_two_big n 1 (.inl h)
theorem chk_r (n : Nat) (h : 4096 < n) : chk [((1 : Nat) : Int), (n : Int)] = 2 := chk_two_big 1 n (.inr h)

set_option maxRecDepth 100000 in
set_option maxHeartbeats 1000000 in
theorem walk (a0 : Int) (w0 : (Lit.int .i64 a0).wf = true) (a1 : Int) (w1 : (Lit.int .u64 a1).wf = true) (w : World) :
    Calls Try.prog 8 #[.int .i64 a0, .int .u64 a1] w fun e w' => e = .returned (.bool true) ∧ Below w.heap.size w w' := by
  obtain ⟨i0, hi, hz0, hz1, hz2⟩ := info_parts Try.info23
  obtain ⟨m, cc, hm, hm1, hm2⟩ := u64_mod a0
  clear hm1 hm2
  have hr : ∃ r : Nat, (m : Int) % 3 = (r : Int) ∧ r < 3 := ⟨m % 3, by omega, by omega⟩
  obtain ⟨r, hr, hr3⟩ := hr
  have hn : ∃ n : Nat, (4097 : Int) + (r : Int) = (n : Int) ∧ 4096 < n ∧ n ≤ 4099 := ⟨4097 + r, by omega, by omega, by omega⟩
  obtain ⟨n, hn, hn1, hn2⟩ := hn
  have w1' := bounds_u64 w1
  obtain ⟨x, rfl⟩ := Int.eq_ofNat_of_zero_le (show 0 ≤ a1 by omega)
  clear w0 w1 w1'
  go_enter Try.func8, Try.ntmps8
  go_wp2_with (at_make; refine wpList_make_full _ rfl _ _ 22 rfl w.heap.size 23 i0 (.int .u64 0) 1 Try.underlying22 hi hz0 hz1 .i64 .i64 _ _ n rfl rfl rfl rfl (by rw [hz2]; omega) (by unfold maxLen; omega) (Nat.le_refl _) ?_)
  intro W hown hgrow
  have hb := below_of_grown hgrow (Nat.le_refl _)
  clear hown hgrow hm hr hn
  go_wp2_with (fail)
  refine (Add_err _ _ _ _ _ _ 2 2 _ (chk_l n hn1) (by decide) (by omega) (by omega)).mono ?_
  rintro e W1 ⟨rfl, b1⟩
  have hb1 := belowC hb b1
  clear hb b1
  go_wp2_with (fail)
  refine (Sub_err _ _ _ _ _ _ 2 2 _ (chk_r n hn1) (by decide) (by omega) (by omega)).mono ?_
  rintro e W2 ⟨rfl, b2⟩
  have hb2 := hb1.trans (b2.mono hb1.size)
  clear hb1 b2
  go_wp2_with (fail)
  refine (MulWord_err _ n _ _ _ _ hn1 (by omega)).mono ?_
  rintro e W3 ⟨rfl, b3⟩
  have hb3 := hb2.trans (b3.mono hb2.size)
  clear hb2 b3
  go_wp2_with (fail)
  refine (AddMul_err _ _ _ _ _ _ _ 2 _ (chk_l n hn1) (by decide) (by omega) (by omega)).mono ?_
  rintro e W4 ⟨rfl, b4⟩
  have hb4 := hb3.trans (b4.mono hb3.size)
  clear hb3 b4
  go_wp2_with (fail)
  refine (SubMul_err _ _ _ _ _ _ _ 2 _ (chk_r n hn1) (by decide) (by omega) (by omega)).mono ?_
  rintro e W5 ⟨rfl, b5⟩
  have hb5 := hb4.trans (b5.mono hb4.size)
  clear hb4 b5
  go_wp2_with (fail)
  refine (DivWord_err _ n _ 0 _ _ hn1).mono ?_
  rintro e W6 ⟨rfl, b6⟩
  have hb6 := hb5.trans (b6.mono hb5.size)
  clear hb5 b6
  go_wp2_with (fail)
  refine (Left_err _ n _ _ _ hn1).mono ?_
  rintro e W7 ⟨rfl, b7⟩
  have hb7 := hb6.trans (b7.mono hb6.size)
  clear hb6 b7
  go_wp2_with (fail)
  refine (Right_err _ n _ _ _ hn1).mono ?_
  rintro e W8 ⟨rfl, b8⟩
  have hb8 := hb7.trans (b8.mono hb7.size)
  clear hb7 b8
  go_wp2_with (fail)
  refine (Cmp_err _ _ _ _ _ _ 2 _ (chk_r n hn1) (by decide) (by omega) (by omega)).mono ?_
  rintro e W9 ⟨rfl, b9⟩
  have hb9 := hb8.trans (b9.mono hb8.size)
  clear hb8 b9
  go_wp2_with (fail)
  refine (Negate_err _ n _ _ hn1 (by omega)).mono ?_
  rintro e W10 ⟨rfl, b10⟩
  have hb10 := hb9.trans (b10.mono hb9.size)
  clear hb9 b10
  go_wp2_with (fail)
  refine (awake_any _).mono ?_
  rintro e W11 ⟨rfl, b11⟩
  have hb11 := hb10.trans (b11.mono hb10.size)
  clear hb10 b11
  go_wp2_with (fail)
  go_ret
  exact ⟨rfl, hb11⟩
end Go.Proofs.Ytnhoodpglbjhhaa.wordsSizes
