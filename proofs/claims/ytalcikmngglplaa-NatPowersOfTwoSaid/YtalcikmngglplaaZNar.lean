/- The contract of words.Narrow. -/
import Derived.Test.YtalcikmngglplaaP3
namespace Go.Proofs.Ytalcikmngglplaa
open Go.RowKit
set_option linter.unusedVariables false
set_option linter.unusedSimpArgs false

set_option maxHeartbeats 400000 in
theorem Narrow_ok (high low d : Nat) (h1 : high < d) (hl : low < B64) (hd : d < B64) : ∃ q r : Nat, (high * B64 + low = q * d + r ∧ r < d ∧ q < B64) ∧
    ∀ W, Calls Try.prog 130 #[.int .u64 high, .int .u64 low, .int .u64 d] W fun e W' => e = .returned (.tuple #[.int .u64 (q : Int), .int .u64 (r : Int), .int .i64 0]) ∧ ∃ n, W' = W.drewN n := by
  obtain ⟨q, r, hf, hcall⟩ := div64_any high low d h1 hl hd
  refine ⟨q, r, hf, fun W => ?_⟩
  have e0 : ((d : Int) == 0) = false := by simp; omega
  have e1 : (high : Int) < d := by omega
  have Hc := Lib.hid hcall
  clear hf hcall hl hd
  go_enter Try.func130, Try.ntmps130
  go_wp2_with (go_at_call 112; refine (Hc.out _).mono ?_; rintro e w' ⟨rfl, n, rfl⟩)
  go_ret3
  exact ⟨rfl, n, rfl⟩
set_option maxHeartbeats 400000 in
theorem Narrow_zero (high low : Int) (W : World) : Calls Try.prog 130 #[.int .u64 high, .int .u64 low, .int .u64 0] W fun e W' => e = .returned (.tuple #[.int .u64 0, .int .u64 0, .int .i64 5]) ∧ W = W' := by
  go_enter Try.func130, Try.ntmps130
  go_wp2
  go_ret3
  exact ⟨rfl, rfl⟩
set_option maxHeartbeats 400000 in
theorem Narrow_arg (high low d : Nat) (h0 : 0 < d) (h1 : d ≤ high) (W : World) : Calls Try.prog 130 #[.int .u64 high, .int .u64 low, .int .u64 d] W fun e W' => e = .returned (.tuple #[.int .u64 0, .int .u64 0, .int .i64 1]) ∧ W = W' := by
  have e0 : ((d : Int) == 0) = false := by simp; omega
  have e1 : (d : Int) ≤ high := by omega
  go_enter Try.func130, Try.ntmps130
  go_wp2
  go_ret3
  exact ⟨rfl, rfl⟩
end Go.Proofs.Ytalcikmngglplaa
