/- The contract of words.Wide. -/
import Derived.Test.YtekikolhnfofeaaWord
namespace Go.Proofs.Ytekikolhnfofeaa
open Go.RowKit
set_option linter.unusedVariables false

theorem Wide_ok (a b : Nat) (ha : a < B64) (hb : b < B64) : ∃ h l : Nat, (a * b = h * B64 + l ∧ l < B64) ∧
    ∀ w, Calls Try.prog 121 #[.int .u64 a, .int .u64 b] w fun e w' => e = .returned (.tuple #[.int .u64 (h : Int), .int .u64 (l : Int)]) ∧ Below w.heap.size w w' := by
  obtain ⟨h, l, hf, hcall⟩ := times_any a b ha hb
  refine ⟨h, l, ⟨hf.1, hf.2.1⟩, fun w => ?_⟩
  have Hc := Lib.hid hcall
  clear hf hcall ha hb
  go_enter Try.func121, Try.ntmps121
  go_wp2_with (fail)
  refine (Hc.out _).mono ?_
  rintro e w1 ⟨rfl, hb⟩
  go_wp2_with (fail)
  go_quiet (fail)
  go_wp2
  exact bodyPost_ret (v := .tuple #[.int .u64 (h : Int), .int .u64 (l : Int)]) (by simp [results, Try.results121, go_sem]) rfl ⟨rfl, below_drewN (hb.alloc hb.size _) _⟩
end Go.Proofs.Ytekikolhnfofeaa
