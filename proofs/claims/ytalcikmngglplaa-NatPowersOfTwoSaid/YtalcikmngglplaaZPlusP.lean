/- The contract of the method plus of words' pair. -/
import Derived.Test.YtalcikmngglplaaP1
namespace Go.Proofs.Ytalcikmngglplaa
open Go.RowKit
set_option linter.unusedVariables false
set_option linter.unusedSimpArgs false

set_option maxHeartbeats 400000 in
theorem plus_any (h l x : Nat) (hs : h * B64 + l + x < B64 * B64) (hl : l < B64) (hx : x < B64) : ∃ h2 l2 : Nat, (h * B64 + l + x = h2 * B64 + l2 ∧ l2 < B64 ∧ h2 < B64) ∧
    ∀ w, Calls Try.prog 134 #[.agg #[.int .u64 (h : Int), .int .u64 (l : Int)], .int .u64 x] w fun e w' => e = .returned (.agg #[.int .u64 (h2 : Int), .int .u64 (l2 : Int)]) ∧ Below w.heap.size w w' := by
  obtain ⟨s, d, hf, hcall⟩ := add64_zero l x hl hx
  have hd := hf.2.2
  have hsum : h * B64 + l + x = (h + d) * B64 + s := by rw [Nat.add_mul]; omega
  have hlt : h + d < B64 := high_lt B64 (h + d) s (by rw [← hsum]; exact hs)
  have h1 : ((h + d : Nat) : Int) = (h : Int) + d := by omega
  have hle : (h : Int) + d ≤ 18446744073709551615 := by have : B64 = 18446744073709551616 := rfl; omega
  refine ⟨h + d, s, ⟨hsum, hf.2.1, hlt⟩, fun w => ?_⟩
  have H1 := Lib.hid h1
  clear hf h1 hx hl hs hsum hlt
  go_enter Try.func134, Try.ntmps134
  go_wp2
  exact bodyPost_ret (v := .agg #[.int .u64 ((h : Int) + d), .int .u64 (s : Int)]) (by simp [results, Try.results134, go_sem]) rfl ⟨returned_agg2 H1.out.symm rfl, ((Below.refl _ _).alloc (Nat.le_refl _) _).alloc (by simp) _⟩
end Go.Proofs.Ytalcikmngglplaa
