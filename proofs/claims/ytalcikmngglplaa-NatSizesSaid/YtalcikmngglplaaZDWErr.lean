/- A number that is too large, divided by a word. -/
import Derived.Test.YtalcikmngglplaaP3
import Derived.Test.YtalcikmngglplaaP1
namespace Go.Proofs.Ytalcikmngglplaa
open Go.RowKit Go.Shelf
set_option linter.unusedVariables false
set_option linter.unusedSimpArgs false
set_option maxRecDepth 10000

set_option maxHeartbeats 400000 in
theorem NDivWord_big (A : Option Addr) (n c : Nat) (d : Nat) (w : World) (hn : 4096 < n) :
    Calls Try.prog 29 #[.slice A n c, .int .u64 d] w fun e w' => e = .returned (.tuple #[.slice none 0 0, .int .u64 0, .int .i64 2]) ∧ Below w.heap.size w w' := by
  go_enter Try.func29, Try.ntmps29
  go_wp2_with (fail)
  refine (DivWord_err A n c d 0 w hn).mono ?_
  rintro e w1 ⟨rfl, hb1⟩
  go_wp2_with (fail)
  refine (used_ok none 0 0 [] w1 (by omega) ⟨rfl, by omega, by omega, Ws_nil, Rd.nil⟩).mono ?_
  rintro e w2 ⟨k, rfl, hk, hH, rfl⟩
  obtain rfl : k = 0 := by omega
  clear hH
  go_wp2_with (fail)
  go_ret3
  exact ⟨rfl, hb1⟩
end Go.Proofs.Ytalcikmngglplaa
