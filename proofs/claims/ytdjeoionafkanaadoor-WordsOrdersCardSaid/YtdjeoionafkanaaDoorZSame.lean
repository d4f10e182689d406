/- The contract of the law's same. -/
import Derived.Test.YtdjeoionafkanaaDoorP1
namespace Go.Proofs.YtdjeoionafkanaaDoor
open Go.RowKit
set_option linter.unusedVariables false

set_option maxHeartbeats 400000 in
theorem same_any (A A' : Option Addr) (n n' c c' : Nat) (xs ys : List Nat) (w : World) (hx : Sl w A n c xs) (hy : Sl w A' n' c' ys) (hn : n ≤ 4611686018427387904) :
    Calls Tryd.prog 22 #[.slice A n c, .slice A' n' c'] w fun e w' => e = .returned (.bool (decide (xs = ys))) ∧ ∃ m, w' = w.drewN m := by
  have Hc := Lib.hid (Same_any A A' n n' c c' xs ys w hx hy hn)
  clear hx hy
  go_enter Tryd.func22, Tryd.ntmps22
  go_wp2_with (go_at_call 78; refine Hc.out.mono ?_; rintro e w' ⟨rfl, m, rfl⟩)
  go_ret
  exact ⟨rfl, m, rfl⟩
end Go.Proofs.YtdjeoionafkanaaDoor
