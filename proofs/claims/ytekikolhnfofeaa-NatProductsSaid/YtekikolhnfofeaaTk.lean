/- Rows cut short; new rows, later. -/
import Derived.Test.YtekikolhnfofeaaVal
namespace Go.Proofs.Ytekikolhnfofeaa
open Go.RowKit
set_option linter.unusedVariables false

theorem uvs_take (xs : List Nat) (m : Nat) : uvs (xs.take m) = (uvs xs).take m := by simp [uvs]
theorem Ws_take {xs : List Nat} (h : Ws xs) (k : Nat) : Ws (xs.take k) := fun x hx => h x (List.mem_of_mem_take hx)
theorem Nw.later {w w0 w1 w2 : World} {v : Value} {n : Nat} {zs : List Nat} (h : Nw w w1 v n zs) (h0 : w0.heap.size ≤ w.heap.size) (hb : Below w1.heap.size w1 w2) : Nw w0 w2 v n zs :=
  ⟨h.1, h.2.1, own_base (own_below h.2.2 hb (Nat.le_refl _)) h0⟩
end Go.Proofs.Ytekikolhnfofeaa
