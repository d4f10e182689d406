/- A slice of one new word. -/
import Derived.Test.YtekikolhnfofeaaVal
namespace Go.Proofs.Ytekikolhnfofeaa
open Go.RowKit
set_option linter.unusedVariables false

/-- A slice of one new word. -/
theorem Sl_one (w : World) (x : Nat) (hx : x < B64) : Sl (w.alloc (.cells #[.int .u64 (x : Int)] 37)) (some ⟨w.heap.size, 0, none⟩) 1 1 [x] :=
  ⟨rfl, Nat.le_refl _, by omega, fun y hy => by rw [List.mem_singleton] at hy; subst hy; exact hx, fun _ => ⟨w.heap.size, 0, rfl, by simp, fun j u hj => by
    match j, hj with
    | 0, hj =>
      simp [uvs] at hj
      subst hj
      simp⟩⟩
theorem one_of {zs : List Nat} (h : zs.length = 1) (hw : Ws zs) : ∃ z, zs = [z] ∧ z < B64 ∧ V zs = z := by
  match zs, h with
  | [z], _ => exact ⟨z, rfl, hw z (by simp), by simp [V]⟩
theorem V_one (x : Nat) : V [x] = x := by simp [V]
abbrev W1 (w : World) (x : Nat) : World := w.alloc (.cells #[.int .u64 (x : Int)] 37)
theorem W1_below (w : World) (x : Nat) : Below w.heap.size w (W1 w x) := (Below.refl _ _).alloc (Nat.le_refl _) _
theorem W1_below2 (w : World) (x y : Nat) : Below w.heap.size w (W1 (W1 w x) y) := (W1_below w x).alloc (by simp) _
end Go.Proofs.Ytekikolhnfofeaa
