/- Pieces of the proofs, together: BlM. -/
import Derived.Lib.BitFns
import Derived.Test.YthpgdpkemnhneaaGreatDoorP1

namespace Go.Proofs.YthpgdpkemnhneaaGreatDoor
open Go.RowKit
set_option linter.unusedVariables false

theorem bitLenAux_spec : ∀ (f x : Nat), x < 2 ^ f → x < 2 ^ Lib.bitLenAux f x ∧ (0 < x → 0 < Lib.bitLenAux f x ∧ 2 ^ (Lib.bitLenAux f x - 1) ≤ x) ∧ Lib.bitLenAux f x ≤ f
  | 0, x, h => by
    have : x = 0 := by simpa using h
    subst this
    simp [Lib.bitLenAux]
  | f + 1, x, h => by
    by_cases h0 : x = 0
    · subst h0
      simp [Lib.bitLenAux]
    · have h1 : x / 2 < 2 ^ f := by rw [Nat.pow_succ] at h; omega
      obtain ⟨a, b, c⟩ := bitLenAux_spec f (x / 2) h1
      have e : Lib.bitLenAux (f + 1) x = 1 + Lib.bitLenAux f (x / 2) := by simp [Lib.bitLenAux, h0]
      rw [e]
      refine ⟨?_, fun _ => ⟨by omega, ?_⟩, by omega⟩
      · rw [Nat.add_comm, Nat.pow_succ]; omega
      · rw [Nat.add_sub_cancel_left]
        by_cases h2 : 0 < x / 2
        · obtain ⟨b1, b2⟩ := b h2
          have e2 : Lib.bitLenAux f (x / 2) = (Lib.bitLenAux f (x / 2) - 1) + 1 := by omega
          rw [e2, Nat.pow_succ]
          omega
        · have : x / 2 = 0 := by omega
          rw [this] at a ⊢
          have : Lib.bitLenAux f 0 = 0 := by cases f <;> simp [Lib.bitLenAux]
          rw [this]
          simp
          omega

end Go.Proofs.YthpgdpkemnhneaaGreatDoor
