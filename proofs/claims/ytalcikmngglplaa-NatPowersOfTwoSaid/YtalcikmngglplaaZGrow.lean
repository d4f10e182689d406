/- Worlds that grow, and rows beside what is written. -/
import Derived.Test.YtalcikmngglplaaP1
namespace Go.Proofs.Ytalcikmngglplaa
open Go.RowKit Go.Shelf
set_option linter.unusedVariables false
set_option linter.unusedSimpArgs false

theorem grown_of_below {w a : World} (hb : Below w.heap.size w a) (r : Option Nat) : w.grownBy a r := ⟨hb.os, hb.tape, hb.output, hb.size, fun i hi _ => hb.block i hi⟩
theorem Sl.grown' {w w' : World} {row : Option Nat} {A : Option Addr} {n c : Nat} {xs : List Nat} (h : Sl w A n c xs) (hg : w.grownBy w' row) (hne : ∀ a, A = some a → some a.block ≠ row) : Sl w' A n c xs :=
  ⟨h.1, h.2.1, h.2.2.1, h.2.2.2.1, fun hx => by
    obtain ⟨b, o, e, hb, hc⟩ := h.2.2.2.2 hx
    exact ⟨b, o, e, Nat.lt_of_lt_of_le hb hg.size, fun j u hu => hg.cell (hc j u hu) (show some b ≠ row from hne ⟨b, o, none⟩ e)⟩⟩
end Go.Proofs.Ytalcikmngglplaa
