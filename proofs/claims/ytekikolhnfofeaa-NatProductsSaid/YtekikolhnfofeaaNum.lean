/- A number that a call has handed back, opened. -/
import Derived.Test.YtekikolhnfofeaaRSum
namespace Go.Proofs.Ytekikolhnfofeaa
open Go.RowKit
set_option linter.unusedVariables false
set_option maxRecDepth 10000

/-- the slice (A, n, c) is a new canonical number x of at most 4096 words, its words zs -/
def Nu (w w' : World) (A : Option Addr) (n c : Nat) (zs : List Nat) (x : Nat) : Prop := Sl w' A n c zs ∧ Cn zs ∧ V zs = x ∧ n ≤ 4096 ∧ Nt w w' (.slice A n c) x ∧ Below w.heap.size w w'
theorem Nu.of {w w' : World} {v : Value} {x : Nat} (h : Nt w w' v x) (hb : Below w.heap.size w w') (hx : x < Big) : ∃ A n c zs, v = .slice A n c ∧ Nu w w' A n c zs x := by
  obtain ⟨A, n, c, zs, rfl, h1, h2, h3, h4⟩ := h.sl
  exact ⟨A, n, c, zs, rfl, h1, h2, h3, Nt.size h1.2.2.2.1 h2 h1.1 (by rw [h3]; exact hx), ⟨n, zs, h4, h2, h3⟩, hb⟩
theorem Rv.open {w w' : World} {e : Ending} {x : Nat} (h : Rv w w' e x) (hx : x < Big) : ∃ A n c zs, e = .returned (.slice A n c) ∧ Nu w w' A n c zs x := by
  obtain ⟨v, rfl, h1, h2⟩ := h
  obtain ⟨A, n, c, zs, rfl, h3⟩ := Nu.of h1 h2 hx
  exact ⟨A, n, c, zs, rfl, h3⟩
theorem Rs.open {w w' : World} {e : Ending} {x : Nat} (h : Rs w w' e x) (hx : x < Big) : ∃ A n c zs, e = .returned (.tuple #[.slice A n c, .int .i64 0]) ∧ Nu w w' A n c zs x := by
  obtain ⟨⟨v, rfl, h1, _⟩ | ⟨_, h1⟩, h2⟩ := h
  · obtain ⟨A, n, c, zs, rfl, h3⟩ := Nu.of h1 h2 hx
    exact ⟨A, n, c, zs, rfl, h3⟩
  · omega
/-- later, and seen from an earlier world -/
theorem Nu.later {w w0 w1 w2 : World} {A : Option Addr} {n c x : Nat} {zs : List Nat} (h : Nu w w1 A n c zs x) (h0 : Below w0.heap.size w0 w) (hb : Below w1.heap.size w1 w2) : Nu w0 w2 A n c zs x :=
  ⟨h.1.below hb, h.2.1, h.2.2.1, h.2.2.2.1, h.2.2.2.2.1.later h0.size hb, h0.trans ((h.2.2.2.2.2.trans (hb.mono h.2.2.2.2.2.size)).mono h0.size)⟩
theorem Nu.from {w w0 w1 : World} {A : Option Addr} {n c x : Nat} {zs : List Nat} (h : Nu w w1 A n c zs x) (h0 : Below w0.heap.size w0 w) : Nu w0 w1 A n c zs x := h.later h0 (Below.refl _ _)
theorem Nu.keep {w w1 w2 : World} {A : Option Addr} {n c x : Nat} {zs : List Nat} (h : Nu w w1 A n c zs x) (hb : Below w1.heap.size w1 w2) : Nu w w2 A n c zs x := h.later (Below.refl _ _) hb
theorem Nu.bel {w w1 : World} {A : Option Addr} {n c x : Nat} {zs : List Nat} (h : Nu w w1 A n c zs x) : Below w.heap.size w w1 := h.2.2.2.2.2
theorem Big_of {x k : Nat} (h : x < B64 ^ k) (hk : k ≤ 4096) : x < Big := Nat.lt_of_lt_of_le h (Nat.pow_le_pow_right B64_pos hk)
end Go.Proofs.Ytekikolhnfofeaa
