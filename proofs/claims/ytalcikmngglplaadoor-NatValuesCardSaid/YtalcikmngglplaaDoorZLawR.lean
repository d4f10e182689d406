/- What the laws of nat have in common: the rows that they cut, and bounds. -/
import Derived.Test.YtalcikmngglplaaDoorP3
import Derived.Test.YtalcikmngglplaaDoorP1
import Derived.Test.YtalcikmngglplaaDoorP5
namespace Go.Proofs.YtalcikmngglplaaDoor
open Go.RowKit
set_option linter.unusedVariables false
set_option linter.unusedSimpArgs false

/-- few, as the law takes it -/
theorem few_row (A : Option Addr) (n c : Nat) (m : Nat) (xs : List Nat) (w : World) (hx : Sl w A n c xs) (hm : m ≤ 4096) :
    Calls Tryd.prog 5 #[.slice A n c, .int .i64 m] w fun e w' => ∃ A' k c' us, e = .returned (.slice A' k c') ∧ k ≤ m ∧ Sl w' A' k c' us ∧ us = xs.take m ∧ Nw w w' (.slice A' k c') k us ∧ Below w.heap.size w w' := by
  refine (nfew_ok A n c m xs w hx hm).mono ?_
  rintro e w' ⟨v, rfl, hn, hb⟩
  obtain ⟨A', c', rfl, hs⟩ := hn.sl
  exact ⟨A', min m n, c', _, rfl, Nat.min_le_left _ _, hs, rfl, hn, hb⟩
theorem mul_lt {w : World} {A A' : Option Addr} {n n' c c' : Nat} {xs ys : List Nat} (h : Sl w A n c xs) (h' : Sl w A' n' c' ys) (hs : n + n' ≤ 4096) : V xs * V ys < Big :=
  Big_of (k := n + n') (by rw [Nat.pow_add]; exact Nat.mul_lt_mul'' h.lt h'.lt) hs
theorem add_lt {w : World} {A A' : Option Addr} {n n' c c' : Nat} {xs ys : List Nat} (h : Sl w A n c xs) (h' : Sl w A' n' c' ys) (hn : n ≤ 4000) (hn' : n' ≤ 4000) : V xs + V ys < Big := by
  obtain ⟨M, h3, h4, h5⟩ : ∃ M, n ≤ M ∧ n' ≤ M ∧ M + 1 ≤ 4096 := ⟨4000, hn, hn', by omega⟩
  have h1 := Nat.lt_of_lt_of_le h.lt (Nat.pow_le_pow_right B64_pos h3)
  have h2 := Nat.lt_of_lt_of_le h'.lt (Nat.pow_le_pow_right B64_pos h4)
  refine Big_of (k := M + 1) ?_ h5
  rw [Nat.pow_succ]
  generalize B64 ^ M = p at *
  have : p * 2 ≤ p * B64 := Nat.mul_le_mul_left _ (by decide)
  omega
theorem cmpI_ge {x y : Nat} (h : y ≤ x) : ¬ cmpI x y < 0 := by
  unfold cmpI
  rw [if_neg (by omega)]
  split <;> omega
theorem row_lt {w : World} {A : Option Addr} {n c : Nat} {xs : List Nat} (h : Sl w A n c xs) (hn : n ≤ 4096) : V xs < Big := Big_of h.lt hn
theorem BL_uniq {x l l' : Nat} (h : BL x l) (h' : BL x l') : l = l' := by
  rcases Nat.eq_zero_or_pos x with h0 | h0
  · rw [h.2.2 h0, h'.2.2 h0]
  · obtain ⟨a, b⟩ := h.2.1 h0
    obtain ⟨a', b'⟩ := h'.2.1 h0
    have h1 : l - 1 < l' := (Nat.pow_lt_pow_iff_right (by decide)).1 (Nat.lt_of_le_of_lt b h'.1)
    have h2 : l' - 1 < l := (Nat.pow_lt_pow_iff_right (by decide)).1 (Nat.lt_of_le_of_lt b' h.1)
    omega
end Go.Proofs.YtalcikmngglplaaDoor
