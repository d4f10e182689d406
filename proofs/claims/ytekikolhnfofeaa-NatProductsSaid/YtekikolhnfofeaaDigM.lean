/- Digits of 32 bits: plain arithmetic. -/
import Derived.Test.YtekikolhnfofeaaVal
namespace Go.Proofs.Ytekikolhnfofeaa
open Go.RowKit
set_option linter.unusedVariables false

/-- the base of the digits -/
def H32 : Nat := 4294967296
theorem H32_sq : H32 * H32 = B64 := rfl
theorem H32_pos : 0 < H32 := by decide
/-- the value of digits -/
def VD : List Nat → Nat
  | [] => 0
  | x :: xs => x + H32 * VD xs
/-- all are digits -/
def Dg (xs : List Nat) : Prop := ∀ x ∈ xs, x < H32
theorem Dg.ws {xs : List Nat} (h : Dg xs) : Ws xs := fun x hx => Nat.lt_trans (h x hx) (by decide)
theorem Dg_nil : Dg [] := fun _ h => by cases h
theorem Dg_snoc {xs : List Nat} {x : Nat} (h : Dg xs) (hx : x < H32) : Dg (xs ++ [x]) := by
  intro z hz
  rcases List.mem_append.1 hz with h1 | h1
  · exact h z h1
  · rw [List.mem_singleton] at h1; subst h1; exact hx
theorem Dg_append {xs ys : List Nat} (h : Dg xs) (k : Dg ys) : Dg (xs ++ ys) := fun z hz => by
  rcases List.mem_append.1 hz with h1 | h1
  · exact h z h1
  · exact k z h1
theorem Dg_take {xs : List Nat} (h : Dg xs) (k : Nat) : Dg (xs.take k) := fun x hx => h x (List.mem_of_mem_take hx)
theorem Dg_drop {xs : List Nat} (h : Dg xs) (k : Nat) : Dg (xs.drop k) := fun x hx => h x (List.mem_of_mem_drop hx)
theorem VD_append (xs ys : List Nat) : VD (xs ++ ys) = VD xs + H32 ^ xs.length * VD ys := by
  induction xs with
  | nil => simp [VD]
  | cons y zs ih =>
    rw [List.cons_append, VD, ih, List.length_cons, Nat.pow_succ, VD]
    generalize H32 = b
    grind
theorem VD_snoc (xs : List Nat) (x : Nat) : VD (xs ++ [x]) = VD xs + x * H32 ^ xs.length := by
  rw [VD_append, VD, VD, Nat.mul_zero, Nat.add_zero, Nat.mul_comm]
theorem VD_lt (xs : List Nat) (h : Dg xs) : VD xs < H32 ^ xs.length := by
  induction xs with
  | nil => simp [VD]
  | cons y ys ih =>
    have h1 : y < H32 := h y (by simp)
    have h2 : VD ys < H32 ^ ys.length := ih fun x hx => h x (by simp [hx])
    rw [List.length_cons, Nat.pow_succ]
    exact vlt _ _ _ _ h1 h2
theorem VD_take_succ (xs : List Nat) (k x : Nat) (h : xs[k]? = some x) : VD (xs.take (k + 1)) = VD (xs.take k) + x * H32 ^ k := by
  have hk : k < xs.length := (List.getElem?_eq_some_iff.1 h).1
  rw [List.take_add_one, h]
  show VD (xs.take k ++ [x]) = _
  rw [VD_snoc, List.length_take, Nat.min_eq_left (by omega)]
theorem VD_zeros (n : Nat) : VD (List.replicate n 0) = 0 := by
  induction n with
  | zero => rfl
  | succ n ih => rw [List.replicate_succ, VD, ih]; rfl
theorem pow_H (n : Nat) : H32 ^ (2 * n) = B64 ^ n := by rw [Nat.pow_mul, ← H32_sq, Nat.pow_two]
/-- the digit at i, 0 beyond the end -/
def dig (xs : List Nat) (i : Nat) : Nat := xs.getD i 0
theorem dig_lt {xs : List Nat} (h : Dg xs) (i : Nat) : dig xs i < H32 := by
  unfold dig
  rw [List.getD_eq_getElem?_getD]
  cases hx : xs[i]? with
  | none => exact H32_pos
  | some x => exact h x (List.mem_of_getElem? hx)
theorem VD_take_dig (xs : List Nat) (k : Nat) : VD (xs.take (k + 1)) = VD (xs.take k) + dig xs k * H32 ^ k := by
  unfold dig
  rw [List.getD_eq_getElem?_getD]
  cases hx : xs[k]? with
  | none =>
    have : xs.length ≤ k := List.getElem?_eq_none_iff.1 hx
    rw [List.take_of_length_le (by omega), List.take_of_length_le (by omega)]
    simp
  | some x => exact VD_take_succ xs k x hx
/-- one step of Digits -/
theorem digits_step {ds xs : List Nat} {k x : Nat} (hl : ds.length = 2 * k) (h : xs[k]? = some x) (hk : k < xs.length) (hv : VD ds = V (xs.take k)) : VD (ds ++ [x % H32, x / H32]) = V (xs.take (k + 1)) := by
  have hx : xs[k] = x := by rw [List.getElem?_eq_getElem hk] at h; injection h
  rw [VD_append, V_take_succ xs k hk, hx, hv, hl, pow_H, VD, VD, VD, Nat.mul_zero, Nat.add_zero, Nat.mod_add_div, Nat.mul_comm]
end Go.Proofs.Ytekikolhnfofeaa
