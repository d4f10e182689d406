/- Shifts of words, as numbers. -/
import Derived.Test.YtekikolhnfofeaaWord
import Derived.Laws.Bits64b
namespace Go.Proofs.Ytekikolhnfofeaa
open Go.RowKit
set_option linter.unusedVariables false

theorem pow_split (s : Nat) (h : s ≤ 63) : 2 ^ s * 2 ^ (64 - s) = B64 := by
  rw [← Nat.pow_add, show s + (64 - s) = 64 by omega]; decide
theorem shl_mod (b x q p : Nat) (hb : p * q = b) : x * p % b = p * (x % q) := by
  subst hb
  rw [Nat.mul_comm x p, Nat.mul_mod_mul_left]
theorem shl_split (b x q p : Nat) (hb : p * q = b) : x * p = x / q * b + x * p % b := by
  rw [shl_mod b x q p hb, ← hb]
  have := Nat.div_add_mod x q
  calc x * p = (q * (x / q) + x % q) * p := by rw [this]
    _ = x / q * (p * q) + p * (x % q) := by grind
theorem shl_or (b x q p s c : Nat) (hb : p * q = b) (hp : p = 2 ^ s) (hc : c < p) : (x * p % b) ||| c = x * p % b + c := by
  rw [shl_mod b x q p hb]
  subst hp
  exact (Nat.two_pow_add_eq_or_of_lt hc _).symm
theorem shl_lt (b x q p c : Nat) (hb : p * q = b) (hc : c < p) (hq : 0 < q) : x * p % b + c < b := by
  rw [shl_mod b x q p hb, ← hb]
  have h1 : x % q < q := Nat.mod_lt _ hq
  have h2 : p * (x % q + 1) ≤ p * q := Nat.mul_le_mul_left _ h1
  rw [Nat.mul_succ] at h2
  omega
theorem shr_lt (b x q p : Nat) (hb : p * q = b) (hx : x < b) : x / q < p := by
  refine Nat.div_lt_of_lt_mul ?_
  rw [Nat.mul_comm, hb]
  exact hx
theorem wrap_u64 (x s : Nat) : IntKind.u64.wrap ((x : Int) * 2 ^ s) = ((x * 2 ^ s % B64 : Nat) : Int) := by
  rw [IntKind.wrap_u64]
  simp [B64]

end Go.Proofs.Ytekikolhnfofeaa
