/- Pieces of the proofs, together: DivM, Shl, Div. -/
import Derived.WalkKit
import Derived.Laws.Bits64b
import Derived.Shelf.Small.Bits
import Derived.Shelf.Strconv.Itoa0
import Derived.Lib.BitFns
import Derived.Deep.DeepCutAuto
import Derived.Deep.CutBlock
import Derived.Test.YthpgdpkemnhneaaDoorP1
import Derived.Test.YthpgdpkemnhneaaDoorP5

namespace Go.Proofs.YthpgdpkemnhneaaDoor
set_option linter.unusedVariables false

section
variable {c u d y y1 y0 q r Q : Nat}

theorem digit_lt (hu : u < y) (hd : d < c) : (u * c + d) / y < c := by
  refine Nat.div_lt_of_lt_mul ?_
  have : (u + 1) * c ≤ y * c := Nat.mul_le_mul_right _ hu
  rw [Nat.add_mul] at this
  omega
theorem digit_start (hy : y = y1 * c + y0) (h0 : 0 < y1) (hd : d < c) : (u * c + d) / y ≤ u / y1 := by
  rw [Nat.le_div_iff_mul_le h0]
  have h1 : (u * c + d) / y * y ≤ u * c + d := Nat.div_mul_le_self _ _
  generalize (u * c + d) / y = Q at *
  subst hy
  have h2 : Q * (y1 * c + y0) = Q * y1 * c + Q * y0 := by grind
  have h3 : Q * y1 * c < (u + 1) * c := by rw [Nat.add_mul]; omega
  have h4 : Q * y1 < u + 1 := Nat.lt_of_mul_lt_mul_right h3
  omega
theorem digit_first (hu : u < y) (hy : y = y1 * c + y0) (h0 : y0 < c) (hc : c ≤ 2 * y1) (h1 : 0 < y1) : u / y1 ≤ c + 1 := by
  refine Nat.le_of_lt_succ (Nat.div_lt_of_lt_mul ?_)
  have : y1 * (c + 2) = y1 * c + 2 * y1 := by grind
  show u < y1 * (c + 2)
  omega
theorem digit_step (hy : y = y1 * c + y0) (hy0 : 0 < y) (hQ : Q = (u * c + d) / y) (hQc : Q < c) (hi : q * y1 + r = u) (hle : Q ≤ q) (hg : c ≤ q ∨ c * r + d < q * y0) : 1 ≤ q ∧ Q ≤ q - 1 := by
  have : Q ≠ q := by
    rintro rfl
    rcases hg with h | h
    · omega
    · have h1 : Q * y ≤ u * c + d := by rw [hQ]; exact Nat.div_mul_le_self _ _
      have h2 : Q * y = Q * y1 * c + Q * y0 := by rw [hy]; grind
      have h3 : u * c = Q * y1 * c + c * r := by rw [← hi]; grind
      omega
  omega
theorem digit_end (hy : y = y1 * c + y0) (hy0 : 0 < y) (hQ : Q = (u * c + d) / y) (hi : q * y1 + r = u) (hle : Q ≤ q) (hg : q * y0 ≤ c * r + d) : q = Q := by
  have : q ≤ Q := by
    rw [hQ, Nat.le_div_iff_mul_le hy0]
    have h2 : q * y = q * y1 * c + q * y0 := by rw [hy]; grind
    have h3 : u * c = q * y1 * c + c * r := by rw [← hi]; grind
    omega
  omega
theorem digit_break (hu : u < y) (hy : y = y1 * c + y0) (h0 : y0 < c) (hy0 : 0 < y) (hQ : Q = (u * c + d) / y) (hi : q * y1 + r = u) (hle : Q ≤ q) (hr : c ≤ r) : q = Q := by
  have h1 : q * y1 < c * y1 := by have : y1 * c = c * y1 := Nat.mul_comm _ _; omega
  have h2 : q < c := Nat.lt_of_mul_lt_mul_right h1
  refine digit_end hy hy0 hQ hi hle ?_
  have h3 : q * y0 ≤ c * c := Nat.mul_le_mul (by omega) (by omega)
  have h4 : c * c ≤ c * r := Nat.mul_le_mul_left _ hr
  omega
theorem digit_rest (hy0 : 0 < y) (hQ : Q = (u * c + d) / y) : Q * y ≤ u * c + d ∧ u * c + d - Q * y < y := by
  have h := Nat.mod_lt (u * c + d) hy0
  have h2 := Nat.div_add_mod (u * c + d) y
  rw [← hQ] at h2
  rw [Nat.mul_comm y Q] at h2
  omega
/-- All that the walk of one loop wants: the step where the test says yes, a break, the end. -/
theorem digit_facts {u y d y1 y0 Q q r : Nat} (hu : u < y) (hy : y = y1 * 4294967296 + y0) (h0 : y0 ≤ 4294967295) (hd : d ≤ 4294967295) (hy0 : 0 < y) (hQ : Q = (u * 4294967296 + d) / y) (hQc : Q < 4294967296) (hi : q * y1 + r = u) (hle : Q ≤ q) :
    (4294967296 ≤ q ∨ 4294967296 * r + d < q * y0 → 1 ≤ q ∧ Q ≤ q - 1 ∧ (q - 1) * y1 + (r + y1) = u ∧ (4294967296 ≤ r + y1 → q - 1 = Q)) ∧ (q * y0 ≤ 4294967296 * r + d → q = Q) := by
  refine ⟨fun hg => ?_, fun hg => digit_end hy hy0 hQ hi hle hg⟩
  obtain ⟨h1, h2⟩ := digit_step hy hy0 hQ hQc hi hle hg
  have h3 : (q - 1) * y1 + (r + y1) = u := by
    rw [Nat.sub_mul]
    have := Nat.le_mul_of_pos_left y1 h1
    omega
  exact ⟨h1, h2, h3, fun hbr => digit_break hu hy (by omega) hy0 hQ h3 h2 hbr⟩
theorem quot_final {N P R0 : Nat} (hP : 0 < P) (h : N * P = q * y * P + R0) (hR : R0 < y * P) : N = q * y + R0 / P ∧ R0 / P < y := by
  have h1 : q * y * P ≤ N * P := by omega
  have h2 : q * y ≤ N := Nat.le_of_mul_le_mul_right h1 hP
  have h3 : R0 = (N - q * y) * P := by rw [Nat.sub_mul]; omega
  have h4 : R0 / P = N - q * y := by rw [h3]; exact Nat.mul_div_cancel _ hP
  exact ⟨by omega, by
    rw [Nat.div_lt_iff_lt_mul hP]
    exact hR⟩
theorem quot_join {N P B l u1 u0 Q0 R R0 yn : Nat} (hB : B = c * c) (h1 : N * P = u * B + l) (h2 : l = u1 * c + u0) (h3 : u * c + u1 = Q * yn + R) (h4 : R * c + u0 = Q0 * yn + R0) (h5 : yn = y * P) :
    N * P = (Q * c + Q0) * y * P + R0 := by
  rw [h1, h2, hB]
  have : u * (c * c) + (u1 * c + u0) = (u * c + u1) * c + u0 := by grind
  rw [this, h3]
  have : (Q * yn + R) * c + u0 = Q * yn * c + (R * c + u0) := by grind
  rw [this, h4, h5]
  grind
end
end Go.Proofs.YthpgdpkemnhneaaDoor

namespace Go.Proofs.YthpgdpkemnhneaaDoor
open Go.RowKit
set_option linter.unusedVariables false

theorem pow_split (s : Nat) (h : s ≤ 63) : 2 ^ s * 2 ^ (64 - s) = B64 := by
  rw [← Nat.pow_add, show s + (64 - s) = 64 by omega]; decide
theorem shl_mod (b x q p : Nat) (hb : p * q = b) : x * p % b = p * (x % q) := by
  subst hb
  rw [Nat.mul_comm x p, Nat.mul_mod_mul_left]
theorem shl_split (b x q p : Nat) (hb : p * q = b) : x * p = x / q * b + x * p % b := by
  rw [shl_mod b x q p hb, ← hb]
  have := Nat.div_add_mod x q
  calc x * p = (q * (x / q) + x % q) * p := by rw [this]
    _ = x / q * (p * q) + p * (x % q) := by grind
theorem shl_or (b x q p s c : Nat) (hb : p * q = b) (hp : p = 2 ^ s) (hc : c < p) : (x * p % b) ||| c = x * p % b + c := by
  rw [shl_mod b x q p hb]
  subst hp
  exact (Nat.two_pow_add_eq_or_of_lt hc _).symm
theorem shl_lt (b x q p c : Nat) (hb : p * q = b) (hc : c < p) (hq : 0 < q) : x * p % b + c < b := by
  rw [shl_mod b x q p hb, ← hb]
  have h1 : x % q < q := Nat.mod_lt _ hq
  have h2 : p * (x % q + 1) ≤ p * q := Nat.mul_le_mul_left _ h1
  rw [Nat.mul_succ] at h2
  omega
theorem shr_lt (b x q p : Nat) (hb : p * q = b) (hx : x < b) : x / q < p := by
  refine Nat.div_lt_of_lt_mul ?_
  rw [Nat.mul_comm, hb]
  exact hx
theorem wrap_u64 (x s : Nat) : IntKind.u64.wrap ((x : Int) * 2 ^ s) = ((x * 2 ^ s % B64 : Nat) : Int) := by
  rw [IntKind.wrap_u64]
  simp [B64]

end Go.Proofs.YthpgdpkemnhneaaDoor

namespace Go.Proofs.YthpgdpkemnhneaaDoor
open Go.RowKit
set_option linter.unusedVariables false

theorem and_mask (x : Nat) (hx : x < B64) : bits BinOp.and IntKind.u64 (x : Int) 4294967295 = ((x % 4294967296 : Nat) : Int) := by
  have := bits_and_u64_nat x 4294967295 hx (by decide)
  rw [show ((4294967295 : Nat) : Int) = 4294967295 from rfl] at this
  rw [this, show (4294967295 : Nat) = 2 ^ 32 - 1 from rfl, Nat.and_two_pow_sub_one_eq_mod]

theorem wrap_nat (n : Nat) (h : n < B64) : IntKind.u64.wrap (n : Int) = n := by
  rw [IntKind.wrap_u64]
  have : B64 = 18446744073709551616 := rfl
  omega
theorem wrap_shl (x s n : Nat) (h : x * 2 ^ s % B64 = n) : IntKind.u64.wrap ((x : Int) * 2 ^ s) = (n : Int) := by rw [wrap_u64, h]
theorem wrap_mul (x y n : Nat) (h : x * y = n) (hn : n < B64) : IntKind.u64.wrap ((x : Int) * (y : Int)) = (n : Int) := by
  rw [← Int.natCast_mul, h]
  exact wrap_nat n hn
theorem wrap_rest (u d t R : Nat) (h : u * 4294967296 + d = t + R) (hR : R < B64) :
    IntKind.u64.wrap (IntKind.u64.wrap (IntKind.u64.wrap ((u : Int) * 4294967296) + (d : Int)) - IntKind.u64.wrap (t : Int)) = (R : Int) := by
  simp only [IntKind.wrap_u64]
  have : B64 = 18446744073709551616 := rfl
  omega
theorem shl_word (hi lo s : Nat) (hs : s ≤ 63) (hlo : lo < B64) (hh : hi * 2 ^ s < B64) :
    bits BinOp.or IntKind.u64 ((hi * 2 ^ s : Nat) : Int) ((lo : Int) / 2 ^ (64 - s)) = ((hi * 2 ^ s + lo / 2 ^ (64 - s) : Nat) : Int) ∧ (hi * B64 + lo) * 2 ^ s = (hi * 2 ^ s + lo / 2 ^ (64 - s)) * B64 + lo * 2 ^ s % B64 := by
  have hp := pow_split s hs
  have hd : lo / 2 ^ (64 - s) < 2 ^ s := shr_lt B64 lo _ _ hp hlo
  have hdB : lo / 2 ^ (64 - s) < B64 := Nat.lt_of_le_of_lt (Nat.div_le_self _ _) hlo
  constructor
  · rw [show ((lo : Int) / 2 ^ (64 - s)) = ((lo / 2 ^ (64 - s) : Nat) : Int) by simp, bits_or_u64_nat _ _ hh hdB, Nat.mul_comm hi, ← Nat.two_pow_add_eq_or_of_lt hd]
  · have := shl_split B64 lo _ _ hp
    generalize lo * 2 ^ s % B64 = m at *
    generalize lo / 2 ^ (64 - s) = d at *
    rw [Nat.add_mul, this]
    generalize B64 = b
    generalize 2 ^ s = p
    grind

end Go.Proofs.YthpgdpkemnhneaaDoor

