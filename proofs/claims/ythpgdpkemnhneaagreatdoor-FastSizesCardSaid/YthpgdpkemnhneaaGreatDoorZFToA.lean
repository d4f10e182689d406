/- The arithmetic of toom: values, their products, the coefficients. -/
import Derived.Test.YthpgdpkemnhneaaGreatDoorZFBack
import Derived.Test.YthpgdpkemnhneaaGreatDoorZFThird
import Derived.Test.YthpgdpkemnhneaaGreatDoorZFFrom
namespace Go.Proofs.YthpgdpkemnhneaaGreatDoor
open Go.RowKit Go.Shelf
set_option linter.unusedVariables false
set_option linter.unusedSimpArgs false

/-- the values of the polynomial with these coefficients -/
def valS (p q r s t : Int) : List Int := [p, p + q + r + s + t, p - q + r - s + t, p + 2 * q + 4 * r + 8 * s + 16 * t, t]
theorem wtS_val (p q r s t : Int) : wtS (valS p q r s t) = [p * 1, q * 6, r * 2, s * 6, t * 1] := by
  simp only [wtS, valS, List.cons.injEq, and_true]
  omega
/-- back finds the coefficients -/
theorem back_coef {p q r s t : Int} {S : List Int} (hl : S.length = 5) (h : ∀ i, i < 5 → QtI (valS p q r s t) S i) : S = [p, q, r, s, t] := by
  obtain ⟨a, b, c, d, e, rfl⟩ := list5 hl
  have k : ∀ i, i < 5 → ∃ u : Int, [p * 1, q * 6, r * 2, s * 6, t * 1][i]? = some u ∧ [a, b, c, d, e][i]? = some (u / (dv i : Int)) := fun i hi => by
    obtain ⟨u, h1, -, h3⟩ := h i hi
    rw [wtS_val] at h1
    exact ⟨u, h1, h3⟩
  obtain ⟨u0, e0, f0⟩ := k 0 (by omega)
  obtain ⟨u1, e1, f1⟩ := k 1 (by omega)
  obtain ⟨u2, e2, f2⟩ := k 2 (by omega)
  obtain ⟨u3, e3, f3⟩ := k 3 (by omega)
  obtain ⟨u4, e4, f4⟩ := k 4 (by omega)
  simp [dv] at e0 e1 e2 e3 e4 f0 f1 f2 f3 f4
  subst e0 e1 e2 e3 e4
  simp only [List.cons.injEq, and_true]
  omega
theorem back_dvd {p q r s t : Int} {i : Nat} {u : Int} (h : (wtS (valS p q r s t))[i]? = some u) : (dv i : Int) ∣ u := by
  rw [wtS_val] at h
  match i, h with
  | 0, h => simp [dv]
  | 1, h => simp at h; subst h; simp [dv, Int.dvd_mul_left]
  | 2, h => simp at h; subst h; simp [dv, Int.dvd_mul_left]
  | 3, h => simp at h; subst h; simp [dv, Int.dvd_mul_left]
  | 4, h => simp [dv]
/-- the products of the values are the values of the product -/
theorem th_mul (x y z a b c : Nat) : List.zipWith (· * ·) (thS x y z) (thS a b c) = valS (x * a) (x * b + y * a) (x * c + y * b + z * a) (y * c + z * b) (z * c) := by
  simp only [thS, valS, List.zipWith_cons_cons, List.zipWith_nil_left, List.cons.injEq, and_true, true_and]
  refine ⟨?_, ?_, ?_⟩ <;> grind
theorem V_cut2 (xs : List Nat) (k : Nat) : V xs = V (xs.take k) + V (xs.drop k) * B64 ^ k := by
  rcases Nat.le_total k xs.length with h | h
  · exact V_split xs k h
  · rw [List.take_of_length_le h, List.drop_of_length_le h]; simp [V]
/-- the thirds make the number -/
theorem V_thirds {xs : List Nat} {n : Nat} (hw : Ws xs) (hl : xs.length ≤ 3 * n) : V xs = V (pw xs n 0) + B64 ^ n * V (pw xs n 1) + B64 ^ (2 * n) * V (pw xs n 2) := by
  have h1 := V_cut2 xs n
  have h2 := V_cut2 (xs.drop n) n
  rw [List.drop_drop] at h2
  have e0 : pw xs n 0 = xs.take n := by simp [pw]
  have e1 : pw xs n 1 = (xs.drop n).take n := by simp [pw]
  have e2 : pw xs n 2 = xs.drop (n + n) := by
    rw [pw, show 2 * n = n + n by omega]
    exact List.take_of_length_le (by rw [List.length_drop]; omega)
  rw [e0, e1, e2, h1, h2, show 2 * n = n + n by omega, Nat.pow_add]
  generalize B64 ^ n = B
  grind
theorem toom_sum {x y z a b c : Nat} {B B2 B3 B4 : Nat} (h2 : B2 = B * B) (h3 : B3 = B2 * B) (h4 : B4 = B2 * B2) :
    ((x * a : Nat) : Int) * 1 + ((x * b + y * a : Nat) : Int) * B + ((x * c + y * b + z * a : Nat) : Int) * B2 + ((y * c + z * b : Nat) : Int) * B3 + ((z * c : Nat) : Int) * B4 = (((x + B * y + B2 * z) * (a + B * b + B2 * c) : Nat) : Int) := by
  subst h2 h3 h4
  push_cast
  grind
end Go.Proofs.YthpgdpkemnhneaaGreatDoor
