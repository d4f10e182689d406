/- The arithmetic of fast's sums: rows to which multiples of rows are added, from which they are taken. -/
import Derived.Test.YtelenmfajhamlaaDoorP1
namespace Go.Proofs.YtelenmfajhamlaaDoor
open Go.RowKit
set_option linter.unusedVariables false
set_option linter.unusedSimpArgs false

theorem sum_end {M x : Nat} {S q : Int} (hx : x < 2 * M) (hS : (x : Int) = S + q * (2 * (M : Int))) (hl : -(M : Int) < S) (hu : S < (M : Int)) :
    (x < M → S = x) ∧ (M ≤ x → S = (x : Int) - 2 * M) := by
  have hq : q = 0 ∨ q = 1 := by
    rcases (show q < 0 ∨ 0 ≤ q by omega) with h | h
    · have h1 : q * (2 * (M : Int)) ≤ (-1) * (2 * (M : Int)) := Int.mul_le_mul_of_nonneg_right (by omega) (by omega)
      omega
    · rcases (show 1 < q ∨ q ≤ 1 by omega) with h2 | h2
      · have h1 : 2 * (2 * (M : Int)) ≤ q * (2 * (M : Int)) := Int.mul_le_mul_of_nonneg_right (by omega) (by omega)
        omega
      · omega
  rcases hq with rfl | rfl
  · constructor <;> intro h <;> omega
  · constructor <;> intro h <;> omega
theorem top_half {P lo t H M : Nat} (hlo : lo < P) (hM : M = H * P) : lo + t * P < M ↔ t < H := by
  subst hM
  constructor
  · intro h
    rcases Nat.lt_or_ge t H with h1 | h1
    · exact h1
    · have := Nat.mul_le_mul_right P h1
      omega
  · intro h
    have := Nat.mul_le_mul_right P (show t + 1 ≤ H from h)
    rw [Nat.add_mul, Nat.one_mul] at this
    omega
/-- one word added, with what is carried -/
theorem addw {v w h l c s1 d1 z s2 d2 B : Nat} (e1 : v * w = h * B + l) (e2 : l + c = s1 + d1 * B) (e3 : z + s1 = s2 + d2 * B) : z + v * w + c = s2 + (h + d1 + d2) * B := by
  grind
theorem takew {v w h l c s1 d1 z s2 d2 B : Nat} (e1 : v * w = h * B + l) (e2 : l + c = s1 + d1 * B) (e3 : z + d2 * B = s2 + s1) : z + (h + d1 + d2) * B = s2 + v * w + c := by
  grind
theorem carry_lt {v w c z s x B : Nat} (hv : v < B) (hw : w < B) (hc : c < B) (hz : z < B) (e : z + v * w + c = s + x * B) : x < B := by
  have h1 : v * w ≤ (B - 1) * (B - 1) := Nat.mul_le_mul (by omega) (by omega)
  obtain ⟨b, rfl⟩ : ∃ b, B = b + 1 := ⟨B - 1, by omega⟩
  rw [Nat.add_sub_cancel] at h1
  rcases Nat.lt_or_ge x (b + 1) with h | h
  · exact h
  · have h2 := Nat.mul_le_mul_right (b + 1) h
    have h3 : (b + 1) * (b + 1) = b * b + 2 * b + 1 := by grind
    omega
theorem borrow_lt {v w c z s x B : Nat} (hv : v < B) (hw : w < B) (hc : c < B) (hs : s < B) (e : z + x * B = s + v * w + c) : x < B := by
  have h1 : v * w ≤ (B - 1) * (B - 1) := Nat.mul_le_mul (by omega) (by omega)
  obtain ⟨b, rfl⟩ : ∃ b, B = b + 1 := ⟨B - 1, by omega⟩
  rw [Nat.add_sub_cancel] at h1
  rcases Nat.lt_or_ge x (b + 1) with h | h
  · exact h
  · have h2 := Nat.mul_le_mul_right (b + 1) h
    have h3 : (b + 1) * (b + 1) = b * b + 2 * b + 1 := by grind
    omega

theorem V_set (zs : List Nat) (i a z : Nat) (h : zs[i]? = some z) : V (zs.set i a) + z * B64 ^ i = V zs + a * B64 ^ i := by
  induction zs generalizing i with
  | nil => simp at h
  | cons y ys ih =>
    cases i with
    | zero =>
      simp at h
      subst h
      rw [List.set_cons_zero, V, V, Nat.pow_zero]
      omega
    | succ i =>
      simp only [List.getElem?_cons_succ] at h
      have := ih i h
      rw [List.set_cons_succ, V, V, Nat.pow_succ]
      generalize B64 = b at *
      generalize b ^ i = p at *
      generalize V (ys.set i a) = v at *
      generalize V ys = u at *
      have e1 : b * v + z * (p * b) = b * (v + z * p) := by grind
      have e2 : b * u + a * (p * b) = b * (u + a * p) := by grind
      rw [← this] at e2
      omega
theorem add_round {zs : List Nat} {k i z s v w c d x y X : Nat} (h : zs[i]? = some z) (e : z + v * w + c = s + d * B64) (hi : i = y + k) (hI : V zs + c * B64 ^ i = X + w * x * B64 ^ y) :
    V (zs.set i s) + d * B64 ^ (i + 1) = X + w * (x + v * B64 ^ k) * B64 ^ y := by
  have h1 := V_set zs i s z h
  rw [Nat.pow_succ]
  subst hi
  rw [Nat.pow_add] at *
  generalize B64 = b at *
  generalize b ^ y = p at *
  generalize b ^ k = q at *
  grind
theorem take_round {zs : List Nat} {k i z s v w c d x y X : Nat} (h : zs[i]? = some z) (e : z + d * B64 = s + v * w + c) (hi : i = y + k) (hI : V zs + w * x * B64 ^ y = X + c * B64 ^ i) :
    V (zs.set i s) + w * (x + v * B64 ^ k) * B64 ^ y = X + d * B64 ^ (i + 1) := by
  have h1 := V_set zs i s z h
  rw [Nat.pow_succ]
  subst hi
  rw [Nat.pow_add] at *
  generalize B64 = b at *
  generalize b ^ y = p at *
  generalize b ^ k = q at *
  grind
theorem add_rest {zs : List Nat} {i z s c d X : Nat} (h : zs[i]? = some z) (e : z + c = s + d * B64) (hI : V zs + c * B64 ^ i = X) : V (zs.set i s) + d * B64 ^ (i + 1) = X := by
  have h1 := V_set zs i s z h
  rw [Nat.pow_succ]
  generalize B64 = b at *
  generalize b ^ i = p at *
  grind
theorem take_rest {zs : List Nat} {i z s c d X Y : Nat} (h : zs[i]? = some z) (e : z + d * B64 = s + c) (hI : V zs + Y = X + c * B64 ^ i) : V (zs.set i s) + Y = X + d * B64 ^ (i + 1) := by
  have h1 := V_set zs i s z h
  rw [Nat.pow_succ]
  generalize B64 = b at *
  generalize b ^ i = p at *
  grind
end Go.Proofs.YtelenmfajhamlaaDoor
