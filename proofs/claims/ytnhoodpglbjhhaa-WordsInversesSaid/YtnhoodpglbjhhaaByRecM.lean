/- The arithmetic of a quotient by a reciprocal (Moeller and Granlund). -/
import Derived.Test.YtnhoodpglbjhhaaInv
import Derived.Test.YtnhoodpglbjhhaaBacksM
namespace Go.Proofs.Ytnhoodpglbjhhaa
open Go.RowKit
set_option linter.unusedVariables false

theorem mg_range {B d v h l t q0 k : Int} (hB : 0 < B) (hd : 0 < d) (hdB : d < B) (hk0 : 0 ≤ k) (hkd : k ≤ d) (hh : 0 ≤ h) (hhd : h < d) (hl : 0 ≤ l) (hlB : l < B) (hq : 0 ≤ q0) (hqB : q0 < B) (ek : B * B = (v + B) * d + k) (ev : v * h + l = t * B + q0) :
    0 ≤ h * B + l - (t + h + 1) * d + d ∧ q0 - B < h * B + l - (t + h + 1) * d ∧ (h * B + l - (t + h + 1) * d < B - d ∨ h * B + l - (t + h + 1) * d < q0) := by
  obtain ⟨R, hR⟩ : ∃ R, h * B + l - (t + h + 1) * d = R := ⟨_, rfl⟩
  rw [hR]
  have id1 : B * (R + d) = h * k + l * (B - d) + q0 * d := by
    rw [← hR]
    have e1 : t * B = v * h + l - q0 := by omega
    have e2 : k = B * B - (v + B) * d := by omega
    rw [e2]
    have e3 : B * (h * B + l - (t + h + 1) * d + d) = h * (B * B) + l * B - (t * B) * d - h * B * d := by grind
    rw [e3, e1]
    grind
  have p1 : 0 ≤ h * k := Int.mul_nonneg hh hk0
  have p2 : 0 ≤ l * (B - d) := Int.mul_nonneg hl (by omega)
  have p3 : 0 ≤ q0 * d := Int.mul_nonneg hq (by omega)
  refine ⟨?_, ?_, ?_⟩
  · rcases Int.lt_or_le (R + d) 0 with h1 | h1
    · have := Int.mul_neg_of_pos_of_neg hB h1
      omega
    · exact h1
  · rcases Int.lt_or_le (q0 - B) R with h1 | h1
    · exact h1
    · exfalso
      have h2 : B * (R + d) ≤ B * (q0 - B + d) := Int.mul_le_mul_of_nonneg_left (by omega) (by omega)
      have h3 : 0 < (B - q0) * (B - d) := Int.mul_pos (by omega) (by omega)
      have e4 : (B - q0) * (B - d) = B * B - B * d - q0 * B + q0 * d := by grind
      have e5 : B * (q0 - B + d) = q0 * B - B * B + B * d := by grind
      omega
  · rcases Int.lt_or_le R (B - d) with h1 | h1
    · exact .inl h1
    · right
      rcases Int.lt_or_le R q0 with h2 | h2
      · exact h2
      · exfalso
        have a1 : h * k ≤ (d - 1) * d := by
          have b1 : h * k ≤ h * d := Int.mul_le_mul_of_nonneg_left hkd hh
          have b2 : h * d ≤ (d - 1) * d := Int.mul_le_mul_of_nonneg_right (by omega) (by omega)
          omega
        have a2 : l * (B - d) ≤ (B - 1) * (B - d) := Int.mul_le_mul_of_nonneg_right (by omega) (by omega)
        have a3 : q0 * d ≤ R * d := Int.mul_le_mul_of_nonneg_right h2 (by omega)
        have a4 : (B - d) * (B - d) ≤ R * (B - d) := Int.mul_le_mul_of_nonneg_right h1 (by omega)
        have e6 : (d - 1) * d = d * d - d := by grind
        have e7 : (B - 1) * (B - d) = B * B - B * d - B + d := by grind
        have e8 : (B - d) * (B - d) = B * B - 2 * (B * d) + d * d := by grind
        have e9 : R * (B - d) = B * R - R * d := by grind
        have e10 : B * (R + d) = B * R + B * d := by grind
        omega

/-- what is left is right up to the base -/
theorem mg_left {B d h l t qa qb m r c1 c2 c3 c4 : Int} (e1 : t + h = qa + c1 * B) (e2 : qa + 1 = qb + c2 * B) (e3 : qb * d = m + c3 * B) (e4 : l - m = r + c4 * B) :
    ∃ e, r = h * B + l - (t + h + 1) * d + e * B := by
  refine ⟨-h + (c1 + c2) * d + c3 - c4, ?_⟩
  have h1 : qb = t + h + 1 - (c1 + c2) * B := by grind
  subst h1
  grind
/-- the same quotient and remainder -/
theorem mg_uniq {q q' r r' d : Nat} (hr : r < d) (hr' : r' < d) (h : q * d + r = q' * d + r') : q = q' ∧ r = r' := by
  obtain ⟨e1, e2⟩ := uniq (x := r) (y := r') (d := q) (e := q') hr hr' (by omega)
  exact ⟨e2, e1⟩
end Go.Proofs.Ytnhoodpglbjhhaa
