/- The coefficients that fast.Back finds are those of the reference. -/
import Derived.Test.YtcnambjckmpipaaGreatDoorZFBack
namespace Go.Proofs.YtcnambjckmpipaaGreatDoor
open Go.RowKit Go.Shelf
set_option linter.unusedVariables false
set_option linter.unusedSimpArgs false
set_option maxRecDepth 10000

/-- what the reference's divisions say -/
def Dvs (va vb vc vd ve q9 q11 q13 : Int) (x9 x11 x13 : Nat) : Prop :=
  (vb - va - ve + (vc - va - ve) = q9 * 2 + x9 ∧ x9 < 2) ∧ (vb - va - ve - (vc - va - ve) = q11 * 2 + x11 ∧ x11 < 2) ∧ (vd - va - 16 * ve - 4 * q9 - 2 * q11 = q13 * 6 + x13 ∧ x13 < 6)
theorem Dvs.all {va vb vc vd ve q9 q11 q13 : Int} {x9 x11 x13 : Nat} (h : Dvs va vb vc vd ve q9 q11 q13 x9 x11 x13) (h9 : x9 = 0) (h11 : x11 = 0) (h13 : x13 = 0) :
    wtS [va, vb, vc, vd, ve] = [va, 6 * (q11 - q13), 2 * q9, 6 * q13, ve] := by
  obtain ⟨⟨e1, -⟩, ⟨e2, -⟩, ⟨e3, -⟩⟩ := h
  subst h9 h11 h13
  simp only [wtS]
  congr 1
  congr 1
  · omega
  congr 1
  · omega
  congr 1
  omega
/-- where all divisions are exact -/
theorem Dvs.yes {va vb vc vd ve q9 q11 q13 : Int} {x9 x11 x13 : Nat} (h : Dvs va vb vc vd ve q9 q11 q13 x9 x11 x13) (h9 : x9 = 0) (h11 : x11 = 0) (h13 : x13 = 0) :
    (∀ (i : Nat) (u : Int), (wtS [va, vb, vc, vd, ve])[i]? = some u → (dv i : Int) ∣ u) ∧ ∀ Q : List Int, Q.length = 5 → (∀ i, i < 5 → QtI [va, vb, vc, vd, ve] Q i) → Q = [va, q11 - q13, q9, q13, ve] := by
  have hw := h.all h9 h11 h13
  refine ⟨fun i u hu => ?_, fun Q hl hq => ?_⟩
  · rw [hw] at hu
    match i with
    | 0 => exact Int.one_dvd _
    | 1 => simp at hu; subst hu; exact Int.dvd_mul_right _ _
    | 2 => simp at hu; subst hu; exact Int.dvd_mul_right _ _
    | 3 => simp at hu; subst hu; exact Int.dvd_mul_right _ _
    | 4 => exact Int.one_dvd _
    | i + 5 => simp at hu
  · obtain ⟨a, b, c, d, e, rfl⟩ := list5 hl
    have key : ∀ i, i < 5 → ∃ u, [va, 6 * (q11 - q13), 2 * q9, 6 * q13, ve][i]? = some u ∧ [a, b, c, d, e][i]? = some (u / (dv i : Int)) := fun i hi => by
      obtain ⟨u, h1, -, h2⟩ := hq i hi
      rw [hw] at h1
      exact ⟨u, h1, h2⟩
    obtain ⟨u0, a0, b0⟩ := key 0 (by omega)
    obtain ⟨u1, a1, b1⟩ := key 1 (by omega)
    obtain ⟨u2, a2, b2⟩ := key 2 (by omega)
    obtain ⟨u3, a3, b3⟩ := key 3 (by omega)
    obtain ⟨u4, a4, b4⟩ := key 4 (by omega)
    simp at a0 b0 a1 b1 a2 b2 a3 b3 a4 b4
    subst a0 a1 a2 a3 a4
    simp only [dv] at b0 b1 b2 b3 b4
    have e0 : a = va := by rw [b0]; simp
    have e1 : b = q11 - q13 := by rw [b1]; omega
    have e2 : c = q9 := by rw [b2]; omega
    have e3 : d = q13 := by rw [b3]; omega
    have e4 : e = ve := by rw [b4]; simp
    subst e0 e1 e2 e3 e4
    rfl
/-- where one is not -/
theorem Dvs.no {va vb vc vd ve q9 q11 q13 : Int} {x9 x11 x13 : Nat} (h : Dvs va vb vc vd ve q9 q11 q13 x9 x11 x13) (hn : ¬ (x9 = 0 ∧ x11 = 0 ∧ x13 = 0)) (Q : List Int) : ¬ ∀ i, i < 5 → QtI [va, vb, vc, vd, ve] Q i := fun hq => by
  obtain ⟨⟨e1, l1⟩, ⟨e2, l2⟩, ⟨e3, l3⟩⟩ := h
  obtain ⟨u, h1, h2, -⟩ := hq 2 (by omega)
  obtain ⟨v, g1, g2, -⟩ := hq 3 (by omega)
  simp [wtS] at h1 g1
  subst h1 g1
  simp only [dv] at h2 g2
  obtain ⟨y, hy⟩ := h2
  obtain ⟨z, hz⟩ := g2
  apply hn
  have x9z : x9 = 0 := by omega
  have x11z : x11 = 0 := by omega
  refine ⟨x9z, x11z, ?_⟩
  subst x9z x11z
  omega
end Go.Proofs.YtcnambjckmpipaaGreatDoor
