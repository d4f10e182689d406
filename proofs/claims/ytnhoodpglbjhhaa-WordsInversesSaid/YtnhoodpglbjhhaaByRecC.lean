/- The four ways through words.ByReciprocal, in arithmetic. -/
import Derived.Test.YtnhoodpglbjhhaaByRec
namespace Go.Proofs.Ytnhoodpglbjhhaa
open Go.RowKit
set_option linter.unusedVariables false

theorem wrap_of {x : Int} {n : Nat} (c : Int) (h : x = n + c * 18446744073709551616) (hn : n < B64) : IntKind.u64.wrap x = (n : Int) := by
  have hB : B64 = 18446744073709551616 := rfl
  rw [IntKind.wrap_u64]
  omega

/-- the ways: 1 less, 1 less and 1 more, 1 more, right -/
def Way (d q0 qb r q' r' : Nat) : Prop :=
  (q0 < r ∧ IntKind.u64.wrap ((qb : Int) - 1) = (q' : Int) ∧ IntKind.u64.wrap ((r : Int) + d) = (r' : Int)) ∨
  (q0 < r ∧ ∃ qc rc : Nat, IntKind.u64.wrap ((qb : Int) - 1) = (qc : Int) ∧ IntKind.u64.wrap ((r : Int) + d) = (rc : Int) ∧ d ≤ rc ∧ IntKind.u64.wrap ((qc : Int) + 1) = (q' : Int) ∧ IntKind.u64.wrap ((rc : Int) - d) = (r' : Int)) ∨
  (r ≤ q0 ∧ d ≤ r ∧ IntKind.u64.wrap ((qb : Int) + 1) = (q' : Int) ∧ IntKind.u64.wrap ((r : Int) - d) = (r' : Int)) ∨
  (r ≤ q0 ∧ q' = qb ∧ r' = r)

theorem rec_int {B d v k : Nat} (h : B * B = (v + B) * d + k + 1) : (B : Int) * B = ((v : Int) + B) * d + ((k : Int) + 1) := by
  have := congrArg (fun x : Nat => (x : Int)) h
  push_cast at this
  omega
theorem val_int {B v h l t q : Nat} (e : v * h + l = t * B + q) : (v : Int) * h + l = t * B + q := by
  have := congrArg (fun x : Nat => (x : Int)) e
  push_cast at this
  omega

theorem mg_cases (d v h l t q0 : Nat) (hd : 9223372036854775808 ≤ d) (hdB : d < B64) (hr : IsRec d v) (hh : h < d) (hl : l < B64) (ht : v * h + l = t * B64 + q0) (hq : q0 < B64) :
    ∃ qa qb m r q' r' : Nat, IntKind.u64.wrap ((t : Int) + h) = (qa : Int) ∧ IntKind.u64.wrap ((qa : Int) + 1) = (qb : Int) ∧ IntKind.u64.wrap ((qb : Int) * d) = (m : Int) ∧ IntKind.u64.wrap ((l : Int) - m) = (r : Int) ∧
      (h * B64 + l = q' * d + r' ∧ r' < d) ∧ Way d q0 qb r q' r' := by
  have hB : B64 = 18446744073709551616 := rfl
  obtain ⟨k, hk, ek⟩ := hr
  obtain ⟨qa, c1, w1, l1, e1⟩ := u64_mod ((t : Int) + h)
  obtain ⟨qb, c2, w2, l2, e2⟩ := u64_mod ((qa : Int) + 1)
  obtain ⟨m, c3, w3, l3, e3⟩ := u64_mod ((qb : Int) * d)
  obtain ⟨r, c4, w4, l4, e4⟩ := u64_mod ((l : Int) - m)
  obtain ⟨e, he⟩ := mg_left e1 e2 e3 e4
  have hBI : ((B64 : Nat) : Int) = 18446744073709551616 := rfl
  have ek' := rec_int ek
  have ev' := val_int ht
  rw [hBI] at ek' ev'
  obtain ⟨g1, g2, g3⟩ := mg_range (B := 18446744073709551616) (d := d) (v := v) (h := h) (l := l) (t := t) (q0 := q0) (k := (k : Int) + 1) (by omega) (by omega) (by omega) (by omega) (by omega) (by omega) (by omega) (by omega) (by omega) (by omega) (by omega) ek' ev'
  have hX : (((t + h + 1) * d : Nat) : Int) = ((t : Int) + h + 1) * d := by push_cast; rfl
  obtain ⟨X, eX⟩ : ∃ X : Nat, (t + h + 1) * d = X := ⟨_, rfl⟩
  rw [eX] at hX
  rw [← hX] at he g1 g2 g3
  have less : (t + h) * d + d = X := by rw [← eX, Nat.add_mul (t + h) 1, Nat.one_mul]
  have more : (t + h + 2) * d = X + d := by rw [← eX, Nat.add_mul (t + h + 1) 1, Nat.one_mul]
  have lt_of : ∀ q : Nat, q * d ≤ h * 18446744073709551616 + l → q < B64 := by
    intro q hq'
    rcases Nat.lt_or_ge q B64 with h1 | h1
    · exact h1
    · have := Nat.mul_le_mul_right d h1
      rw [hB] at this
      omega
  have low : X ≤ h * 18446744073709551616 + l → t + h + 1 < B64 := fun h0 => lt_of _ (by rw [eX]; exact h0)
  have fit : t + h + 1 < B64 → qb = t + h + 1 := fun h0 => by clear ek ek' ev' ht hX e3 e4 he less more lt_of low g1 g2 g3; omega
  clear ek ek' ev' ht hX e3 hk
  have hHB : h * B64 = h * 18446744073709551616 := rfl
  rcases Int.lt_or_le ((h : Int) * 18446744073709551616 + l - X) 0 with hR | hR
  · have e0 : e = 1 := by clear lt_of low fit less more eX e1 e2 e4; omega
    subst e0
    have b1 : t + h < B64 := lt_of _ (by omega)
    obtain ⟨r', hr'⟩ : ∃ r' : Nat, (r' : Int) = (h : Int) * 18446744073709551616 + l - X + d := ⟨((h : Int) * 18446744073709551616 + l - X + d).toNat, by omega⟩
    refine ⟨qa, qb, m, r, t + h, r', w1, w2, w3, w4, ⟨by omega, by omega⟩, .inl ⟨by omega, wrap_of (-c1 - c2) (by push_cast; omega) b1, wrap_of 1 (by omega) (by omega)⟩⟩
  · have e0 : e = 0 := by clear lt_of low fit less more eX e1 e2 e4; omega
    subst e0
    have hX1 : X ≤ h * 18446744073709551616 + l := by omega
    have b1 := low hX1
    have f1 := fit b1
    rcases Nat.lt_or_ge q0 r with k1 | k1
    · obtain ⟨qc, c5, w5, l5, e5⟩ := u64_mod ((qb : Int) - 1)
      obtain ⟨rc, hrc⟩ : ∃ rc : Nat, rc = r + d := ⟨_, rfl⟩
      refine ⟨qa, qb, m, r, t + h + 1, r, w1, w2, w3, w4, ⟨by rw [eX]; omega, by omega⟩, .inr (.inl ⟨by omega, qc, rc, w5, wrap_of 0 (by omega) (by omega), by omega, wrap_of (-c5) (by push_cast; omega) b1, wrap_of 0 (by omega) (by omega)⟩)⟩
    · rcases Nat.lt_or_ge r d with k2 | k2
      · exact ⟨qa, qb, m, r, qb, r, w1, w2, w3, w4, ⟨by rw [f1, eX]; omega, k2⟩, .inr (.inr (.inr ⟨k1, rfl, rfl⟩))⟩
      · have b2 : t + h + 2 < B64 := lt_of _ (by rw [more]; omega)
        obtain ⟨r', hr'⟩ : ∃ r' : Nat, r = r' + d := ⟨r - d, by omega⟩
        exact ⟨qa, qb, m, r, t + h + 2, r', w1, w2, w3, w4, ⟨by rw [more]; omega, by omega⟩, .inr (.inr (.inl ⟨k1, k2, wrap_of 0 (by push_cast; omega) b2, wrap_of 0 (by omega) (by omega)⟩))⟩
end Go.Proofs.Ytnhoodpglbjhhaa
