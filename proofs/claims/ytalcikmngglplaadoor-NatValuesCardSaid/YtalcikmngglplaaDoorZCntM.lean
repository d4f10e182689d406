/- Bits that are counted: of a number, and of its words. -/
import Derived.Test.YtalcikmngglplaaDoorZCnt
import Derived.Test.YtalcikmngglplaaDoorP6
namespace Go.Proofs.YtalcikmngglplaaDoor
open Go.RowKit Go.Shelf
set_option linter.unusedVariables false
set_option linter.unusedSimpArgs false
set_option maxRecDepth 10000

/-- the place of the lowest bit 1, 0 for 0 -/
def TZ (x t : Nat) : Prop := (x = 0 → t = 0) ∧ (0 < x → x / 2 ^ t % 2 = 1 ∧ ∀ j, j < t → x / 2 ^ j % 2 = 0)
theorem TZ_uniq {x t t' : Nat} (h : TZ x t) (h' : TZ x t') : t = t' := by
  rcases Nat.eq_zero_or_pos x with h0 | h0
  · rw [h.1 h0, h'.1 h0]
  · obtain ⟨a1, a2⟩ := h.2 h0
    obtain ⟨b1, b2⟩ := h'.2 h0
    rcases Nat.lt_trichotomy t t' with hl | hl | hl
    · have := b2 t hl; omega
    · exact hl
    · have := a2 t' hl; omega
theorem pcn_add (x a : Nat) : ∀ b, pcn x (a + b) = pcn x a + pcn (x / 2 ^ a) b
  | 0 => by simp [pcn]
  | b + 1 => by
    show pcn x (a + b) + x / 2 ^ (a + b) % 2 = pcn x a + (pcn (x / 2 ^ a) b + x / 2 ^ a / 2 ^ b % 2)
    rw [pcn_add x a b, Nat.pow_add, Nat.div_div_eq_div_mul]; omega
theorem pcn_congr {x y : Nat} : ∀ k, (∀ j, j < k → x / 2 ^ j % 2 = y / 2 ^ j % 2) → pcn x k = pcn y k
  | 0, _ => rfl
  | k + 1, h => by
    show pcn x k + x / 2 ^ k % 2 = pcn y k + y / 2 ^ k % 2
    rw [pcn_congr k (fun j hj => h j (by omega)), h k (by omega)]
theorem pcn_none {x : Nat} : ∀ k, pcn x k = 0 → ∀ j, j < k → x / 2 ^ j % 2 = 0
  | 0, _, j, hj => by omega
  | k + 1, h, j, hj => by
    have h' : pcn x k + x / 2 ^ k % 2 = 0 := h
    rcases Nat.lt_or_ge j k with hk | hk
    · exact pcn_none k (by omega) j hk
    · have : j = k := by omega
      subst this; omega
theorem pcn_some {x : Nat} : ∀ k, 0 < pcn x k → ∃ j, j < k ∧ x / 2 ^ j % 2 = 1
  | 0, h => by simp [pcn] at h
  | k + 1, h => by
    have h' : 0 < pcn x k + x / 2 ^ k % 2 := h
    rcases Nat.eq_zero_or_pos (pcn x k) with h0 | h0
    · exact ⟨k, by omega, by omega⟩
    · obtain ⟨j, h1, h2⟩ := pcn_some k h0
      exact ⟨j, by omega, h2⟩
/-- no bits, no number -/
theorem zero_of_bits {x : Nat} : ∀ k, x < 2 ^ k → (∀ j, j < k → x / 2 ^ j % 2 = 0) → x = 0
  | 0, h, _ => by simpa using h
  | k + 1, h, hb => by
    have h1 := hb k (by omega)
    have h2 : x / 2 ^ k < 2 := by rw [Nat.div_lt_iff_lt_mul (Nat.two_pow_pos _)]; rw [Nat.pow_succ] at h; omega
    have h3 : x / 2 ^ k = 0 := by revert h1 h2; generalize x / 2 ^ k = q; omega
    have h4 : x < 2 ^ k := by
      rcases Nat.lt_or_ge x (2 ^ k) with h5 | h5
      · exact h5
      · have := Nat.div_pos h5 (Nat.two_pow_pos _); omega
    exact zero_of_bits k h4 (fun j hj => hb j (by omega))
theorem bit_zero {x k j : Nat} (h : x < 2 ^ k) (hj : k ≤ j) : x / 2 ^ j % 2 = 0 := by
  rw [Nat.div_eq_of_lt (Nat.lt_of_lt_of_le h (Nat.pow_le_pow_right (by decide) hj))]
theorem pcn_stop {x k : Nat} (h : x < 2 ^ k) : ∀ d, pcn x (k + d) = pcn x k
  | 0 => rfl
  | d + 1 => by
    show pcn x (k + d) + x / 2 ^ (k + d) % 2 = pcn x k
    rw [pcn_stop h d, bit_zero h (by omega)]; omega
theorem tzn_low (x : Nat) : ∀ k j, j < tzn x k → x / 2 ^ j % 2 = 0
  | 0, j, h => by simp [tzn] at h
  | k + 1, j, h => by
    rw [tzn] at h
    split at h
    · rename_i hk
      split at h
      · exact tzn_low x k j (by omega)
      · rename_i hb
        rcases Nat.lt_or_ge j k with hj | hj
        · exact tzn_low x k j (by omega)
        · have : j = k := by omega
          subst this; omega
    · exact tzn_low x k j h
theorem tzn_bit (x : Nat) : ∀ k, tzn x k < k → x / 2 ^ tzn x k % 2 = 1
  | 0, h => by omega
  | k + 1, h => by
    have hle := tzn_le x k
    rw [tzn] at h ⊢
    split
    · rename_i hk
      rw [if_pos hk] at h
      split
      · assumption
      · rename_i hb; rw [if_neg hb] at h; omega
    · rename_i hk
      exact tzn_bit x k (by omega)
/-- the bits of a word in the number -/
theorem bit_word {xs : List Nat} (hw : Ws xs) {q r y : Nat} (hy : xs[q]? = some y) (hr : r ≤ 63) : V xs / 2 ^ (64 * q + r) % 2 = y / 2 ^ r % 2 := by
  have h := bitOf_word hw hy rfl hr
  rw [bitOf_nat] at h
  have h' : (V xs / 2 ^ (64 * q + r) % 2 = 1) ↔ (y / 2 ^ r % 2 = 1) := by simpa using h
  omega
theorem pcn_word {xs : List Nat} (hw : Ws xs) {q y : Nat} (hy : xs[q]? = some y) : pcn (V xs) (64 * (q + 1)) = pcn (V xs) (64 * q) + pcn y 64 := by
  rw [show 64 * (q + 1) = 64 * q + 64 by omega, pcn_add]
  congr 1
  refine pcn_congr 64 (fun j hj => ?_)
  rw [← bit_word hw hy (show j ≤ 63 by omega), Nat.pow_add, Nat.div_div_eq_div_mul]
/-- the first word with a bit tells the lowest one -/
theorem tz_word {xs : List Nat} (hw : Ws xs) {q y : Nat} (hy : xs[q]? = some y) (h0 : pcn (V xs) (64 * q) = 0) (h1 : 0 < pcn y 64) : V xs / 2 ^ (64 * q + tzn y 64) % 2 = 1 ∧ ∀ j, j < 64 * q + tzn y 64 → V xs / 2 ^ j % 2 = 0 := by
  obtain ⟨j, hj, hb⟩ := pcn_some 64 h1
  have hle : tzn y 64 < 64 := by
    rcases Nat.lt_or_ge (tzn y 64) 64 with h | h
    · exact h
    · have := tzn_low y 64 j (by omega); omega
  refine ⟨by rw [bit_word hw hy (by omega)]; exact tzn_bit y 64 hle, fun i hi => ?_⟩
  rcases Nat.lt_or_ge i (64 * q) with h | h
  · exact pcn_none _ h0 i h
  · obtain ⟨r, rfl⟩ := Nat.exists_eq_add_of_le h
    rw [bit_word hw hy (by omega)]
    exact tzn_low y 64 r (by omega)
end Go.Proofs.YtalcikmngglplaaDoor
