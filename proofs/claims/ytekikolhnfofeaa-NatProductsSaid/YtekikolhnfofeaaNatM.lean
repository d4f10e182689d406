/- Canonical rows, columns of products, powers: plain arithmetic. -/
import Derived.Test.YtekikolhnfofeaaVal
namespace Go.Proofs.Ytekikolhnfofeaa
open Go.RowKit
set_option linter.unusedVariables false

/-- the row is canonical: its highest word is not 0 -/
def Cn (xs : List Nat) : Prop := ∀ m, xs.length = m + 1 → xs[m]? ≠ some 0
theorem Cn_nil : Cn [] := fun m h => by simp at h
theorem B64_pos : 0 < B64 := by decide
theorem B64_one : 1 < B64 := by decide
theorem V_ge {xs : List Nat} {m : Nat} (h : Cn xs) (hl : xs.length = m + 1) : B64 ^ m ≤ V xs := by
  have hm : m < xs.length := by omega
  have h1 := V_take_succ xs m hm
  rw [List.take_of_length_le (by omega)] at h1
  have h2 := h m hl
  rw [List.getElem?_eq_getElem hm] at h2
  have h3 : 0 < xs[m] := Nat.pos_of_ne_zero fun e => h2 (by rw [e])
  have h4 := Nat.le_mul_of_pos_left (B64 ^ m) h3
  omega
theorem Cn_of_ge {xs : List Nat} (hw : Ws xs) (h : ∀ m, xs.length = m + 1 → B64 ^ m ≤ V xs) : Cn xs := by
  intro m hl h0
  have hm : m < xs.length := by omega
  have h1 := V_take_succ xs m hm
  rw [List.take_of_length_le (by omega)] at h1
  rw [List.getElem?_eq_getElem hm] at h0
  injection h0 with h0
  rw [h0, Nat.zero_mul, Nat.add_zero] at h1
  have h2 := V_lt (xs.take m) (fun x hx => hw x (List.mem_of_mem_take hx))
  rw [List.length_take, Nat.min_eq_left (by omega)] at h2
  have := h m hl
  omega
/-- the number of words of a canonical row -/
theorem Cn_len {xs : List Nat} (hw : Ws xs) (h : Cn xs) (k : Nat) : xs.length ≤ k ↔ V xs < B64 ^ k := by
  constructor
  · intro hk
    exact Nat.lt_of_lt_of_le (V_lt xs hw) (Nat.pow_le_pow_right B64_pos hk)
  · intro hv
    cases hx : xs.length with
    | zero => omega
    | succ m =>
      have h1 := V_ge h hx
      by_cases hk : m + 1 ≤ k
      · exact hk
      · have := Nat.pow_le_pow_right B64_pos (show k ≤ m by omega)
        omega
theorem Cn_inj {xs ys : List Nat} (hx : Ws xs) (hy : Ws ys) (cx : Cn xs) (cy : Cn ys) (h : V xs = V ys) : xs = ys := by
  refine V_inj xs ys hx hy ?_ h
  have h1 := (Cn_len hx cx ys.length).2 (by rw [h]; exact V_lt ys hy)
  have h2 := (Cn_len hy cy xs.length).2 (by rw [← h]; exact V_lt xs hx)
  omega
theorem V_zero {xs : List Nat} (hx : Ws xs) (cx : Cn xs) : V xs = 0 ↔ xs = [] := by
  constructor
  · intro h; exact Cn_inj hx (fun _ h => by cases h) cx Cn_nil h
  · rintro rfl; rfl

theorem getD_out {xs : List Nat} {i : Nat} (h : xs.length ≤ i) : xs.getD i 0 = 0 := by
  rw [List.getD_eq_getElem?_getD, List.getElem?_eq_none h, Option.getD_none]
/-- a sum of f over the first n places, each with its power -/
def Ps (f : Nat → Nat) : Nat → Nat
  | 0 => 0
  | k + 1 => Ps f k + f k * B64 ^ k
/-- the sum of the first i products of column k -/
def pc (xs ys : List Nat) (k : Nat) : Nat → Nat
  | 0 => 0
  | i + 1 => pc xs ys k i + (if i ≤ k then xs.getD i 0 * ys.getD (k - i) 0 else 0)
theorem pc_beyond (xs ys : List Nat) (k : Nat) {i j : Nat} (h : k < i) (hj : i ≤ j) : pc xs ys k j = pc xs ys k i := by
  induction j with
  | zero => have : i = 0 := by omega
            subst this; rfl
  | succ j ih =>
    by_cases hi : i = j + 1
    · rw [hi]
    · rw [pc, if_neg (by omega), Nat.add_zero]
      exact ih (by omega)
theorem pc_full (xs ys : List Nat) (k : Nat) {i j : Nat} (h : xs.length ≤ i) (hj : i ≤ j) : pc xs ys k j = pc xs ys k i := by
  induction j with
  | zero => have : i = 0 := by omega
            subst this; rfl
  | succ j ih =>
    by_cases hi : i = j + 1
    · rw [hi]
    · rw [pc, getD_out (show xs.length ≤ j by omega), Nat.zero_mul, ite_self, Nat.add_zero]
      exact ih (by omega)
theorem pc_low (xs ys : List Nat) (k i : Nat) (h : i + ys.length ≤ k + 1) : pc xs ys k i = 0 := by
  induction i with
  | zero => rfl
  | succ i ih =>
    rw [pc, ih (by omega), getD_out (show ys.length ≤ k - i by omega), Nat.mul_zero, ite_self]
/-- the sum of a shifted row -/
theorem Ps_shift (ys : List Nat) (i : Nat) (a : Nat) (k : Nat) : Ps (fun k => if i ≤ k then a * ys.getD (k - i) 0 else 0) (i + k) = a * B64 ^ i * V (ys.take k) := by
  induction k with
  | zero =>
    have : ∀ j, j ≤ i → Ps (fun k => if i ≤ k then a * ys.getD (k - i) 0 else 0) j = 0 := by
      intro j
      induction j with
      | zero => intro _; rfl
      | succ j ih =>
        intro hj
        rw [Ps, ih (by omega), if_neg (by omega), Nat.zero_mul]
    rw [Nat.add_zero, this i (Nat.le_refl _)]
    simp [V]
  | succ k ih =>
    rw [← Nat.add_assoc, Ps, ih, if_pos (by omega), Nat.add_sub_cancel_left]
    by_cases hk : k < ys.length
    · rw [V_take_succ ys k hk, List.getD_eq_getElem?_getD, List.getElem?_eq_getElem hk, Option.getD_some, Nat.pow_add]
      generalize B64 ^ i = p
      generalize B64 ^ k = q
      generalize V (ys.take k) = v
      grind
    · rw [getD_out (by omega), List.take_of_length_le (show ys.length ≤ k by omega), List.take_of_length_le (show ys.length ≤ k + 1 by omega)]
      simp
theorem Ps_add (f g : Nat → Nat) (k : Nat) : Ps (fun k => f k + g k) k = Ps f k + Ps g k := by
  induction k with
  | zero => rfl
  | succ k ih =>
    rw [Ps, Ps, Ps, ih, Nat.add_mul]
    omega
theorem Ps_zero (k : Nat) : Ps (fun _ => 0) k = 0 := by
  induction k with
  | zero => rfl
  | succ k ih => rw [Ps, ih, Nat.zero_mul]
/-- the columns add up to the product -/
theorem Ps_pc (xs ys : List Nat) (N : Nat) (i : Nat) (hN : i + ys.length ≤ N) : Ps (fun k => pc xs ys k i) N = V (xs.take i) * V ys := by
  induction i with
  | zero => simp [pc, Ps_zero, V]
  | succ i ih =>
    have h1 : (fun k => pc xs ys k (i + 1)) = fun k => pc xs ys k i + (if i ≤ k then xs.getD i 0 * ys.getD (k - i) 0 else 0) := rfl
    rw [h1, Ps_add, ih (by omega)]
    obtain ⟨j, rfl⟩ : ∃ j, N = i + j := ⟨N - i, by omega⟩
    rw [Ps_shift, List.take_of_length_le (show ys.length ≤ j by omega)]
    by_cases hi : i < xs.length
    · rw [V_take_succ xs i hi, List.getD_eq_getElem?_getD, List.getElem?_eq_getElem hi, Option.getD_some, Nat.add_mul]
    · rw [getD_out (by omega), List.take_of_length_le (show xs.length ≤ i by omega), List.take_of_length_le (show xs.length ≤ i + 1 by omega)]
      simp
theorem Ps_product (xs ys : List Nat) : Ps (fun k => pc xs ys k xs.length) (xs.length + ys.length) = V xs * V ys := by
  rw [Ps_pc xs ys _ _ (Nat.le_refl _), List.take_length]

/-- what is carried into column k, of columns f -/
def cry (f : Nat → Nat) : Nat → Nat
  | 0 => 0
  | k + 1 => (cry f k + f k) / B64
/-- word k of the columns' sum -/
def wrd (f : Nat → Nat) (k : Nat) : Nat := (cry f k + f k) % B64
theorem cry_ps (f : Nat → Nat) (k : Nat) : Ps (wrd f) k + cry f k * B64 ^ k = Ps f k := by
  induction k with
  | zero => simp [Ps, cry]
  | succ k ih =>
    rw [Ps, Ps, ← ih, wrd, cry, Nat.pow_succ]
    have h := Nat.div_add_mod (cry f k + f k) B64
    generalize (cry f k + f k) / B64 = q at *
    generalize (cry f k + f k) % B64 = r at *
    generalize B64 ^ k = p
    generalize Ps (wrd f) k = s
    generalize B64 = b at *
    have h2 : (b * q + r) * p = (cry f k + f k) * p := by rw [h]
    rw [Nat.add_mul, Nat.add_mul] at h2
    have h3 : b * q * p = q * (p * b) := by rw [Nat.mul_comm b q, Nat.mul_assoc, Nat.mul_comm b p]
    omega
theorem wrd_lt (f : Nat → Nat) (k : Nat) : wrd f k < B64 := Nat.mod_lt _ B64_pos
theorem V_words (f : Nat → Nat) (k : Nat) : V ((List.range k).map f) = Ps f k := by
  induction k with
  | zero => rfl
  | succ k ih => rw [List.range_succ, List.map_append, List.map_singleton, V_snoc, ih, Ps]; simp
/-- the words of a product, all of them -/
theorem V_product (f : Nat → Nat) (N x : Nat) (h : Ps f N = x) (hx : x < B64 ^ N) : V ((List.range N).map (wrd f)) = x := by
  rw [V_words]
  have h1 := cry_ps f N
  rw [h] at h1
  rcases Nat.eq_zero_or_pos (cry f N) with h2 | h2
  · rw [h2] at h1; omega
  · have := Nat.le_mul_of_pos_left (B64 ^ N) h2
    omega
/-- columns are small -/
theorem pc_le (xs ys : List Nat) (hx : Ws xs) (hy : Ws ys) (k i : Nat) : pc xs ys k i ≤ i * (B64 * B64) := by
  induction i with
  | zero => simp [pc]
  | succ i ih =>
    rw [pc, Nat.add_mul, Nat.one_mul]
    refine Nat.add_le_add ih ?_
    split
    · refine Nat.mul_le_mul ?_ ?_
      · by_cases hi : i < xs.length
        · rw [List.getD_eq_getElem?_getD, List.getElem?_eq_getElem hi, Option.getD_some]; exact Nat.le_of_lt (hx _ (List.getElem_mem hi))
        · rw [getD_out (by omega)]; omega
      · by_cases hi : k - i < ys.length
        · rw [List.getD_eq_getElem?_getD, List.getElem?_eq_getElem hi, Option.getD_some]; exact Nat.le_of_lt (hy _ (List.getElem_mem hi))
        · rw [getD_out (by omega)]; omega
    · omega
theorem cry_le (f : Nat → Nat) (M : Nat) (hf : ∀ k, f k ≤ M * (B64 * B64)) (k : Nat) : cry f k ≤ 2 * M * B64 := by
  induction k with
  | zero => simp [cry]
  | succ k ih =>
    rw [cry]
    have h1 := hf k
    have h2 : cry f k + f k ≤ B64 * (2 * M * B64) := by
      have h3 : 2 * M * B64 ≤ M * (B64 * B64) := by
        have : 2 * (M * B64) ≤ B64 * (M * B64) := Nat.mul_le_mul_right _ (by decide)
        have e1 : 2 * M * B64 = 2 * (M * B64) := Nat.mul_assoc _ _ _
        have e2 : M * (B64 * B64) = B64 * (M * B64) := by rw [← Nat.mul_assoc, Nat.mul_comm]
        omega
      have e3 : B64 * (2 * M * B64) = 2 * (M * (B64 * B64)) := by
        generalize B64 = b
        grind
      omega
    exact Nat.div_le_of_le_mul h2
theorem pc_sym (xs : List Nat) (k : Nat) (j : Nat) (h : j ≤ k + 1) : pc xs xs k (k + 1) = pc xs xs k (k + 1 - j) + pc xs xs k j := by
  induction j with
  | zero => simp [pc]
  | succ j ih =>
    have h1 := ih (by omega)
    have e : pc xs xs k (k - j + 1) = pc xs xs k (k - j) + xs.getD j 0 * xs.getD (k - j) 0 := by rw [pc, if_pos (by omega), show k - (k - j) = j by omega, Nat.mul_comm]
    rw [show k + 1 - j = (k - j) + 1 by omega, e] at h1
    rw [show k + 1 - (j + 1) = k - j by omega, h1]
    rw [show pc xs xs k (j + 1) = pc xs xs k j + xs.getD j 0 * xs.getD (k - j) 0 by rw [pc, if_pos (by omega)]]
    omega
theorem pc_all (xs : List Nat) (k : Nat) : pc xs xs k xs.length = pc xs xs k (k + 1) := by
  rcases Nat.lt_or_ge k xs.length with h | h
  · exact pc_beyond xs xs k (Nat.lt_succ_self k) h
  · exact (pc_full xs xs k (Nat.le_refl _) (by omega)).symm
/-- a column of a square: twice its pairs, and the middle -/
theorem pc_odd (xs : List Nat) (k j : Nat) (h : 2 * j = k + 1) : pc xs xs k xs.length = pc xs xs k j + pc xs xs k j := by
  rw [pc_all, pc_sym xs k j (by omega), show k + 1 - j = j by omega]
theorem pc_even (xs : List Nat) (k j : Nat) (h : 2 * j = k) : pc xs xs k xs.length = pc xs xs k j + pc xs xs k j + xs.getD j 0 * xs.getD j 0 := by
  rw [pc_all, pc_sym xs k j (by omega), show k + 1 - j = j + 1 by omega, pc, if_pos (by omega), show k - j = j by omega]
  omega

/-- powers, read from the highest bit on -/
theorem pow_half (x k i : Nat) : x ^ (k / 2 ^ i) = x ^ (k / 2 ^ (i + 1)) * x ^ (k / 2 ^ (i + 1)) * (if k / 2 ^ i % 2 = 1 then x else 1) := by
  have h : k / 2 ^ (i + 1) = k / 2 ^ i / 2 := by rw [Nat.pow_succ, Nat.div_div_eq_div_mul]
  rw [h]
  generalize k / 2 ^ i = m
  rw [← Nat.pow_add]
  split
  · rw [← Nat.pow_succ]
    congr 1
    omega
  · rw [Nat.mul_one]
    congr 1
    omega
theorem pow_big (x k i : Nat) (h : 1 < x ^ (k / 2 ^ i)) : x ^ (k / 2 ^ i) ≤ x ^ k := by
  rcases Nat.eq_zero_or_pos x with rfl | hx
  · rcases Nat.eq_zero_or_pos (k / 2 ^ i) with h0 | h0
    · rw [h0] at h; simp at h
    · rw [Nat.zero_pow h0] at h; omega
  · exact Nat.pow_le_pow_right hx (Nat.div_le_self _ _)
end Go.Proofs.Ytekikolhnfofeaa
