/- The arithmetic of the schoolbook division by any digits. -/
import Derived.Test.YtalcikmngglplaaP1
namespace Go.Proofs.Ytalcikmngglplaa
open Go.RowKit
set_option linter.unusedVariables false
set_option linter.unusedSimpArgs false

theorem VD_cut (xs : List Nat) (k : Nat) (h : k ≤ xs.length) : VD xs = VD (xs.take k) + H32 ^ k * VD (xs.drop k) := by
  have := VD_append (xs.take k) (xs.drop k)
  rw [List.take_append_drop, List.length_take, Nat.min_eq_left h] at this
  exact this
/-- the highest digit -/
theorem dv_top {bs : List Nat} {m d : Nat} (hl : bs.length = m + 1) (hd : Dg bs) (hx : bs[m]? = some d) : ∃ low, low < H32 ^ m ∧ VD bs = low + H32 ^ m * d := by
  refine ⟨VD (bs.take m), ?_, ?_⟩
  · have := VD_lt _ (Dg_take hd m)
    rwa [List.length_take, Nat.min_eq_left (by omega)] at this
  · rw [VD_cut bs m (by omega)]
    congr 2
    have := VD_drop bs m d hx
    rw [VD_drop_all bs (m + 1) (by omega), Nat.mul_zero, Nat.add_zero] at this
    exact this
theorem dv_scale {wd sc c d low P : Nat} (hP : 0 < P) (hw : wd = low + P * d) (hl : low < P) (hd : 0 < d) (hc : sc * c = H32) (hs : d * sc < H32) (hs0 : 0 < sc) : P ≤ wd * sc ∧ wd * sc < P * H32 := by
  have h1 : P * 1 ≤ P * d := Nat.mul_le_mul_left _ hd
  have h2 : d < c := by
    rw [← hc, Nat.mul_comm d] at hs
    exact Nat.lt_of_mul_lt_mul_left hs
  have h3 : (d + 1) * sc ≤ H32 := by rw [← hc, Nat.mul_comm sc]; exact Nat.mul_le_mul_right _ h2
  have h4 : wd < P * (d + 1) := by rw [Nat.mul_add, Nat.mul_one]; omega
  constructor
  · have := Nat.mul_le_mul (show P ≤ wd by omega) (show 1 ≤ sc from hs0)
    omega
  · have h5 : wd * sc < P * (d + 1) * sc := Nat.mul_lt_mul_of_pos_right h4 hs0
    rw [Nat.mul_assoc] at h5
    exact Nat.lt_of_lt_of_le h5 (Nat.mul_le_mul_left _ h3)
theorem dv_est {D T P d top low tl : Nat} (hD : D = low + P * d) (hd : 0 < d) (hT : T = tl + P * top) (htl : tl < P) : T / D ≤ top / d := by
  rw [Nat.le_div_iff_mul_le hd]
  have h2 : T / D * D ≤ T := Nat.div_mul_le_self _ _
  have h3 : T / D * (P * d) ≤ T / D * D := Nat.mul_le_mul_left _ (by omega)
  have e : T / D * (P * d) = P * (T / D * d) := by rw [Nat.mul_left_comm]
  have h4 : P * (T / D * d) < P * (top + 1) := by rw [Nat.mul_add, Nat.mul_one]; omega
  have := Nat.lt_of_mul_lt_mul_left h4
  omega
/-- the part of a that a round takes; n = m + 1 digits of the divisor -/
theorem dv_part {al : List Nat} {i m M D : Nat} (hl : al.length = M) (hi : i + m + 2 ≤ M) (hd : Dg al) (hR : VD (al.drop (i + 1)) < D) (hD : D < H32 ^ (m + 1)) :
    VD (al.drop (i + (m + 2))) = 0 ∧ VD ((al.drop i).take (m + 2)) = VD (al.drop i) ∧ VD (al.drop i) < D * H32 ∧
    ∃ y1 y2 tl, al[i + m]? = some y1 ∧ al[i + m + 1]? = some y2 ∧ y1 < H32 ∧ y2 < H32 ∧ tl < H32 ^ m ∧ VD (al.drop i) = tl + H32 ^ m * (y2 * H32 + y1) := by
  have hz : VD (al.drop (i + (m + 2))) = 0 := by
    have h1 := VD_cut (al.drop (i + 1)) (m + 1) (by rw [List.length_drop]; omega)
    rw [List.drop_drop, show i + 1 + (m + 1) = i + (m + 2) by omega] at h1
    rcases Nat.eq_zero_or_pos (VD (al.drop (i + (m + 2)))) with h | h
    · exact h
    · exfalso
      have h2 : H32 ^ (m + 1) * 1 ≤ H32 ^ (m + 1) * VD (al.drop (i + (m + 2))) := Nat.mul_le_mul_left _ h
      omega
  have h2 := VD_cut (al.drop i) (m + 2) (by rw [List.length_drop]; omega)
  rw [List.drop_drop, hz, Nat.mul_zero, Nat.add_zero] at h2
  have ha := List.getElem?_eq_getElem (show i < al.length by omega)
  have hai := hd _ (List.getElem_mem (show i < al.length by omega))
  have h3 := VD_drop al i _ ha
  have g1 := List.getElem?_eq_getElem (show i + m < al.length by omega)
  have g2 := List.getElem?_eq_getElem (show i + m + 1 < al.length by omega)
  have h4 := VD_cut (al.drop i) m (by rw [List.length_drop]; omega)
  rw [List.drop_drop, VD_drop al (i + m) _ g1, VD_drop al (i + m + 1) _ g2, show i + m + 1 + 1 = i + (m + 2) by omega, hz, Nat.mul_zero, Nat.add_zero] at h4
  refine ⟨hz, h2.symm, ?_, _, _, VD ((al.drop i).take m), g1, g2, hd _ (List.getElem_mem _), hd _ (List.getElem_mem _), ?_, ?_⟩
  · rw [h3]
    have h5 := Nat.mul_le_mul_left H32 (show VD (al.drop (i + 1)) + 1 ≤ D from hR)
    rw [Nat.mul_add, Nat.mul_one] at h5
    rw [Nat.mul_comm D]
    omega
  · have := VD_lt _ (Dg_take (Dg_drop hd i) m)
    rwa [List.length_take, List.length_drop, Nat.min_eq_left (by omega)] at this
  · rw [h4, Nat.mul_comm H32, Nat.add_comm (al[i + m])]
/-- the first k of the digits rs, laid into al from i on -/
def putk (al : List Nat) (i : Nat) (rs : List Nat) : Nat → List Nat
  | 0 => al
  | k + 1 => (putk al i rs k).set (i + k) (dig rs k)
theorem putk_len (al : List Nat) (i : Nat) (rs : List Nat) (k : Nat) : (putk al i rs k).length = al.length := by
  induction k with
  | zero => rfl
  | succ k ih => rw [putk, List.length_set, ih]
theorem putk_take (al : List Nat) (i : Nat) (rs : List Nat) (k : Nat) : (putk al i rs k).take i = al.take i := by
  induction k with
  | zero => rfl
  | succ k ih => rw [putk, List.take_set, ih, List.set_eq_of_length_le (by rw [List.length_take]; omega)]
theorem putk_drop (al : List Nat) (i : Nat) (rs : List Nat) (k : Nat) (hk : k ≤ rs.length) (hi : i + k ≤ al.length) : (putk al i rs k).drop i = rs.take k ++ al.drop (i + k) := by
  induction k with
  | zero => simp [putk]
  | succ k ih =>
    have hg := List.getElem?_eq_getElem (show k < rs.length by omega)
    rw [putk, List.drop_set, if_neg (by omega), Nat.add_sub_cancel_left, ih (by omega) (by omega), List.set_append_right _ _ (by rw [List.length_take]; omega), List.length_take, Nat.min_eq_left (by omega), Nat.sub_self, List.drop_eq_getElem_cons (show i + k < al.length by omega), List.set_cons_zero, List.take_succ_eq_append_getElem (show k < rs.length by omega), List.append_assoc, dig_get hg]
    rfl
theorem putk_val {al : List Nat} {i : Nat} {rs : List Nat} {k : Nat} (hk : rs.length = k) (hi : i + k ≤ al.length) (hz : VD (al.drop (i + k)) = 0) :
    VD ((putk al i rs k).drop i) = VD rs ∧ VD (putk al i rs k) = VD (al.take i) + H32 ^ i * VD rs := by
  have h1 : VD ((putk al i rs k).drop i) = VD rs := by
    rw [putk_drop al i rs k (by omega) hi, VD_append, hz, Nat.mul_zero, Nat.add_zero, List.take_of_length_le (by omega)]
  refine ⟨h1, ?_⟩
  rw [VD_cut (putk al i rs k) i (by rw [putk_len]; omega), putk_take, h1]
/-- one digit of the quotient more -/
theorem dv_step {al ql rs : List Nat} {i k D Q S z : Nat} (hk : rs.length = k) (hi : i + k ≤ al.length) (hz : VD (al.drop (i + k)) = 0) (hq : ql[i]? = some z)
    (hr : VD rs + D * Q = VD (al.drop i)) (hv : VD al + D * H32 ^ (i + 1) * VD (ql.drop (i + 1)) = S) :
    VD (putk al i rs k) + D * H32 ^ i * VD ((ql.set i Q).drop i) = S := by
  have hil : i < ql.length := (List.getElem?_eq_some_iff.1 hq).1
  rw [(putk_val hk hi hz).2, VD_drop (ql.set i Q) i Q (by rw [List.getElem?_set_self hil]), drop_set, ← hv, VD_cut al i (by omega), ← hr, Nat.pow_succ]
  generalize VD (al.take i) = a
  generalize VD rs = r
  generalize VD (ql.drop (i + 1)) = u
  generalize H32 ^ i = p
  generalize H32 = b
  clear hq hr hv hz hi hil
  grind
/-- the remainder, divided by the scale again -/
theorem dv_end {va vd vq wd sc D S dn rest : Nat} (hD : D = wd * sc) (hS : S = va * sc) (h1 : vd + D * vq = S) (h2 : vd < D) (h3 : dn * sc + rest = vd) (h4 : rest < sc) : vq * wd + dn = va ∧ dn < wd := by
  subst hD hS
  have e1 : rest + (vq * wd + dn) * sc = 0 + va * sc := by rw [← h1, ← h3]; grind
  have hs : 0 < sc := by omega
  obtain ⟨e2, e3⟩ : rest = 0 ∧ vq * wd + dn = va := by
    have hm : rest = 0 := by
      have := congrArg (· % sc) e1
      simpa [Nat.mod_eq_of_lt h4] using this
    subst hm
    exact ⟨rfl, Nat.eq_of_mul_eq_mul_right hs (by omega)⟩
  refine ⟨e3, ?_⟩
  have : dn * sc < wd * sc := by omega
  exact Nat.lt_of_mul_lt_mul_right this
/-- so many digits has a number -/
theorem dv_digits {bs : List Nat} {D k : Nat} (hd : Dg bs) (hk : k ≤ bs.length) (hv : VD (bs.take k) = D) (hn : ∀ m, k = m + 1 → dig bs m ≠ 0) : D < H32 ^ k ∧ ∀ m, k = m + 1 → H32 ^ m ≤ D := by
  constructor
  · rw [← hv]
    have := VD_lt _ (Dg_take hd k)
    rwa [List.length_take, Nat.min_eq_left hk] at this
  · rintro m rfl
    have hg := List.getElem?_eq_getElem (show m < bs.length by omega)
    have h1 := hn m rfl
    rw [dig_get hg] at h1
    have h2 := VD_cut (bs.take (m + 1)) m (by rw [List.length_take]; omega)
    have h3 : (bs.take (m + 1)).drop m = [bs[m]] := by
      rw [List.take_succ_eq_append_getElem (show m < bs.length by omega), List.drop_append_of_le_length (by rw [List.length_take]; omega), List.drop_of_length_le (by rw [List.length_take]; omega)]
      rfl
    rw [h3, hv] at h2
    have h4 : VD [bs[m]] = bs[m] := by simp [VD]
    rw [h4] at h2
    have h5 := Nat.mul_le_mul_left (H32 ^ m) (show 1 ≤ bs[m] by omega)
    omega
theorem dv_len {D k m : Nat} (h1 : D < H32 ^ k) (h2 : ∀ j, k = j + 1 → H32 ^ j ≤ D) (h3 : H32 ^ m ≤ D) (h4 : D < H32 ^ (m + 1)) : k = m + 1 := by
  have hH : 1 < H32 := by decide
  have a1 : m < k := (Nat.pow_lt_pow_iff_right hH).1 (Nat.lt_of_le_of_lt h3 h1)
  obtain ⟨j, rfl⟩ : ∃ j, k = j + 1 := ⟨k - 1, by omega⟩
  have a2 : j < m + 1 := (Nat.pow_lt_pow_iff_right hH).1 (Nat.lt_of_le_of_lt (h2 j rfl) h4)
  omega
theorem dv_start {ws : List Nat} {M K m D : Nat} (hl : ws.length + 1 = M) (hd : Dg ws) (h1 : H32 ^ m ≤ D) (hK : M ≤ K + m + 1) : VD ((ws ++ [0]).drop K) < D ∧ VD (ws ++ [0]) = VD ws := by
  have e : VD [0] = 0 := rfl
  constructor
  · rcases Nat.lt_or_ge ws.length K with h | h
    · rw [VD_drop_all _ K (by simp; omega)]
      exact Nat.lt_of_lt_of_le (Nat.pow_pos (by decide)) h1
    · rw [List.drop_append_of_le_length (by omega), VD_append]
      have h2 := VD_lt _ (Dg_drop hd K)
      rw [List.length_drop] at h2
      rw [e, Nat.mul_zero]
      exact Nat.lt_of_lt_of_le h2 (Nat.le_trans (Nat.pow_le_pow_right (by decide) (by omega)) h1)
  · rw [VD_append, e, Nat.mul_zero, Nat.add_zero]
/-- whether the estimate fits -/
theorem dv_fits {T D gs v bo P : Nat} (hD : 0 < D) (h : v + D * gs = T + bo * P) (hv : v < P) (hb : bo ≤ 1) (hQ : T / D ≤ gs) : (bo = 0 → gs = T / D ∧ v + D * (T / D) = T ∧ v < D) ∧ (bo = 1 → T / D < gs) := by
  refine ⟨fun h0 => ?_, fun h1 => ?_⟩
  · subst h0
    have h2 : gs ≤ T / D := by rw [Nat.le_div_iff_mul_le hD, Nat.mul_comm]; omega
    have h3 : gs = T / D := by omega
    rw [← h3]
    refine ⟨rfl, by omega, ?_⟩
    have h4 : T < D * (T / D + 1) := Nat.lt_mul_div_succ T hD
    rw [← h3, Nat.mul_add, Nat.mul_one] at h4
    omega
  · subst h1
    rw [Nat.div_lt_iff_lt_mul hD, Nat.mul_comm]
    omega
end Go.Proofs.Ytalcikmngglplaa
