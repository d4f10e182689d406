/- The arithmetic of the schoolbook division by two digits. -/
import Derived.Test.YtnhoodpglbjhhaaShort
namespace Go.Proofs.Ytnhoodpglbjhhaa
open Go.RowKit
set_option linter.unusedVariables false

theorem scale_top {b0 b1 sc c H : Nat} (h0 : b0 < H) (hH : sc * c = H) (h1 : b1 * sc < H) : (b0 + H * b1) * sc < H * H := by
  have hs : 0 < sc := by
    rcases Nat.eq_zero_or_pos sc with h | h
    · subst h; omega
    · exact h
  have h2 : b1 < c := by
    rw [← hH, Nat.mul_comm b1] at h1
    exact Nat.lt_of_mul_lt_mul_left h1
  have h3 : (b1 + 1) * sc ≤ H := by
    rw [← hH, Nat.mul_comm sc]
    exact Nat.mul_le_mul_right _ h2
  have h4 : (b0 + 1 + H * b1) * sc ≤ (H + H * b1) * sc := Nat.mul_le_mul_right _ (by omega)
  have e : (H + H * b1) * sc = H * ((b1 + 1) * sc) := by rw [← Nat.mul_assoc, Nat.mul_add, Nat.mul_one, Nat.add_comm]
  have h5 : H * ((b1 + 1) * sc) ≤ H * H := Nat.mul_le_mul_left _ h3
  have e2 : (b0 + 1 + H * b1) * sc = (b0 + H * b1) * sc + sc := by grind
  omega
/-- the estimate is not too small -/
theorem est_ge {d0 d1 x R D T H : Nat} (hD : D = d0 + H * d1) (hd : 0 < d1) (hx : x < H) (hR : R < D) (hT : T = x + H * R) : T / D < H ∧ T / D ≤ R / d1 := by
  have hH : 0 < H := by omega
  have h1 : H * (R + 1) ≤ H * D := Nat.mul_le_mul_left _ hR
  rw [Nat.mul_add, Nat.mul_one] at h1
  have hQ : T / D < H := Nat.div_lt_of_lt_mul (by rw [Nat.mul_comm]; omega)
  refine ⟨hQ, ?_⟩
  rw [Nat.le_div_iff_mul_le hd]
  have h2 : T / D * D ≤ T := Nat.div_mul_le_self _ _
  have h3 : T / D * (H * d1) ≤ T / D * D := Nat.mul_le_mul_left _ (by omega)
  have e : T / D * (H * d1) = H * (T / D * d1) := by grind
  have h4 : H * (T / D * d1) < H * (R + 1) := by rw [Nat.mul_add, Nat.mul_one]; omega
  have := Nat.lt_of_mul_lt_mul_left h4
  omega
/-- the top three digits -/
theorem top3 {al : List Nat} {i N D : Nat} (hl : al.length = N + 2) (hi : i < N) (hd : Dg al) (hR : VD (al.drop (i + 1)) < D) (hD : D < H32 * H32) :
    ∃ a0 a1 a2, al[i]? = some a0 ∧ al[i + 1]? = some a1 ∧ al[i + 2]? = some a2 ∧ a0 < H32 ∧ a1 < H32 ∧ a2 < H32 ∧ VD (al.drop (i + 1)) = a1 + H32 * a2 ∧ VD (al.drop i) = a0 + H32 * (a1 + H32 * a2) ∧ VD (al.drop (i + 3)) = 0 ∧ (al.drop i).take 3 = [a0, a1, a2] := by
  have g0 := List.getElem?_eq_getElem (show i < al.length by omega)
  have g1 := List.getElem?_eq_getElem (show i + 1 < al.length by omega)
  have g2 := List.getElem?_eq_getElem (show i + 2 < al.length by omega)
  have t0 := hd _ (List.getElem_mem (show i < al.length by omega))
  have t1 := hd _ (List.getElem_mem (show i + 1 < al.length by omega))
  have t2 := hd _ (List.getElem_mem (show i + 2 < al.length by omega))
  have v0 := VD_drop al i _ g0
  have v1 := VD_drop al (i + 1) _ g1
  have v2 := VD_drop al (i + 2) _ g2
  have e3 : (al.drop i).take 3 = [al[i], al[i + 1], al[i + 2]] := by
    rw [List.drop_eq_getElem_cons (show i < al.length by omega), List.take_succ_cons, List.drop_eq_getElem_cons (show i + 1 < al.length by omega), List.take_succ_cons, List.drop_eq_getElem_cons (show i + 2 < al.length by omega), List.take_succ_cons, List.take_zero]
  generalize al[i] = a0 at *
  generalize al[i + 1] = a1 at *
  generalize al[i + 2] = a2 at *
  have hz : VD (al.drop (i + 3)) = 0 := by
    rcases Nat.eq_zero_or_pos (VD (al.drop (i + 3))) with h | h
    · exact h
    · exfalso
      rw [v1, v2] at hR
      have e : a1 + H32 * (a2 + H32 * VD (al.drop (i + 2 + 1))) = a1 + H32 * a2 + H32 * H32 * VD (al.drop (i + 2 + 1)) := by grind
      have h2 : H32 * H32 * 1 ≤ H32 * H32 * VD (al.drop (i + 2 + 1)) := Nat.mul_le_mul_left _ h
      omega
  rw [show VD (al.drop (i + 2 + 1)) = 0 from hz, Nat.mul_zero, Nat.add_zero] at v2
  rw [v2] at v1
  rw [v1] at v0
  exact ⟨a0, a1, a2, g0, g1, g2, t0, t1, t2, v1, v0, hz, e3⟩
/-- al with three digits laid anew -/
def put3 (al : List Nat) (i r0 r1 r2 : Nat) : List Nat := ((al.set i r0).set (i + 1) r1).set (i + 2) r2
theorem put3_len (al : List Nat) (i r0 r1 r2 : Nat) : (put3 al i r0 r1 r2).length = al.length := by simp [put3]
theorem put3_val {al : List Nat} {i a0 a1 a2 : Nat} (r0 r1 r2 : Nat) (g0 : al[i]? = some a0) (g1 : al[i + 1]? = some a1) (g2 : al[i + 2]? = some a2) :
    VD (put3 al i r0 r1 r2) + (a0 + H32 * (a1 + H32 * a2)) * H32 ^ i = VD al + (r0 + H32 * (r1 + H32 * r2)) * H32 ^ i := by
  have h0 := VD_set al i a0 r0 g0
  have h1 := VD_set (al.set i r0) (i + 1) a1 r1 (by rw [List.getElem?_set_ne (by omega)]; exact g1)
  have h2 := VD_set ((al.set i r0).set (i + 1) r1) (i + 2) a2 r2 (by rw [List.getElem?_set_ne (by omega), List.getElem?_set_ne (by omega)]; exact g2)
  unfold put3
  rw [Nat.pow_succ] at h1 h2
  rw [Nat.pow_succ] at h2
  generalize VD (((al.set i r0).set (i + 1) r1).set (i + 2) r2) = s3 at *
  generalize VD ((al.set i r0).set (i + 1) r1) = s2 at *
  generalize VD (al.set i r0) = s1 at *
  generalize VD al = s0 at *
  generalize H32 ^ i = p at *
  generalize H32 = h at *
  clear g0 g1 g2
  grind
theorem put3_drop {al : List Nat} {i r0 r1 r2 : Nat} (hl : i + 2 < al.length) (hz : VD (al.drop (i + 3)) = 0) : VD ((put3 al i r0 r1 r2).drop i) = r0 + H32 * (r1 + H32 * r2) := by
  have g0 : (put3 al i r0 r1 r2)[i]? = some r0 := by unfold put3; rw [List.getElem?_set_ne (by omega), List.getElem?_set_ne (by omega), List.getElem?_set_self (by omega)]
  have g1 : (put3 al i r0 r1 r2)[i + 1]? = some r1 := by unfold put3; rw [List.getElem?_set_ne (by omega), List.getElem?_set_self (by simp; omega)]
  have g2 : (put3 al i r0 r1 r2)[i + 2]? = some r2 := by unfold put3; rw [List.getElem?_set_self (by simp; omega)]
  have e : (put3 al i r0 r1 r2).drop (i + 2 + 1) = al.drop (i + 2 + 1) := by
    unfold put3
    rw [drop_set, List.drop_set, if_pos (by omega), List.drop_set, if_pos (by omega)]
  rw [VD_drop _ i r0 g0, VD_drop _ (i + 1) r1 g1, VD_drop _ (i + 2) r2 g2, e, show VD (al.drop (i + 2 + 1)) = 0 from hz, Nat.mul_zero, Nat.add_zero]
theorem put3_Dg {al : List Nat} {i r0 r1 r2 : Nat} (h : Dg al) (h0 : r0 < H32) (h1 : r1 < H32) (h2 : r2 < H32) : Dg (put3 al i r0 r1 r2) := Dg_set (Dg_set (Dg_set h _ _ h0) _ _ h1) _ _ h2

/-- one digit of the quotient more -/
theorem quo_step {al ql : List Nat} {i a0 a1 a2 r0 r1 r2 D Q S z : Nat} (g0 : al[i]? = some a0) (g1 : al[i + 1]? = some a1) (g2 : al[i + 2]? = some a2) (hq : ql[i]? = some z)
    (hr : r0 + H32 * (r1 + H32 * r2) + D * Q = a0 + H32 * (a1 + H32 * a2)) (hv : VD al + D * H32 ^ (i + 1) * VD (ql.drop (i + 1)) = S) :
    VD (put3 al i r0 r1 r2) + D * H32 ^ i * VD ((ql.set i Q).drop i) = S := by
  have hi : i < ql.length := (List.getElem?_eq_some_iff.1 hq).1
  have h := put3_val r0 r1 r2 g0 g1 g2
  rw [VD_drop (ql.set i Q) i Q (by rw [List.getElem?_set_self hi]), drop_set, ← hv, Nat.pow_succ]
  generalize VD (put3 al i r0 r1 r2) = s3 at *
  generalize VD al = s0 at *
  generalize VD (ql.drop (i + 1)) = u at *
  generalize H32 ^ i = p at *
  generalize a0 + H32 * (a1 + H32 * a2) = A at *
  generalize r0 + H32 * (r1 + H32 * r2) = R at *
  generalize H32 = b at *
  clear g0 g1 g2 hq
  subst hr
  grind
/-- the remainder, divided by the scale again -/
theorem quo_end {va vd vq wd sc D S dn rest : Nat} (hD : D = wd * sc) (hS : S = va * sc) (h1 : vd + D * vq = S) (h2 : vd < D) (h3 : dn * sc + rest = vd) (h4 : rest < sc) : vq * wd + dn = va ∧ dn < wd := by
  subst hD hS
  have e1 : rest + (vq * wd + dn) * sc = 0 + va * sc := by rw [← h1, ← h3]; grind
  have hs : 0 < sc := by omega
  obtain ⟨e2, e3⟩ : rest = 0 ∧ vq * wd + dn = va := by
    have hm : rest = 0 := by
      have := congrArg (· % sc) e1
      simpa [Nat.mod_eq_of_lt h4] using this
    subst hm
    exact ⟨rfl, Nat.eq_of_mul_eq_mul_right hs (by omega)⟩
  refine ⟨e3, ?_⟩
  have : dn * sc < wd * sc := by omega
  exact Nat.lt_of_mul_lt_mul_right this
/-- the scaled divisor has two digits -/
theorem short2 {bs : List Nat} {D k : Nat} (hl : bs.length = 3) (hd : Dg bs) (hv : VD bs = D) (h1 : H32 ≤ D) (h2 : D < H32 * H32) (hk : k ≤ 3) (ht : VD (bs.take k) = VD bs) (hn : ∀ m, k = m + 1 → dig bs m ≠ 0) :
    k = 2 ∧ ∃ d0 d1, bs.take 2 = [d0, d1] ∧ d0 < H32 ∧ d1 < H32 ∧ 0 < d1 ∧ D = d0 + H32 * d1 := by
  match bs, hl with
  | [x, y, z], _ =>
    have t0 := hd x (by simp)
    have t1 := hd y (by simp)
    have e : VD [x, y, z] = x + H32 * (y + H32 * z) := by simp [VD]
    have e2 : VD [x, y] = x + H32 * y := by simp [VD]
    have e1 : VD [x] = x := by simp [VD]
    match k, hk with
    | 0, _ =>
      have : VD (List.take 0 [x, y, z]) = 0 := rfl
      have := H32_pos
      omega
    | 1, _ =>
      rw [show List.take 1 [x, y, z] = [x] from rfl, e1] at ht
      omega
    | 2, _ =>
      rw [show List.take 2 [x, y, z] = [x, y] from rfl, e2] at ht
      refine ⟨rfl, x, y, rfl, t0, t1, ?_, by omega⟩
      rcases Nat.eq_zero_or_pos y with h | h
      · subst h
        rw [Nat.mul_zero] at ht
        omega
      · exact h
    | 3, _ =>
      exfalso
      have h3 := hn 2 rfl
      have hz : z ≠ 0 := h3
      have h4 : H32 * H32 * 1 ≤ H32 * H32 * z := Nat.mul_le_mul_left _ (by omega)
      have e5 : H32 * (y + H32 * z) = H32 * y + H32 * H32 * z := by rw [Nat.mul_add, Nat.mul_assoc]
      omega
theorem start_drop {ws : List Nat} {N D : Nat} (hl : ws.length = N + 1) (hd : Dg ws) (h1 : H32 ≤ D) : VD ((ws ++ [0]).drop N) < D ∧ VD (ws ++ [0]) = VD ws := by
  constructor
  · rw [List.drop_append_of_le_length (by omega), VD_append]
    have h2 := VD_lt _ (Dg_drop hd N)
    rw [List.length_drop, hl, show N + 1 - N = 1 by omega, Nat.pow_one] at h2
    have e : VD [0] = 0 := rfl
    rw [e, Nat.mul_zero]
    omega
  · rw [VD_append]
    have e : VD [0] = 0 := rfl
    rw [e, Nat.mul_zero, Nat.add_zero]
end Go.Proofs.Ytnhoodpglbjhhaa
