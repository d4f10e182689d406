/- Pieces of the proofs, together: DvM, DvL, DvW, RDvd. -/
import Derived.Test.YthpgdpkemnhneaaDoorP1

namespace Go.Proofs.YthpgdpkemnhneaaDoor
open Go.RowKit
set_option linter.unusedVariables false
set_option linter.unusedSimpArgs false

theorem VD_cut (xs : List Nat) (k : Nat) (h : k ≤ xs.length) : VD xs = VD (xs.take k) + H32 ^ k * VD (xs.drop k) := by
  have := VD_append (xs.take k) (xs.drop k)
  rw [List.take_append_drop, List.length_take, Nat.min_eq_left h] at this
  exact this
/-- the highest digit -/
theorem dv_top {bs : List Nat} {m d : Nat} (hl : bs.length = m + 1) (hd : Dg bs) (hx : bs[m]? = some d) : ∃ low, low < H32 ^ m ∧ VD bs = low + H32 ^ m * d := by
  refine ⟨VD (bs.take m), ?_, ?_⟩
  · have := VD_lt _ (Dg_take hd m)
    rwa [List.length_take, Nat.min_eq_left (by omega)] at this
  · rw [VD_cut bs m (by omega)]
    congr 2
    have := VD_drop bs m d hx
    rw [VD_drop_all bs (m + 1) (by omega), Nat.mul_zero, Nat.add_zero] at this
    exact this
theorem dv_scale {wd sc c d low P : Nat} (hP : 0 < P) (hw : wd = low + P * d) (hl : low < P) (hd : 0 < d) (hc : sc * c = H32) (hs : d * sc < H32) (hs0 : 0 < sc) : P ≤ wd * sc ∧ wd * sc < P * H32 := by
  have h1 : P * 1 ≤ P * d := Nat.mul_le_mul_left _ hd
  have h2 : d < c := by
    rw [← hc, Nat.mul_comm d] at hs
    exact Nat.lt_of_mul_lt_mul_left hs
  have h3 : (d + 1) * sc ≤ H32 := by rw [← hc, Nat.mul_comm sc]; exact Nat.mul_le_mul_right _ h2
  have h4 : wd < P * (d + 1) := by rw [Nat.mul_add, Nat.mul_one]; omega
  constructor
  · have := Nat.mul_le_mul (show P ≤ wd by omega) (show 1 ≤ sc from hs0)
    omega
  · have h5 : wd * sc < P * (d + 1) * sc := Nat.mul_lt_mul_of_pos_right h4 hs0
    rw [Nat.mul_assoc] at h5
    exact Nat.lt_of_lt_of_le h5 (Nat.mul_le_mul_left _ h3)
theorem dv_est {D T P d top low tl : Nat} (hD : D = low + P * d) (hd : 0 < d) (hT : T = tl + P * top) (htl : tl < P) : T / D ≤ top / d := by
  rw [Nat.le_div_iff_mul_le hd]
  have h2 : T / D * D ≤ T := Nat.div_mul_le_self _ _
  have h3 : T / D * (P * d) ≤ T / D * D := Nat.mul_le_mul_left _ (by omega)
  have e : T / D * (P * d) = P * (T / D * d) := by rw [Nat.mul_left_comm]
  have h4 : P * (T / D * d) < P * (top + 1) := by rw [Nat.mul_add, Nat.mul_one]; omega
  have := Nat.lt_of_mul_lt_mul_left h4
  omega
/-- the part of a that a round takes; n = m + 1 digits of the divisor -/
theorem dv_part {al : List Nat} {i m M D : Nat} (hl : al.length = M) (hi : i + m + 2 ≤ M) (hd : Dg al) (hR : VD (al.drop (i + 1)) < D) (hD : D < H32 ^ (m + 1)) :
    VD (al.drop (i + (m + 2))) = 0 ∧ VD ((al.drop i).take (m + 2)) = VD (al.drop i) ∧ VD (al.drop i) < D * H32 ∧
    ∃ y1 y2 tl, al[i + m]? = some y1 ∧ al[i + m + 1]? = some y2 ∧ y1 < H32 ∧ y2 < H32 ∧ tl < H32 ^ m ∧ VD (al.drop i) = tl + H32 ^ m * (y2 * H32 + y1) := by
  have hz : VD (al.drop (i + (m + 2))) = 0 := by
    have h1 := VD_cut (al.drop (i + 1)) (m + 1) (by rw [List.length_drop]; omega)
    rw [List.drop_drop, show i + 1 + (m + 1) = i + (m + 2) by omega] at h1
    rcases Nat.eq_zero_or_pos (VD (al.drop (i + (m + 2)))) with h | h
    · exact h
    · exfalso
      have h2 : H32 ^ (m + 1) * 1 ≤ H32 ^ (m + 1) * VD (al.drop (i + (m + 2))) := Nat.mul_le_mul_left _ h
      omega
  have h2 := VD_cut (al.drop i) (m + 2) (by rw [List.length_drop]; omega)
  rw [List.drop_drop, hz, Nat.mul_zero, Nat.add_zero] at h2
  have ha := List.getElem?_eq_getElem (show i < al.length by omega)
  have hai := hd _ (List.getElem_mem (show i < al.length by omega))
  have h3 := VD_drop al i _ ha
  have g1 := List.getElem?_eq_getElem (show i + m < al.length by omega)
  have g2 := List.getElem?_eq_getElem (show i + m + 1 < al.length by omega)
  have h4 := VD_cut (al.drop i) m (by rw [List.length_drop]; omega)
  rw [List.drop_drop, VD_drop al (i + m) _ g1, VD_drop al (i + m + 1) _ g2, show i + m + 1 + 1 = i + (m + 2) by omega, hz, Nat.mul_zero, Nat.add_zero] at h4
  refine ⟨hz, h2.symm, ?_, _, _, VD ((al.drop i).take m), g1, g2, hd _ (List.getElem_mem _), hd _ (List.getElem_mem _), ?_, ?_⟩
  · rw [h3]
    have h5 := Nat.mul_le_mul_left H32 (show VD (al.drop (i + 1)) + 1 ≤ D from hR)
    rw [Nat.mul_add, Nat.mul_one] at h5
    rw [Nat.mul_comm D]
    omega
  · have := VD_lt _ (Dg_take (Dg_drop hd i) m)
    rwa [List.length_take, List.length_drop, Nat.min_eq_left (by omega)] at this
  · rw [h4, Nat.mul_comm H32, Nat.add_comm (al[i + m])]
/-- the first k of the digits rs, laid into al from i on -/
def putk (al : List Nat) (i : Nat) (rs : List Nat) : Nat → List Nat
  | 0 => al
  | k + 1 => (putk al i rs k).set (i + k) (dig rs k)
theorem putk_len (al : List Nat) (i : Nat) (rs : List Nat) (k : Nat) : (putk al i rs k).length = al.length := by
  induction k with
  | zero => rfl
  | succ k ih => rw [putk, List.length_set, ih]
theorem putk_take (al : List Nat) (i : Nat) (rs : List Nat) (k : Nat) : (putk al i rs k).take i = al.take i := by
  induction k with
  | zero => rfl
  | succ k ih => rw [putk, List.take_set, ih, List.set_eq_of_length_le (by rw [List.length_take]; omega)]
theorem putk_drop (al : List Nat) (i : Nat) (rs : List Nat) (k : Nat) (hk : k ≤ rs.length) (hi : i + k ≤ al.length) : (putk al i rs k).drop i = rs.take k ++ al.drop (i + k) := by
  induction k with
  | zero => simp [putk]
  | succ k ih =>
    have hg := List.getElem?_eq_getElem (show k < rs.length by omega)
    rw [putk, List.drop_set, if_neg (by omega), Nat.add_sub_cancel_left, ih (by omega) (by omega), List.set_append_right _ _ (by rw [List.length_take]; omega), List.length_take, Nat.min_eq_left (by omega), Nat.sub_self, List.drop_eq_getElem_cons (show i + k < al.length by omega), List.set_cons_zero, List.take_succ_eq_append_getElem (show k < rs.length by omega), List.append_assoc, dig_get hg]
    rfl
theorem putk_val {al : List Nat} {i : Nat} {rs : List Nat} {k : Nat} (hk : rs.length = k) (hi : i + k ≤ al.length) (hz : VD (al.drop (i + k)) = 0) :
    VD ((putk al i rs k).drop i) = VD rs ∧ VD (putk al i rs k) = VD (al.take i) + H32 ^ i * VD rs := by
  have h1 : VD ((putk al i rs k).drop i) = VD rs := by
    rw [putk_drop al i rs k (by omega) hi, VD_append, hz, Nat.mul_zero, Nat.add_zero, List.take_of_length_le (by omega)]
  refine ⟨h1, ?_⟩
  rw [VD_cut (putk al i rs k) i (by rw [putk_len]; omega), putk_take, h1]
/-- one digit of the quotient more -/
theorem dvD_step {al ql rs : List Nat} {i k D Q S z : Nat} (hk : rs.length = k) (hi : i + k ≤ al.length) (hz : VD (al.drop (i + k)) = 0) (hq : ql[i]? = some z)
    (hr : VD rs + D * Q = VD (al.drop i)) (hv : VD al + D * H32 ^ (i + 1) * VD (ql.drop (i + 1)) = S) :
    VD (putk al i rs k) + D * H32 ^ i * VD ((ql.set i Q).drop i) = S := by
  have hil : i < ql.length := (List.getElem?_eq_some_iff.1 hq).1
  rw [(putk_val hk hi hz).2, VD_drop (ql.set i Q) i Q (by rw [List.getElem?_set_self hil]), drop_set, ← hv, VD_cut al i (by omega), ← hr, Nat.pow_succ]
  generalize VD (al.take i) = a
  generalize VD rs = r
  generalize VD (ql.drop (i + 1)) = u
  generalize H32 ^ i = p
  generalize H32 = b
  clear hq hr hv hz hi hil
  grind
/-- the remainder, divided by the scale again -/
theorem dv_end {va vd vq wd sc D S dn rest : Nat} (hD : D = wd * sc) (hS : S = va * sc) (h1 : vd + D * vq = S) (h2 : vd < D) (h3 : dn * sc + rest = vd) (h4 : rest < sc) : vq * wd + dn = va ∧ dn < wd := by
  subst hD hS
  have e1 : rest + (vq * wd + dn) * sc = 0 + va * sc := by rw [← h1, ← h3]; grind
  have hs : 0 < sc := by omega
  obtain ⟨e2, e3⟩ : rest = 0 ∧ vq * wd + dn = va := by
    have hm : rest = 0 := by
      have := congrArg (· % sc) e1
      simpa [Nat.mod_eq_of_lt h4] using this
    subst hm
    exact ⟨rfl, Nat.eq_of_mul_eq_mul_right hs (by omega)⟩
  refine ⟨e3, ?_⟩
  have : dn * sc < wd * sc := by omega
  exact Nat.lt_of_mul_lt_mul_right this
/-- so many digits has a number -/
theorem dv_digits {bs : List Nat} {D k : Nat} (hd : Dg bs) (hk : k ≤ bs.length) (hv : VD (bs.take k) = D) (hn : ∀ m, k = m + 1 → dig bs m ≠ 0) : D < H32 ^ k ∧ ∀ m, k = m + 1 → H32 ^ m ≤ D := by
  constructor
  · rw [← hv]
    have := VD_lt _ (Dg_take hd k)
    rwa [List.length_take, Nat.min_eq_left hk] at this
  · rintro m rfl
    have hg := List.getElem?_eq_getElem (show m < bs.length by omega)
    have h1 := hn m rfl
    rw [dig_get hg] at h1
    have h2 := VD_cut (bs.take (m + 1)) m (by rw [List.length_take]; omega)
    have h3 : (bs.take (m + 1)).drop m = [bs[m]] := by
      rw [List.take_succ_eq_append_getElem (show m < bs.length by omega), List.drop_append_of_le_length (by rw [List.length_take]; omega), List.drop_of_length_le (by rw [List.length_take]; omega)]
      rfl
    rw [h3, hv] at h2
    have h4 : VD [bs[m]] = bs[m] := by simp [VD]
    rw [h4] at h2
    have h5 := Nat.mul_le_mul_left (H32 ^ m) (show 1 ≤ bs[m] by omega)
    omega
theorem dv_len {D k m : Nat} (h1 : D < H32 ^ k) (h2 : ∀ j, k = j + 1 → H32 ^ j ≤ D) (h3 : H32 ^ m ≤ D) (h4 : D < H32 ^ (m + 1)) : k = m + 1 := by
  have hH : 1 < H32 := by decide
  have a1 : m < k := (Nat.pow_lt_pow_iff_right hH).1 (Nat.lt_of_le_of_lt h3 h1)
  obtain ⟨j, rfl⟩ : ∃ j, k = j + 1 := ⟨k - 1, by omega⟩
  have a2 : j < m + 1 := (Nat.pow_lt_pow_iff_right hH).1 (Nat.lt_of_le_of_lt (h2 j rfl) h4)
  omega
theorem dv_start {ws : List Nat} {M K m D : Nat} (hl : ws.length + 1 = M) (hd : Dg ws) (h1 : H32 ^ m ≤ D) (hK : M ≤ K + m + 1) : VD ((ws ++ [0]).drop K) < D ∧ VD (ws ++ [0]) = VD ws := by
  have e : VD [0] = 0 := rfl
  constructor
  · rcases Nat.lt_or_ge ws.length K with h | h
    · rw [VD_drop_all _ K (by simp; omega)]
      exact Nat.lt_of_lt_of_le (Nat.pow_pos (by decide)) h1
    · rw [List.drop_append_of_le_length (by omega), VD_append]
      have h2 := VD_lt _ (Dg_drop hd K)
      rw [List.length_drop] at h2
      rw [e, Nat.mul_zero]
      exact Nat.lt_of_lt_of_le h2 (Nat.le_trans (Nat.pow_le_pow_right (by decide) (by omega)) h1)
  · rw [VD_append, e, Nat.mul_zero, Nat.add_zero]
/-- whether the estimate fits -/
theorem dv_fits {T D gs v bo P : Nat} (hD : 0 < D) (h : v + D * gs = T + bo * P) (hv : v < P) (hb : bo ≤ 1) (hQ : T / D ≤ gs) : (bo = 0 → gs = T / D ∧ v + D * (T / D) = T ∧ v < D) ∧ (bo = 1 → T / D < gs) := by
  refine ⟨fun h0 => ?_, fun h1 => ?_⟩
  · subst h0
    have h2 : gs ≤ T / D := by rw [Nat.le_div_iff_mul_le hD, Nat.mul_comm]; omega
    have h3 : gs = T / D := by omega
    rw [← h3]
    refine ⟨rfl, by omega, ?_⟩
    have h4 : T < D * (T / D + 1) := Nat.lt_mul_div_succ T hD
    rw [← h3, Nat.mul_add, Nat.mul_one] at h4
    omega
  · subst h1
    rw [Nat.div_lt_iff_lt_mul hD, Nat.mul_comm]
    omega
end Go.Proofs.YthpgdpkemnhneaaDoor

namespace Go.Proofs.YthpgdpkemnhneaaDoor
open Go.RowKit
set_option linter.unusedVariables false
set_option linter.unusedSimpArgs false

theorem uvs_set (xs : List Nat) (j x : Nat) : uvs (xs.set j x) = (uvs xs).set j (.int .u64 (x : Int)) := by simp [uvs, List.map_set]
theorem Sl.farD {W : World} {g n c : Nat} {xs : List Nat} (h : Sl W (some ⟨g, 0, none⟩) n c xs) {p : Addr} (hp : g ≠ p.block) (u : Value) : Sl (W.setCell p u) (some ⟨g, 0, none⟩) n c xs := by
  refine ⟨h.1, h.2.1, h.2.2.1, h.2.2.2.1, fun hne => ?_⟩
  obtain ⟨b, o, e, hb, hc⟩ := h.2.2.2.2 hne
  injection e with e
  injection e with e1 e2
  subst e1
  subst e2
  exact ⟨g, 0, rfl, by simpa [World.setCell] using hb, fun j v hv => (World.cell?_setCell_other _ _ _ _ (fun e => hp (by rw [e]))).trans (hc j v hv)⟩
/-- What is known: a in block g1 (written), b in g2 (read), q in g3 (written). -/
def DJ (w : World) (g1 c1 g2 c2 g3 M K n : Nat) (bs al ql : List Nat) (W : World) : Prop :=
  (w.heap.size ≤ g1 ∧ g1 < g2 ∧ g2 < g3) ∧ (W.ownsRow w.heap.size 43 1 (.slice (some ⟨g1, 0, none⟩) M c1) M (uvs al) ∧ al.length = M ∧ Dg al) ∧ (Sl W (some ⟨g2, 0, none⟩) n c2 bs ∧ Dg bs) ∧ (RowAt W g3 ql ∧ ql.length = K ∧ Dg ql) ∧ Below w.heap.size w W
section
variable {w W W' : World} {g1 c1 g2 c2 g3 M K n : Nat} {bs al ql : List Nat}
theorem DJ.below (h : DJ w g1 c1 g2 c2 g3 M K n bs al ql W) (hb : Below W.heap.size W W') : DJ w g1 c1 g2 c2 g3 M K n bs al ql W' := by
  obtain ⟨h1, h2, h3, h4, h5⟩ := h
  exact ⟨h1, ⟨own_below h2.1 hb (Nat.le_refl _), h2.2⟩, ⟨h3.1.below hb, h3.2⟩, ⟨(hb.block g3 h4.1.lt).trans h4.1, h4.2⟩, h5.trans (hb.mono h5.size)⟩
theorem DJ.drewN (h : DJ w g1 c1 g2 c2 g3 M K n bs al ql W) (m : Nat) : DJ w g1 c1 g2 c2 g3 M K n bs al ql (W.drewN m) := by
  obtain ⟨h1, h2, h3, h4, h5⟩ := h
  exact ⟨h1, ⟨own_drewN h2.1 m, h2.2⟩, h3, h4, below_drewN h5 m⟩
theorem DJ.cellA (h : DJ w g1 c1 g2 c2 g3 M K n bs al ql W) {j x : Nat} (hx : al[j]? = some x) : W.cell? ⟨g1, j, none⟩ = some (.int .u64 (x : Int)) ∧ W.frozen? ⟨g1, j, none⟩ = false := by
  have hj : j < al.length := (List.getElem?_eq_some_iff.1 hx).1
  exact ⟨(World.ownsRow.cellAt h.2.1.1 j (by have := h.2.1.2.1; omega)).trans (uvs_get hx), World.ownsRow.frozenAt h.2.1.1 j⟩
theorem DJ.cellB (h : DJ w g1 c1 g2 c2 g3 M K n bs al ql W) {j x : Nat} (hx : bs[j]? = some x) : W.cell? ⟨g2, j, none⟩ = some (.int .u64 (x : Int)) := by
  obtain ⟨b, o, e, _, hc⟩ := h.2.2.1.1.2.2.2.2.at (uvs_get hx)
  injection e with e
  injection e with e1 e2
  subst e1
  rw [← e2, Nat.zero_add] at hc
  exact hc
theorem DJ.cellQ (h : DJ w g1 c1 g2 c2 g3 M K n bs al ql W) {j x : Nat} (hx : ql[j]? = some x) : W.cell? ⟨g3, j, none⟩ = some (.int .u64 (x : Int)) ∧ W.frozen? ⟨g3, j, none⟩ = false :=
  ⟨h.2.2.2.1.1.cell hx, h.2.2.2.1.1.frozen j⟩
theorem DJ.setA (h : DJ w g1 c1 g2 c2 g3 M K n bs al ql W) {j x : Nat} (hx : x < H32) : DJ w g1 c1 g2 c2 g3 M K n bs (al.set j x) ql (W.setCell ⟨g1, j, none⟩ (.int .u64 (x : Int))) := by
  obtain ⟨h1, h2, h3, h4, h5⟩ := h
  refine ⟨h1, ⟨?_, by rw [List.length_set]; exact h2.2.1, Dg_set h2.2.2 j x hx⟩, ⟨h3.1.farD (p := ⟨g1, j, none⟩) (by show g2 ≠ g1; omega) _, h3.2⟩, ⟨h4.1.far (p := ⟨g1, j, none⟩) (by show g3 ≠ g1; omega) _, h4.2⟩, h5.setCell (p := ⟨g1, j, none⟩) h1.1 _⟩
  rw [uvs_set]
  exact (World.ownsRow.stored h2.1 j _).1
theorem DJ.setQ (h : DJ w g1 c1 g2 c2 g3 M K n bs al ql W) {j x : Nat} (hx : x < H32) : DJ w g1 c1 g2 c2 g3 M K n bs al (ql.set j x) (W.setCell ⟨g3, j, none⟩ (.int .u64 (x : Int))) := by
  obtain ⟨h1, h2, h3, h4, h5⟩ := h
  refine ⟨h1, ⟨World.ownsRow.kept h2.1 (grown_set W g3 j _) (.inr ?_), h2.2⟩, ⟨h3.1.farD (p := ⟨g3, j, none⟩) (by show g2 ≠ g3; omega) _, h3.2⟩, ⟨h4.1.set j x, by rw [List.length_set]; exact h4.2.1, Dg_set h4.2.2 j x hx⟩, h5.setCell (p := ⟨g3, j, none⟩) (by show w.heap.size ≤ g3; omega) _⟩
  show some g1 ≠ some g3
  intro e
  injection e with e
  omega
/-- a[i : i + k] -/
theorem DJ.part (h : DJ w g1 c1 g2 c2 g3 M K n bs al ql W) {i k : Nat} (hi : i + k ≤ M) : i + k ≤ c1 ∧ (0 < k → Sl W (some ⟨g1, i, none⟩) k (c1 - i) ((al.drop i).take k)) ∧ Dg ((al.drop i).take k) := by
  obtain ⟨_, _, e, hc1, hc2, _, hr⟩ := own_form h.2.1.1
  injection e with e1 e2 e3
  subst e1
  subst e3
  have hl := h.2.1.2.1
  refine ⟨by omega, fun hk => ⟨by simp; omega, by omega, by unfold maxLen at hc2; omega, Ws_take (fun x hx => h.2.1.2.2.ws x (List.mem_of_mem_drop hx)) k, ?_⟩, Dg_take (Dg_drop h.2.1.2.2 i) k⟩
  have h1 := (hr.drop (k := i) (cap := c1) (by rw [uvs_length]; omega)).take k
  rw [if_neg (by omega)] at h1
  have e4 : (some ({ block := g1, off := 0, spot := none } : Addr)).map (·.add i) = some ⟨g1, i, none⟩ := by simp [Addr.add_lit]
  rw [e4] at h1
  have e5 : uvs ((al.drop i).take k) = ((uvs al).drop i).take k := by simp [uvs]
  rw [e5]
  exact h1
end
theorem RowAt.slD {W : World} {g n : Nat} {zs : List Nat} (h : RowAt W g zs) (hl : zs.length = n) (hw : Ws zs) (hn : n ≤ 1000000) : Sl W (some ⟨g, 0, none⟩) n n zs :=
  ⟨hl, Nat.le_refl _, by omega, hw, fun _ => ⟨g, 0, rfl, h.lt, fun j u hu => by
    rw [Nat.zero_add, cell_of_row W g j _ _ _ h]
    simpa using hu⟩⟩
theorem RowAt.nw {w W : World} {g n : Nat} {zs : List Nat} (h : RowAt W g zs) (hg : w.heap.size ≤ g) (hl : zs.length = n) (hw : Ws zs) (hn : n ≤ 1000000) : Nw w W (.slice (some ⟨g, 0, none⟩) n n) n zs := by
  subst hl
  exact ⟨rfl, hw, by rw [uvs_length, Nat.mul_one], .inr ⟨g, zs.length, (uvs zs).toArray, rfl, hg, h, Nat.le_refl _, by unfold maxLen; omega, by simp [uvs_length], by rw [Nat.mul_one]; exact List.take_of_length_le (by simp [uvs_length])⟩⟩
end Go.Proofs.YthpgdpkemnhneaaDoor

namespace Go.Proofs.YthpgdpkemnhneaaDoor
open Go.RowKit
set_option linter.unusedVariables false
set_option linter.unusedSimpArgs false

theorem scale_forms {b1 sc : Nat} (h : b1 * sc < H32) : ∃ m : Nat, m = b1 * sc ∧ (b1 : Int) * sc = m ∧ IntKind.u64.wrap ((b1 : Int) * sc) = m ∧ IntKind.u64.wrap (m : Int) = m := by
  have hH : H32 = 4294967296 := rfl
  refine ⟨b1 * sc, rfl, by simp, ?_, ?_⟩
  · rw [show (b1 : Int) * sc = ((b1 * sc : Nat) : Int) by simp, IntKind.wrap_u64]; omega
  · rw [IntKind.wrap_u64]; omega

/-- what Divide answers -/
def DvR (w w' : World) (v : Value) (A' : Option Addr) (n' c' K : Nat) (qs rs : List Nat) (x d Z : Nat) : Prop :=
  n' ≤ Z ∧ K ≤ Z ∧ Nw w w' v K qs ∧ Dg qs ∧ Sl w' A' n' c' rs ∧ Dg rs ∧ VD qs * d + VD rs = x ∧ VD rs < d ∧ Below w.heap.size w w'
theorem VD_take_at {bs0 bs : List Nat} {m n b : Nat} (hm : m < n) (h : bs0.take n = bs) (hg : bs[m]? = some b) : b = dig bs0 m := by
  rw [← h, List.getElem?_take, if_pos hm] at hg
  rw [dig_get hg]
set_option maxRecDepth 100000 in
set_option maxHeartbeats 8000000 in
theorem Divide_many (Aa Ab : Option Addr) (N nb ca cb : Nat) (xs bs0 : List Nat) (w : World) (hN2 : N ≤ 50000) (hnb : nb ≤ 50000) (hx : Sl w Aa N ca xs) (dx : Dg xs) (hb : Sl w Ab nb cb bs0) (db : Dg bs0) (hw : H32 ≤ VD bs0) :
    Calls Tryd.prog 122 #[.slice Aa N ca, .slice Ab nb cb] w fun e w' => ∃ v A' n' c' rs qs K, e = .returned (.tuple #[v, .slice A' n' c']) ∧ DvR w w' v A' n' c' K qs rs (VD xs) (VD bs0) (N + 2) := by
  obtain ⟨i0, hi, hz0, hz1, hz2⟩ := info_parts Tryd.info43
  have Hx := Lib.hid (And.intro hx (And.intro dx (And.intro hb (And.intro db hw))))
  clear hx dx hb db hw
  go_enter Tryd.func122, Tryd.ntmps122
  go_wp2_with (fail)
  refine (Short_ok _ nb _ bs0 _ (by omega) Hx.out.2.2.1 Hx.out.2.2.2.1).mono ?_
  rintro e w' ⟨n, rfl, hk, rfl⟩
  obtain ⟨bs, hbs⟩ : ∃ bs, bs0.take n = bs := ⟨_, rfl⟩
  have hbl : bs.length = n := by rw [← hbs, List.length_take, Hx.out.2.2.1.1]; exact Nat.min_eq_left hk.out.1
  have hdg := dv_digits Hx.out.2.2.2.1 (by rw [Hx.out.2.2.1.1]; exact hk.out.1) (D := VD bs0) hk.out.2.1 hk.out.2.2
  have hn2 : 2 ≤ n := by
    rcases Nat.lt_or_ge n 2 with h | h
    · exfalso
      have h1 := hdg.1
      have h2 : H32 ^ n ≤ H32 ^ 1 := Nat.pow_le_pow_right (by decide) (by omega)
      have := Hx.out.2.2.2.2
      rw [Nat.pow_one] at h2
      omega
    · exact h
  obtain ⟨m, hm⟩ : ∃ m, n = m + 1 := ⟨n - 1, by omega⟩
  have hbd : Dg bs := by rw [← hbs]; exact Dg_take Hx.out.2.2.2.1 n
  have hbv : VD bs = VD bs0 := by rw [← hbs]; exact hk.out.2.1
  have hbsl : Sl w Ab n cb bs := by rw [← hbs]; exact Hx.out.2.2.1.tk hk.out.1
  have hgm := List.getElem?_eq_getElem (show m < bs.length by omega)
  obtain ⟨b1, hb1⟩ : ∃ b1, bs[m]'(by omega) = b1 := ⟨_, rfl⟩
  rw [hb1] at hgm
  obtain ⟨low, hlow, hwd⟩ := dv_top (by omega) hbd hgm
  have hb1H := hbd b1 (List.mem_of_getElem? hgm)
  have hb2 : 0 < b1 := by
    have h1 := hk.out.2.2 m hm
    rw [← VD_take_at (by omega : m < n) hbs hgm] at h1
    omega
  obtain ⟨bb, ob, rfl, hbb, hcb⟩ := hbsl.2.2.2.2.at (uvs_get hgm)
  have hnm : (n : Int) - 1 = (m : Int) := by omega
  have hmw : IntKind.i64.wrap (m : Int) = (m : Int) := IntWalk.i64_in _ (by have := hk.out.1; omega)
  have hmn : (m : Int) < (n : Int) := by omega
  have hn1 : ((n : Int) == 1) = false := by simp; omega
  have hn5 : n ≤ 50000 := by have := hk.out.1; omega
  have Hb := Lib.hid (And.intro hbsl (And.intro hbd (And.intro hbv (And.intro hlow (And.intro hwd (And.intro hm hb1H))))))
  clear hk hbs hbl hdg hgm hb1 hlow hwd hbd hbv hbsl hm hb1H hbb
  have hcb1 := hcb
  go_wp2_with (fail)
  go_loop [6] (fun sv => ∃ sc : Nat, sv = .int .u64 sc ∧ 0 < sc ∧ sc < H32 ∧ Hid (b1 * sc < H32 ∧ ∃ f, sc * 2 ^ f = H32)) (fun sv => H32 - (intOf sv).toNat)
  case atStart => exact ⟨1, rfl, by omega, by decide, by rw [Nat.mul_one]; exact Hb.out.2.2.2.2.2.2, 32, by decide⟩
  case round =>
    obtain ⟨sc, rfl, hsc0, hscH, hS⟩ := hrel
    obtain ⟨ms, hms, s1, s2, s3⟩ := scale_forms hS.out.1
    by_cases hlt : ms < 2147483648
    · have hlt' : (ms : Int) < 2147483648 := by omega
      have hsb : (sc : Int) < 4294967296 := by have hH : H32 = 4294967296 := rfl; omega
      have hn : Hid (b1 * (2 * sc) < H32 ∧ ∃ f, (2 * sc) * 2 ^ f = H32) ∧ 2 * sc < H32 := by
        have hH : H32 = 4294967296 := rfl
        have e : b1 * (2 * sc) = 2 * (b1 * sc) := by grind
        have e2 : 1 * sc ≤ b1 * sc := Nat.mul_le_mul_right _ hb2
        refine ⟨⟨by rw [e, ← hms, hH]; omega, ?_⟩, by rw [hH]; omega⟩
        obtain ⟨f, hf⟩ := hS.out.2
        rcases Nat.eq_zero_or_pos f with h0 | h0
        · subst h0; omega
        · obtain ⟨f', rfl⟩ : ∃ f', f = f' + 1 := ⟨f - 1, by omega⟩
          exact ⟨f', by rw [← hf, Nat.pow_succ]; grind⟩
      obtain ⟨hn1, hn2⟩ := hn
      clear hS hms hlt
      go_wp2
      go_round
      case rel => exact ⟨2 * sc, by go_num, by omega, hn2, hn1⟩
      case measure => simp [intOf]; omega
    · have hlt' : ¬ (ms : Int) < 2147483648 := by omega
      have HM := Lib.hid (And.intro hms hlt)
      clear hms hlt
      have hscB : sc < B64 := Nat.lt_trans hscH (by decide)
      go_wp2_with (fail)
      refine (Times_ok _ _ _ _ _ _ xs [sc] _ (by omega) (by omega) (Hx.out.1.below (W1_below w sc)) (Sl_one w sc hscB) Hx.out.2.1 (fun z hz => by rw [List.mem_singleton] at hz; rw [hz]; exact hscH)).mono ?_
      rintro e w2 ⟨v2, as2, rfl, hnw2, hd2, hv2, hb2'⟩
      have hv2' : VD as2 = VD xs * sc := by rw [hv2]; simp [VD]
      have hown2 := own_base (base' := w.heap.size) hnw2.2.2 (by simp)
      have hbw2 : Below w.heap.size w w2 := (W1_below w sc).trans (hb2'.mono (by simp))
      have hsz2 := hbw2.size
      have H2 := Lib.hid (And.intro hv2' (And.intro hd2 (And.intro hnw2.1 hbw2)))
      clear hnw2 hd2 hv2 hv2' hb2' hbw2
      go_wp2_with (at_builtin; refine wpList_append_rd _ rfl (.tmp 47) (.tmp 48) 22 rfl w.heap.size 43 i0 (.int .u64 0) Tryd.underlying22 hi hz0 hz1 hz2 rfl v2 (N + 1) _ rfl (hown2.alloc _) _ (some ⟨w2.heap.size, 0, none⟩) 1 1 [.int .u64 0] rfl rfl (Rd.one _ _ _) (by simp [Value.oneCell']) (by omega) (by simp; omega) ?_)
      intro v3 w3 hown3 hgrow hblk
      obtain ⟨M, hM⟩ : ∃ M, N + 1 + 1 = M := ⟨_, rfl⟩
      obtain ⟨K, hK⟩ : ∃ K, M - n = K := ⟨_, rfl⟩
      rw [hM] at hown3
      obtain ⟨g1, c1, rfl, hg1, hg1'⟩ := World.ownsRow.form hown3 (by omega)
      have hown3' : w3.ownsRow w.heap.size 43 1 (.slice (some ⟨g1, 0, none⟩) M c1) M (uvs (as2 ++ [0])) := by rw [uvs_append]; exact hown3
      have H3 := Lib.hid (And.intro hown3' (And.intro hg1 (And.intro hg1' (And.intro hM (below_app0 H2.out.2.2.2 hown2 hgrow)))))
      obtain ⟨Kd, hM1⟩ : ∃ Kd : Int, (M : Int) - (n : Int) = Kd := ⟨_, rfl⟩
      have hM2 : max (0 : Int) Kd = (K : Int) := by omega
      have hMw : IntKind.i64.wrap Kd = Kd := IntWalk.i64_in _ (by omega)
      have hMw1 : IntKind.i64.wrap (Kd - 1) = Kd - 1 := IntWalk.i64_in _ (by omega)
      have hKN : K ≤ 50002 := by omega
      have hKM : M ≤ K + n := by omega
      have hKd : (Kd = K ∧ 0 < K) ∨ (Kd < 0 ∧ K = 0) ∨ (Kd = 0 ∧ K = 0) := by omega
      have HKM := Lib.hid (And.intro hKM (And.intro hK hKd))
      have hM5 : M ≤ 50002 := by omega
      clear hown2 hown3 hown3' hgrow hblk hg1 hg1' hM hK hKM hM2
      go_wp2_with (fail)
      refine (Times_ok _ _ _ _ _ _ bs [sc] _ (by omega) (by omega) ((Hb.out.1.below H3.out.2.2.2.2).below (W1_below w3 sc)) (Sl_one w3 sc hscB) Hb.out.2.1 (fun z hz => by rw [List.mem_singleton] at hz; rw [hz]; exact hscH)).mono ?_
      rintro e w4 ⟨v4, bs2, rfl, hn4, hd4, hv4, hb4⟩
      obtain ⟨g2, c2, rfl, hg2, hg2'⟩ := World.ownsRow.form hn4.2.2 (by omega)
      obtain ⟨A4, c4, he4, hs4⟩ := hn4.sl
      injection he4 with he5 he6 he7
      subst he5
      subst he7
      go_wp2_with (fail)
      refine (Short_ok _ _ _ bs2 _ (by omega) hs4 hd4).mono ?_
      rintro e w5 ⟨k, rfl, hk, rfl⟩
      obtain ⟨D, hD⟩ : ∃ D, D = VD bs * sc := ⟨_, rfl⟩
      have hvD : VD bs2 = D := by rw [hv4, hD]; simp [VD]
      obtain ⟨hD1, hD2⟩ : H32 ^ m ≤ D ∧ D < H32 ^ m * H32 := by
        obtain ⟨h1, f, hf⟩ := hS.out
        rw [hD]
        exact dv_scale (Nat.pow_pos H32_pos) Hb.out.2.2.2.2.1 Hb.out.2.2.2.1 hb2 hf h1 hsc0
      rw [← Nat.pow_succ] at hD2
      have hkn : k = n := by
        obtain ⟨e1, e2⟩ := dv_digits hd4 (by rw [hn4.1]; exact hk.out.1) (D := D) (by rw [← hvD]; exact hk.out.2.1) hk.out.2.2
        rw [Hb.out.2.2.2.2.2.1]
        exact dv_len e1 e2 hD1 hD2
      subst hkn
      obtain ⟨cs2, hcs2⟩ : ∃ cs2, bs2.take k = cs2 := ⟨_, rfl⟩
      have hcl : cs2.length = k := by rw [← hcs2, List.length_take, hn4.1]; omega
      have hcd : Dg cs2 := by rw [← hcs2]; exact Dg_take hd4 k
      have hcv : VD cs2 = D := by rw [← hcs2, ← hvD]; exact hk.out.2.1
      have hmk := Hb.out.2.2.2.2.2.1
      have hgd := List.getElem?_eq_getElem (show m < cs2.length by omega)
      obtain ⟨d1, hd1e⟩ : ∃ d1, cs2[m]'(by omega) = d1 := ⟨_, rfl⟩
      rw [hd1e] at hgd
      obtain ⟨dl, hdl, hDd⟩ := dv_top (by omega) hcd hgd
      rw [hcv] at hDd
      have hd1 : d1 < H32 := hcd d1 (List.mem_of_getElem? hgd)
      have hd1p : 0 < d1 := by
        rcases Nat.eq_zero_or_pos d1 with h | h
        · rw [h, Nat.mul_zero] at hDd; omega
        · exact h
      have hs4' : Sl w4 (some ⟨g2, 0, none⟩) k c2 cs2 := by rw [← hcs2]; exact hs4.take_ (by omega)
      have hb34 : Below w.heap.size w w4 := (H3.out.2.2.2.2.alloc H3.out.2.2.2.2.size _).trans (hb4.mono (by have := H3.out.2.2.2.2.size; simp; omega))
      have hb34' : Below w3.heap.size w3 w4 := (W1_below w3 sc).trans (hb4.mono (by simp))
      have H4 := Lib.hid (And.intro hs4' (And.intro hg2 (And.intro hg2' (And.intro hb34 hb34'))))
      have hszw := hb34.size
      have HD := Lib.hid (And.intro hD (And.intro hD1 (And.intro hD2 (And.intro hcd (And.intro hd1 (And.intro hd1p (And.intro hDd (And.intro hdl (And.intro hgd (And.intro hcv (And.intro hcl hmk)))))))))))
      clear hk hn4 hd4 hv4 hb4 hs4 hs4' hg2 hg2' hb34 hb34' hvD hD hD1 hD2 hcs2 hd1 hd1e hd1p hDd hdl hgd hcl hcd hcv hmk
      rcases hKd with ⟨hKe, hKp⟩ | ⟨hKe, hK0⟩ | ⟨hKe, hK0⟩
      · subst hKe
        have hKpi : (0 : Int) < (K : Int) := by omega
        have hM2 : max (0 : Int) (K : Int) = (K : Int) := by omega
        go_wp2_with (at_make; refine wpList_make_full _ rfl _ _ 22 rfl w.heap.size 43 i0 (.int .u64 0) 1 Tryd.underlying22 hi hz0 hz1 .i64 .i64 _ _ K rfl rfl rfl rfl (by rw [hz2]; omega) (by unfold maxLen; omega) (by omega) ?_)
        intro w5 hown5 hgrow5
        have hb5 : Below w4.heap.size w4 w5 := below_of_grown hgrow5 (Nat.le_refl _)
        have hrow5 := RowAt_zeros (by simpa using hown5)
        have HT : Hid (DJ w g1 c1 g2 c2 w4.heap.size M K k cs2 (as2 ++ [0]) (List.replicate K 0) w5 ∧ VD ((as2 ++ [0]).drop K) < D ∧ VD (as2 ++ [0]) + D * H32 ^ K * VD ((List.replicate K 0).drop K) = VD xs * sc) := by
          obtain ⟨f1, f2, f3, f4, f5⟩ := H3.out
          obtain ⟨t1, t2, t3, t4, t5⟩ := H4.out
          obtain ⟨u1, u2, u3, u4⟩ := H2.out
          obtain ⟨q1, q2, q3, q4, q5, q6, q7⟩ := HD.out
          have hst := dv_start (M := M) (K := K) (m := m) (D := D) (by rw [u3]; exact f4) u2 q2 (by have := HKM.out.1; have := Hb.out.2.2.2.2.2.1; omega)
          have hg12 : g1 < g2 := by have : (w3.alloc (.cells #[.int .u64 (sc : Int)] 43)).heap.size ≤ g2 := t2; simp at this; omega
          refine ⟨⟨⟨f2, hg12, t3⟩, ⟨?_, by simp [u3]; exact f4, Dg_append u2 (fun z hz => by rw [List.mem_singleton] at hz; rw [hz]; exact H32_pos)⟩, ⟨t1.below hb5, q4⟩, ⟨hrow5, by simp, Dg_zeros' K⟩, t4.trans (hb5.mono t4.size)⟩, hst.1, ?_⟩
          · exact own_below (own_below f1 t5 (Nat.le_refl _)) hb5 (Nat.le_refl _)
          · rw [hst.2, u1, VD_drop_all _ K (by simp), Nat.mul_zero, Nat.add_zero]
        clear hown5 hgrow5 hb5 hrow5 H4
        generalize w4.heap.size = g3 at *
        go_wp2_with (fail)
        go_loopw [9] (fun iv wr => ∃ (j : Int) (z : Nat) (al ql : List Nat), z ≤ K ∧ iv = .int .i64 j ∧ (j + 1 = z ∨ j < 0 ∧ z = 0) ∧ Hid (DJ w g1 c1 g2 c2 g3 M K k cs2 al ql wr ∧ VD (al.drop z) < D ∧ VD al + D * H32 ^ z * VD (ql.drop z) = VD xs * sc)) (fun iv _ => (intOf iv + 1).toNat)
        case atStart => exact ⟨(K : Int) - 1, K, _, _, by omega, rfl, by have := HKM.out.2.2; omega, HT.out⟩
        case round =>
          clear HT
          obtain ⟨j, z, al, ql, hkN, rfl, hj, hI⟩ := hrel
          by_cases hlt : 0 < z
          · obtain ⟨i, rfl⟩ : ∃ i, z = i + 1 := ⟨z - 1, by omega⟩
            obtain rfl : j = (i : Int) := by omega
            clear hj
            have hiM : i + m + 2 ≤ M := by have := HKM.out.2.1; have := Hb.out.2.2.2.2.2.1; omega
            obtain ⟨hz3, htk, hTD, y1, y2, tl, x1, x2, hy1, hy2, htl, hT⟩ := dv_part hI.out.1.2.1.2.1 hiM hI.out.1.2.1.2.2 hI.out.2.1 HD.out.2.2.1
            obtain ⟨p2, hp2, hp2'⟩ : ∃ p2 : Nat, (i : Int) + (k : Int) = (p2 : Int) ∧ p2 = i + m + 1 := ⟨i + m + 1, by have := Hb.out.2.2.2.2.2.1; omega, rfl⟩
            obtain ⟨p1, hp1, hp1'⟩ : ∃ p1 : Nat, (p2 : Int) - 1 = (p1 : Int) ∧ p1 = i + m := ⟨i + m, by omega, rfl⟩
            have ca2 := (hI.out.1.cellA x2).1
            have ca1 := (hI.out.1.cellA x1).1
            have cb1 := hI.out.1.cellB HD.out.2.2.2.2.2.2.2.2.1
            rw [← hp2'] at ca2
            rw [← hp1'] at ca1
            have hM3 := H3.out.2.2.2.1
            have hp2M : (p2 : Int) < (M : Int) := by omega
            have hp1M : (p1 : Int) < (M : Int) := by omega
            have w2' : IntKind.i64.wrap (p2 : Int) = (p2 : Int) := IntWalk.i64_in _ (by omega)
            have w1' : IntKind.i64.wrap (p1 : Int) = (p1 : Int) := IntWalk.i64_in _ (by omega)
            obtain ⟨tm, t, ht, htB, s4, s5, s6, s7, s8, s9, j1, j2, j3, j4⟩ := small_sum (d := H32) hy2 hy1 (Nat.le_refl _)
            have hQ1 : VD (al.drop i) / D < H32 := Nat.div_lt_of_lt_mul hTD
            have hQ2 := dv_est (T := VD (al.drop i)) (d := d1) (top := t) HD.out.2.2.2.2.2.2.1 HD.out.2.2.2.2.2.1 (by rw [ht]; exact hT) htl
            obtain ⟨qq, hqq⟩ : ∃ qq, t / d1 = qq := ⟨_, rfl⟩
            have v1 : (t : Int) / (d1 : Int) = (qq : Int) := by rw [← hqq]; simp
            have v2 : (t : Int).tdiv (d1 : Int) = (qq : Int) := by rw [Int.tdiv_eq_ediv_of_nonneg (by omega)]; exact v1
            have v3 : ((d1 : Int) == 0) = false := by have := HD.out.2.2.2.2.2.1; simp; omega
            have v4 : IntKind.u64.wrap (qq : Int) = (qq : Int) := by
              have hB : B64 = 18446744073709551616 := rfl
              have : qq ≤ t := by rw [← hqq]; exact Nat.div_le_self _ _
              rw [IntKind.wrap_u64]; omega
            obtain ⟨gs0, v5, v6⟩ : ∃ gs0 : Nat, min (qq : Int) 4294967295 = (gs0 : Int) ∧ gs0 = min qq 4294967295 := ⟨min qq 4294967295, by omega, rfl⟩
            have HG : Hid (gs0 < H32 ∧ VD (al.drop i) / D ≤ gs0) := by
              have hH : H32 = 4294967296 := rfl
              exact ⟨by rw [hH]; omega, by rw [v6]; rw [hqq] at hQ2; omega⟩
            have hrsH := Lib.hid hQ1
            have HT := Lib.hid (And.intro hz3 (And.intro htk (And.intro hp2' (And.intro hp1' hiM))))
            have v7 : 0 < d1 := HD.out.2.2.2.2.2.1
            clear x1 x2 hy1 hy2 hT hTD htl hz3 htk hp2' hp1' hM3 ht htB hQ1 hQ2 hqq v6 j1 j2 j3 j4 hiM
            have hq5 : ((4294967295 : Int) < (qq : Int) ∧ gs0 = 4294967295) ∨ ((qq : Int) ≤ 4294967295 ∧ gs0 = qq) := by omega
            clear v5
            rcases hq5 with ⟨hq5, hg5⟩ | ⟨hq5, hg5⟩
            all_goals
              have HG5 := Lib.hid hg5
              clear hg5
              go_wp2_with (fail)
              go_quiet (fail)
              go_wp2_with (fail)
              have hJ : Hid (gs0 < H32 ∧ VD (al.drop i) / D ≤ gs0 ∧ DJ w g1 c1 g2 c2 g3 M K k cs2 al ql (wr.drewN nq)) := ⟨HG.out.1, HG.out.2, hI.out.1.drewN nq⟩
              have HI := Lib.hid hI.out.2
              have HLal := Lib.hid hI.out.1.2.1.2.1
              clear hI HG ca1 ca2 cb1
              generalize wr.drewN nq = wq at *
              go_loopw [11] (fun gv wi => ∃ gs : Nat, gv = .int .u64 gs ∧ Hid (gs < H32 ∧ VD (al.drop i) / D ≤ gs ∧ DJ w g1 c1 g2 c2 g3 M K k cs2 al ql wi)) (fun gv _ => (intOf gv).toNat)
              case atStart => exact ⟨gs0, by rw [HG5.out] <;> rfl, hJ⟩
              case round =>
                clear hJ
                obtain ⟨gs, rfl, hJ⟩ := hrel
                have hgB : gs < B64 := Nat.lt_trans hJ.out.1 (by decide)
                have dgs : Dg [gs] := fun z hz => by rw [List.mem_singleton] at hz; rw [hz]; exact hJ.out.1
                go_wp2_with (fail)
                refine (Times_ok _ _ _ _ _ _ cs2 [gs] _ (by omega) (by omega) (hJ.out.2.2.2.2.1.1.below (W1_below _ gs)) (Sl_one _ gs hgB) hJ.out.2.2.2.2.1.2 dgs).mono ?_
                rintro e w6 ⟨v6, ps, rfl, hn6, hd6, hv6, hb6⟩
                obtain ⟨A6, c6, rfl, hs6⟩ := hn6.sl
                have hvp : VD ps = D * gs := by rw [hv6, HD.out.2.2.2.2.2.2.2.2.2.1]; simp [VD]
                have H6 := Lib.hid (And.intro (hJ.out.2.2.below ((W1_below _ gs).trans (hb6.mono (by simp)))) (And.intro hs6 (And.intro hd6 hvp)))
                have HJ := Lib.hid (And.intro hJ.out.1 hJ.out.2.1)
                clear hn6 hs6 hd6 hv6 hb6 hvp hJ dgs hgB
                obtain ⟨k1, hk1⟩ : ∃ k1, k + 1 = k1 := ⟨_, rfl⟩
                have hk1m : k1 = m + 2 := by have := Hb.out.2.2.2.2.2.1; omega
                obtain ⟨hpc, hpart0, hpd⟩ := H6.out.1.part (i := i) (k := k1) (by have := HT.out.2.2.2.2; omega)
                have hpart := hpart0 (by omega)
                have hic : (i : Int) < (c1 : Int) := by omega
                have hp3 : (p2 : Int) + 1 = ((i + k1 : Nat) : Int) := by have := HT.out.2.2.1; omega
                obtain ⟨p3, hp3e⟩ : ∃ p3, i + k1 = p3 := ⟨_, rfl⟩
                rw [hp3e] at hp3
                have hp3w : IntKind.i64.wrap (p3 : Int) = (p3 : Int) := IntWalk.i64_in _ (by have := HT.out.2.2.2.2; omega)
                have hic3 : (p3 : Int) ≤ (c1 : Int) := by omega
                have hii3 : (i : Int) ≤ (p3 : Int) := by omega
                have hsub3 : p3 - i = k1 := by omega
                have hicn : ¬ c1 = i := by omega
                have HK1 := Lib.hid (And.intro hk1 (And.intro hk1m hp3e))
                clear hk1 hk1m hp3e hpart0 hpc
                have HP := Lib.hid (And.intro hpart hpd)
                clear hpart hpd
                go_wp2_with (fail)
                have hk15 : k1 ≤ 50001 := by have := HK1.out.1; omega
                refine (Minus_ok _ _ k1 (k + 1) _ _ ((al.drop i).take k1) ps _ (by omega) (by omega) HP.out.1 H6.out.2.1 HP.out.2 H6.out.2.2.1).mono ?_
                rintro e w7 ⟨v7, rs, bo, rfl, hbo, hn7, hd7, hv7, hb7⟩
                obtain ⟨g7, c7, rfl, hg7, hg7'⟩ := World.ownsRow.form hn7.2.2 (by omega)
                obtain ⟨A7, c7', he7, hs7⟩ := hn7.sl
                injection he7 with he8 he9 he10
                subst he8
                subst he10
                have hg17 : g1 < g7 := by
                  have h1 := H6.out.1.1
                  have h2 := H6.out.1.2.2.2.1.1.lt
                  omega
                have hfit := dv_fits (T := VD (al.drop i)) (D := D) (gs := gs) (v := VD rs) (bo := bo) (P := H32 ^ k1) (by have := HD.out.2.1; have : 0 < H32 ^ m := Nat.pow_pos H32_pos; omega) (by
                  rw [List.take_of_length_le (show ps.length ≤ k1 by rw [H6.out.2.1.1]; have := HK1.out.1; omega), H6.out.2.2.2, show VD ((al.drop i).take k1) = VD (al.drop i) by rw [HK1.out.2.1]; exact HT.out.2.1] at hv7
                  exact hv7) (by have := VD_lt rs hd7; rw [hs7.1] at this; exact this) hbo HJ.out.2
                have H7 := Lib.hid (And.intro (H6.out.1.below hb7) (And.intro hs7 hd7))
                have HF := Lib.hid hfit
                clear hn7 hd7 hv7 hb7 hs7 hg7 hg7' hfit hic3
                rcases Nat.lt_or_ge bo 1 with hb | hb
                · obtain rfl : bo = 0 := by omega
                  have htb : (((0 : Nat) : Int) == 1) = false := rfl
                  rw [htb]
                  have HQ := Lib.hid (HF.out.1 rfl)
                  clear HF htb hb hbo
                  go_wp2_with (fail)
                  have H7' : Hid (DJ w g1 c1 g2 c2 g3 M K k cs2 (putk al i rs 0) ql w7 ∧ Sl w7 (some ⟨g7, 0, none⟩) k1 c7 rs) := ⟨H7.out.1, H7.out.2.1⟩
                  have HR := Lib.hid (And.intro H7.out.2.2 H7.out.2.1.1)
                  clear H7 H6 HJ HP
                  go_loopw [15] (fun kv wi => ∃ k' : Nat, k' ≤ k1 ∧ kv = .int .i64 k' ∧ Hid (DJ w g1 c1 g2 c2 g3 M K k cs2 (putk al i rs k') ql wi ∧ Sl wi (some ⟨g7, 0, none⟩) k1 c7 rs)) (fun kv _ => k1 - (intOf kv).toNat)
                  case atStart => exact ⟨0, by omega, rfl, H7'⟩
                  case round =>
                    clear H7'
                    obtain ⟨k', hk', rfl, hK⟩ := hrel
                    by_cases hlt3 : k' < k1
                    · obtain ⟨pp, hpp, hpp'⟩ : ∃ pp : Nat, (i : Int) + (k' : Int) = (pp : Int) ∧ pp = i + k' := ⟨i + k', by omega, rfl⟩
                      have hM3 := H3.out.2.2.2.1
                      have hppM : (pp : Int) < (M : Int) := by have := HT.out.2.2.2.2; have := HK1.out.2.1; omega
                      have hppw : IntKind.i64.wrap (pp : Int) = (pp : Int) := IntWalk.i64_in _ (by omega)
                      have hl7 : k' < rs.length := by rw [HR.out.2]; exact hlt3
                      obtain ⟨x7, hx7⟩ : ∃ x7, rs[k']? = some x7 := ⟨_, List.getElem?_eq_getElem hl7⟩
                      have hx7H : x7 < H32 := HR.out.1 _ (List.mem_of_getElem? hx7)
                      have hdg : dig rs k' = x7 := dig_get hx7
                      obtain ⟨b7, o7, e7, _, hc7⟩ := hK.out.2.2.2.2.2.at (uvs_get hx7)
                      injection e7 with e7
                      injection e7 with e71 e72
                      subst e71
                      subst e72
                      rw [Nat.zero_add] at hc7
                      have hla : i + k' < (putk al i rs k').length := by rw [putk_len, HLal.out]; omega
                      obtain ⟨old, hold⟩ : ∃ old, (putk al i rs k')[i + k']? = some old := ⟨_, List.getElem?_eq_getElem hla⟩
                      have hca := hK.out.1.cellA hold
                      rw [← hpp'] at hca
                      obtain ⟨hca1, hca2⟩ := hca
                      clear hold
                      have HN : Hid (DJ w g1 c1 g2 c2 g3 M K k cs2 (putk al i rs (k' + 1)) ql (wr.setCell ⟨g1, pp, none⟩ (.int .u64 (x7 : Int))) ∧ Sl (wr.setCell ⟨g1, pp, none⟩ (.int .u64 (x7 : Int))) (some ⟨g7, 0, none⟩) k1 c7 rs) := by
                        refine ⟨?_, hK.out.2.farD (p := ⟨g1, pp, none⟩) (by show g7 ≠ g1; omega) _⟩
                        have := hK.out.1.setA (j := i + k') hx7H
                        rw [putk, hdg, hpp']
                        exact this
                      have hk3 : (k' : Int) ≤ (k : Int) := by have := HK1.out.1; omega
                      have hk31 : (k' : Int) < (k1 : Int) := by omega
                      clear hK hx7 hx7H hdg hl7 hla hpp' hM3
                      go_wp2
                      go_roundw
                      case rel => exact ⟨k' + 1, by omega, by go_num, HN⟩
                      case measure => simp [intOf]; omega
                    · have hk3 : k' = k1 := by omega
                      subst hk3
                      have hk3n : ¬ (k' : Int) ≤ (k : Int) := by have := HK1.out.1; omega
                      have hli : i < ql.length := by rw [hK.out.1.2.2.2.1.2.1]; omega
                      obtain ⟨oldq, holdq⟩ : ∃ oldq, ql[i]? = some oldq := ⟨_, List.getElem?_eq_getElem hli⟩
                      have hcq := hK.out.1.cellQ holdq
                      obtain ⟨hcq1, hcq2⟩ := hcq
                      have hgH : gs < H32 := by
                        have h1 := HQ.out.1
                        rw [h1]
                        refine Nat.lt_of_le_of_lt ?_ hrsH.out
                        exact Nat.le_refl _
                      have hin : (i : Int) < (K : Int) := by omega
                      have HN : Hid (DJ w g1 c1 g2 c2 g3 M K k cs2 (putk al i rs k') (ql.set i gs) (wr.setCell ⟨g3, i, none⟩ (.int .u64 (gs : Int))) ∧ VD ((putk al i rs k').drop i) < D ∧ VD (putk al i rs k') + D * H32 ^ i * VD ((ql.set i gs).drop i) = VD xs * sc) := by
                        refine ⟨hK.out.1.setQ hgH, ?_⟩
                        obtain ⟨q1, q2, q3⟩ := HQ.out
                        have hz : VD (al.drop (i + k')) = 0 := by rw [HK1.out.2.1]; exact HT.out.1
                        have hil : i + k' ≤ al.length := by rw [HLal.out]; have := HT.out.2.2.2.2; have := HK1.out.2.1; omega
                        refine ⟨by rw [(putk_val HR.out.2 hil hz).1]; exact q3, ?_⟩
                        exact dvD_step HR.out.2 hil hz holdq (by rw [q1]; exact q2) HI.out.2
                      clear holdq hK hli hgH HQ HR HT HI
                      go_wp2
                      go_roundw
                      case rel => exact ⟨(i : Int) - 1, i, putk al i rs k', ql.set i gs, by omega, rfl, by omega, HN⟩
                      case measure => simp [intOf]
                · obtain rfl : bo = 1 := by omega
                  have htb : (((1 : Nat) : Int) == 1) = true := rfl
                  rw [htb]
                  obtain ⟨gs', rfl⟩ : ∃ gs', gs = gs' + 1 := ⟨gs - 1, (Nat.succ_pred_eq_of_pos (Nat.lt_of_le_of_lt (Nat.zero_le _) (HF.out.2 rfl))).symm⟩
                  have hwg : IntKind.u64.wrap (gs' : Int) = (gs' : Int) := by
                    have hH : H32 = 4294967296 := rfl
                    have h1 := HJ.out.1
                    rw [IntKind.wrap_u64]; omega
                  have HN : Hid (gs' < H32 ∧ VD (al.drop i) / D ≤ gs' ∧ DJ w g1 c1 g2 c2 g3 M K k cs2 al ql w7) := ⟨by have := HJ.out.1; omega, Nat.le_of_lt_succ (HF.out.2 rfl), H7.out.1⟩
                  clear HF htb hb hbo H7 H6 HJ HP
                  go_wp2_with (fail)
                  go_roundw
                  case rel => exact ⟨gs', by first | rfl | go_num, HN⟩
                  case measure => simp [intOf]
          · have hz0 : z = 0 := by omega
            subst hz0
            have hneg : j < 0 := by omega
            have hM3 := H3.out.2.2.2.1
            have hsl : Sl wr (some ⟨g1, 0, none⟩) M c1 al := by
              obtain ⟨_, _, e, h1, h2, _, h4⟩ := own_form hI.out.1.2.1.1
              injection e with e1 e2 e3
              subst e1
              subst e3
              exact ⟨hI.out.1.2.1.2.1, h1, by unfold maxLen at h2; exact h2, hI.out.1.2.1.2.2.ws, h4⟩
            have HSL := Lib.hid (And.intro hsl hI.out.1.2.1.2.2)
            clear hsl hM3 hj
            go_wp2_with (fail)
            refine (Short_ok _ _ _ al _ (by omega) HSL.out.1 HSL.out.2).mono ?_
            rintro e w9 ⟨kr, rfl, hkr, rfl⟩
            have hkrM := hkr.out.1
            have hslr := HSL.out.1.take_ hkr.out.1
            have HR := Lib.hid (And.intro hslr (And.intro (Dg_take HSL.out.2 kr) hkr.out.2.1))
            clear hkr hslr HSL
            go_wp2_with (at_make; refine wpList_make_full _ rfl _ _ 22 rfl wr.heap.size 43 i0 (.int .u64 0) 1 Tryd.underlying22 hi hz0 hz1 .i64 .i64 _ _ kr rfl rfl rfl rfl (by rw [hz2]; omega) (by unfold maxLen; omega) (Nat.le_refl _) ?_)
            intro w10 hown10 hgrow10
            have hrow10 := RowAt_zeros (by simpa using hown10)
            have HO : Hid (OI wr wr.heap.size kr (al.take kr) sc kr 0 (List.replicate kr 0) w10) := ⟨Nat.le_refl _, hrow10, by simp, Dg_zeros' kr, hsc0, by rw [VD_drop_all (al.take kr) kr (by rw [HR.out.1.1]; exact Nat.le_refl _), VD_drop_all _ kr (by simp), Nat.zero_mul], below_of_grown hgrow10 (Nat.le_refl _)⟩
            have hg3r := hI.out.1.2.2.2.1.1.lt
            clear hown10 hgrow10 hrow10
            generalize hg5 : wr.heap.size = g5 at *
            have Hg5 := Lib.hid hg5
            clear hg5
            have hsc00 : ((sc : Int) == 0) = false := by simp; omega
            go_wp2_with (fail)
            go_loopw [18, 19] (fun rv iv wz => ∃ (rest : Nat) (j : Int) (k : Nat) (qs : List Nat), k ≤ kr ∧ iv = .int .i64 j ∧ j + 1 = k ∧ rv = .int .u64 rest ∧ Hid (OI wr g5 kr (al.take kr) sc k rest qs wz)) (fun _ iv _ => (intOf iv + 1).toNat)
            case atStart => exact ⟨0, (kr : Int) - 1, kr, _, by omega, rfl, by omega, rfl, HO.out⟩
            case round =>
              clear HO
              obtain ⟨rest, jj, kk, qs, hkk, rfl, hjj, rfl, hO⟩ := hrel
              by_cases hlt4 : 0 < kk
              · obtain ⟨i, rfl⟩ : ∃ i, kk = i + 1 := ⟨kk - 1, by omega⟩
                obtain rfl : jj = (i : Int) := by omega
                have hil : i < (al.take kr).length := by rw [HR.out.1.1]; omega
                obtain ⟨x, hg⟩ : ∃ x, (al.take kr)[i]? = some x := ⟨_, List.getElem?_eq_getElem hil⟩
                have hxH : x < H32 := HR.out.2.1 _ (List.mem_of_getElem? hg)
                obtain ⟨bx, ox, ex, hbx, hcx⟩ := HR.out.1.2.2.2.2.at (uvs_get hg)
                injection ex with ex
                injection ex with ex1 ex2
                subst ex1
                subst ex2
                rw [Nat.zero_add] at hcx
                have hOO := hO.out
                have hcx2 := (hOO.2.2.2.2.2.2.cell (p := ⟨g1, i, none⟩) hbx).trans hcx
                have hzl : i < qs.length := by rw [hOO.2.2.1]; omega
                obtain ⟨zi, hzi⟩ : ∃ zi, qs[i]? = some zi := ⟨_, List.getElem?_eq_getElem hzl⟩
                have hcz := hOO.2.1.cell hzi
                have hfz := hOO.2.1.frozen i
                obtain ⟨mm, tt, htt, httB, z1, z2, z3, z4, z5, z6, z7, z8, z9, z10⟩ := small_sum hOO.2.2.2.2.1 hxH (Nat.le_of_lt hscH)
                obtain ⟨hq, hst⟩ := hOO.step hg (by omega) hxH htt (Nat.le_of_lt hscH)
                obtain ⟨q, hqe⟩ : ∃ q, tt / sc = q := ⟨_, rfl⟩
                obtain ⟨r, hre⟩ : ∃ r, tt % sc = r := ⟨_, rfl⟩
                rw [hqe] at z7 z8 hst hq
                rw [hre] at z9 z10 hst
                have z11 : IntKind.u64.wrap (q : Int) = (q : Int) := by have hH' : H32 = 4294967296 := rfl; rw [IntKind.wrap_u64]; omega
                have HS2 := Lib.hid hst
                have hin : (i : Int) < kr := by omega
                have hin2 : (i : Int) < M := by omega
                have hin0 : (0 : Int) ≤ (i : Int) := by omega
                clear hst hg hO hOO hzl hcx hxH htt httB hq hqe hre hjj hzi hil hbx hI
                go_wp2
                go_roundw
                case rel => exact ⟨r, (i : Int) - 1, i, _, by omega, rfl, by omega, rfl, HS2⟩
                case measure => simp [intOf]
              · have hkk0 : kk = 0 := by omega
                subst hkk0
                have hneg2 : jj < 0 := by omega
                have HF : Hid (DvR w wr (.slice (some ⟨g3, 0, none⟩) K K) (some ⟨g5, 0, none⟩) kr kr K ql qs (VD xs) (VD bs0) (N + 2)) := by
                  obtain ⟨h0, h1, h2, h3, h4, h5, h6⟩ := hO.out
                  obtain ⟨hdi, hlt0, heq⟩ := hI.out
                  have hdi2 := hdi.below (by rw [Hg5.out] at *; exact h6)
                  rw [List.drop_zero, List.drop_zero] at h5
                  rw [List.drop_zero] at hlt0 heq
                  rw [Nat.pow_zero, Nat.mul_one] at heq
                  rw [HR.out.2.2] at h5
                  obtain ⟨e1, e2⟩ := dv_end HD.out.1 rfl heq hlt0 h5 h4
                  rw [Hb.out.2.2.1] at e1 e2
                  exact ⟨by have := H3.out.2.2.2.1; omega, by have := H3.out.2.2.2.1; have := HKM.out.2.1; omega, hdi2.2.2.2.1.1.nw (by have := hdi2.1; omega) hdi2.2.2.2.1.2.1 hdi2.2.2.2.1.2.2.ws (by omega), hdi2.2.2.2.1.2.2, h1.slD h2 h3.ws (by omega), h3, e1, e2, hdi2.2.2.2.2⟩
                clear hO hI HR hjj
                go_wp2
                go_ret2
                exact ⟨_, _, kr, kr, qs, ql, K, rfl, HF.out⟩
      · subst hK0
        have hM2 : max (0 : Int) Kd = 0 := by omega
        have hKn : ¬ (0 : Int) ≤ Kd := by omega
        have hKn2 : ¬ (0 : Int) ≤ Kd - 1 := by omega
        go_wp2_with (at_make; refine wpList_make_full _ rfl _ _ 22 rfl w.heap.size 43 i0 (.int .u64 0) 1 Tryd.underlying22 hi hz0 hz1 .i64 .i64 _ _ (0 : Nat) rfl rfl rfl rfl (by rw [hz2]; omega) (by unfold maxLen; omega) (by omega) ?_)
        intro w5 hown5 hgrow5
        have hb5 : Below w4.heap.size w4 w5 := below_of_grown hgrow5 (Nat.le_refl _)
        have hrow5 := RowAt_zeros (by simpa using hown5)
        have HT : Hid (DJ w g1 c1 g2 c2 w4.heap.size M (0 : Nat) k cs2 (as2 ++ [0]) (List.replicate (0 : Nat) 0) w5 ∧ VD ((as2 ++ [0]).drop (0 : Nat)) < D ∧ VD (as2 ++ [0]) + D * H32 ^ (0 : Nat) * VD ((List.replicate (0 : Nat) 0).drop (0 : Nat)) = VD xs * sc) := by
          obtain ⟨f1, f2, f3, f4, f5⟩ := H3.out
          obtain ⟨t1, t2, t3, t4, t5⟩ := H4.out
          obtain ⟨u1, u2, u3, u4⟩ := H2.out
          obtain ⟨q1, q2, q3, q4, q5, q6, q7⟩ := HD.out
          have hst := dv_start (M := M) (K := (0 : Nat)) (m := m) (D := D) (by rw [u3]; exact f4) u2 q2 (by have := HKM.out.1; have := Hb.out.2.2.2.2.2.1; omega)
          have hg12 : g1 < g2 := by have : (w3.alloc (.cells #[.int .u64 (sc : Int)] 43)).heap.size ≤ g2 := t2; simp at this; omega
          refine ⟨⟨⟨f2, hg12, t3⟩, ⟨?_, by simp [u3]; exact f4, Dg_append u2 (fun z hz => by rw [List.mem_singleton] at hz; rw [hz]; exact H32_pos)⟩, ⟨t1.below hb5, q4⟩, ⟨hrow5, by simp, Dg_zeros' (0 : Nat)⟩, t4.trans (hb5.mono t4.size)⟩, hst.1, ?_⟩
          · exact own_below (own_below f1 t5 (Nat.le_refl _)) hb5 (Nat.le_refl _)
          · rw [hst.2, u1, VD_drop_all _ (0 : Nat) (by simp), Nat.mul_zero, Nat.add_zero]
        clear hown5 hgrow5 hb5 hrow5 H4
        generalize w4.heap.size = g3 at *
        go_wp2_with (fail)
        go_loopw [9] (fun iv wr => ∃ (j : Int) (z : Nat) (al ql : List Nat), z ≤ (0 : Nat) ∧ iv = .int .i64 j ∧ (j + 1 = z ∨ j < 0 ∧ z = 0) ∧ Hid (DJ w g1 c1 g2 c2 g3 M (0 : Nat) k cs2 al ql wr ∧ VD (al.drop z) < D ∧ VD al + D * H32 ^ z * VD (ql.drop z) = VD xs * sc)) (fun iv _ => (intOf iv + 1).toNat)
        case atStart => exact ⟨Kd - 1, (0 : Nat), _, _, by omega, rfl, by have := HKM.out.2.2; omega, HT.out⟩
        case round =>
          clear HT
          obtain ⟨j, z, al, ql, hkN, rfl, hj, hI⟩ := hrel
          by_cases hlt : 0 < z
          · exfalso; omega
          · have hz0 : z = 0 := by omega
            subst hz0
            have hneg : j < 0 := by omega
            have hM3 := H3.out.2.2.2.1
            have hsl : Sl wr (some ⟨g1, 0, none⟩) M c1 al := by
              obtain ⟨_, _, e, h1, h2, _, h4⟩ := own_form hI.out.1.2.1.1
              injection e with e1 e2 e3
              subst e1
              subst e3
              exact ⟨hI.out.1.2.1.2.1, h1, by unfold maxLen at h2; exact h2, hI.out.1.2.1.2.2.ws, h4⟩
            have HSL := Lib.hid (And.intro hsl hI.out.1.2.1.2.2)
            clear hsl hM3 hj
            go_wp2_with (fail)
            refine (Short_ok _ _ _ al _ (by omega) HSL.out.1 HSL.out.2).mono ?_
            rintro e w9 ⟨kr, rfl, hkr, rfl⟩
            have hkrM := hkr.out.1
            have hslr := HSL.out.1.take_ hkr.out.1
            have HR := Lib.hid (And.intro hslr (And.intro (Dg_take HSL.out.2 kr) hkr.out.2.1))
            clear hkr hslr HSL
            go_wp2_with (at_make; refine wpList_make_full _ rfl _ _ 22 rfl wr.heap.size 43 i0 (.int .u64 0) 1 Tryd.underlying22 hi hz0 hz1 .i64 .i64 _ _ kr rfl rfl rfl rfl (by rw [hz2]; omega) (by unfold maxLen; omega) (Nat.le_refl _) ?_)
            intro w10 hown10 hgrow10
            have hrow10 := RowAt_zeros (by simpa using hown10)
            have HO : Hid (OI wr wr.heap.size kr (al.take kr) sc kr 0 (List.replicate kr 0) w10) := ⟨Nat.le_refl _, hrow10, by simp, Dg_zeros' kr, hsc0, by rw [VD_drop_all (al.take kr) kr (by rw [HR.out.1.1]; exact Nat.le_refl _), VD_drop_all _ kr (by simp), Nat.zero_mul], below_of_grown hgrow10 (Nat.le_refl _)⟩
            have hg3r := hI.out.1.2.2.2.1.1.lt
            clear hown10 hgrow10 hrow10
            generalize hg5 : wr.heap.size = g5 at *
            have Hg5 := Lib.hid hg5
            clear hg5
            have hsc00 : ((sc : Int) == 0) = false := by simp; omega
            go_wp2_with (fail)
            go_loopw [18, 19] (fun rv iv wz => ∃ (rest : Nat) (j : Int) (k : Nat) (qs : List Nat), k ≤ kr ∧ iv = .int .i64 j ∧ j + 1 = k ∧ rv = .int .u64 rest ∧ Hid (OI wr g5 kr (al.take kr) sc k rest qs wz)) (fun _ iv _ => (intOf iv + 1).toNat)
            case atStart => exact ⟨0, (kr : Int) - 1, kr, _, by omega, rfl, by omega, rfl, HO.out⟩
            case round =>
              clear HO
              obtain ⟨rest, jj, kk, qs, hkk, rfl, hjj, rfl, hO⟩ := hrel
              by_cases hlt4 : 0 < kk
              · obtain ⟨i, rfl⟩ : ∃ i, kk = i + 1 := ⟨kk - 1, by omega⟩
                obtain rfl : jj = (i : Int) := by omega
                have hil : i < (al.take kr).length := by rw [HR.out.1.1]; omega
                obtain ⟨x, hg⟩ : ∃ x, (al.take kr)[i]? = some x := ⟨_, List.getElem?_eq_getElem hil⟩
                have hxH : x < H32 := HR.out.2.1 _ (List.mem_of_getElem? hg)
                obtain ⟨bx, ox, ex, hbx, hcx⟩ := HR.out.1.2.2.2.2.at (uvs_get hg)
                injection ex with ex
                injection ex with ex1 ex2
                subst ex1
                subst ex2
                rw [Nat.zero_add] at hcx
                have hOO := hO.out
                have hcx2 := (hOO.2.2.2.2.2.2.cell (p := ⟨g1, i, none⟩) hbx).trans hcx
                have hzl : i < qs.length := by rw [hOO.2.2.1]; omega
                obtain ⟨zi, hzi⟩ : ∃ zi, qs[i]? = some zi := ⟨_, List.getElem?_eq_getElem hzl⟩
                have hcz := hOO.2.1.cell hzi
                have hfz := hOO.2.1.frozen i
                obtain ⟨mm, tt, htt, httB, z1, z2, z3, z4, z5, z6, z7, z8, z9, z10⟩ := small_sum hOO.2.2.2.2.1 hxH (Nat.le_of_lt hscH)
                obtain ⟨hq, hst⟩ := hOO.step hg (by omega) hxH htt (Nat.le_of_lt hscH)
                obtain ⟨q, hqe⟩ : ∃ q, tt / sc = q := ⟨_, rfl⟩
                obtain ⟨r, hre⟩ : ∃ r, tt % sc = r := ⟨_, rfl⟩
                rw [hqe] at z7 z8 hst hq
                rw [hre] at z9 z10 hst
                have z11 : IntKind.u64.wrap (q : Int) = (q : Int) := by have hH' : H32 = 4294967296 := rfl; rw [IntKind.wrap_u64]; omega
                have HS2 := Lib.hid hst
                have hin : (i : Int) < kr := by omega
                have hin2 : (i : Int) < M := by omega
                have hin0 : (0 : Int) ≤ (i : Int) := by omega
                clear hst hg hO hOO hzl hcx hxH htt httB hq hqe hre hjj hzi hil hbx hI
                go_wp2
                go_roundw
                case rel => exact ⟨r, (i : Int) - 1, i, _, by omega, rfl, by omega, rfl, HS2⟩
                case measure => simp [intOf]
              · have hkk0 : kk = 0 := by omega
                subst hkk0
                have hneg2 : jj < 0 := by omega
                have HF : Hid (DvR w wr (.slice (some ⟨g3, 0, none⟩) (0 : Nat) (0 : Nat)) (some ⟨g5, 0, none⟩) kr kr (0 : Nat) ql qs (VD xs) (VD bs0) (N + 2)) := by
                  obtain ⟨h0, h1, h2, h3, h4, h5, h6⟩ := hO.out
                  obtain ⟨hdi, hlt0, heq⟩ := hI.out
                  have hdi2 := hdi.below (by rw [Hg5.out] at *; exact h6)
                  rw [List.drop_zero, List.drop_zero] at h5
                  rw [List.drop_zero] at hlt0 heq
                  rw [Nat.pow_zero, Nat.mul_one] at heq
                  rw [HR.out.2.2] at h5
                  obtain ⟨e1, e2⟩ := dv_end HD.out.1 rfl heq hlt0 h5 h4
                  rw [Hb.out.2.2.1] at e1 e2
                  exact ⟨by have := H3.out.2.2.2.1; omega, by have := H3.out.2.2.2.1; have := HKM.out.2.1; omega, hdi2.2.2.2.1.1.nw (by have := hdi2.1; omega) hdi2.2.2.2.1.2.1 hdi2.2.2.2.1.2.2.ws (by omega), hdi2.2.2.2.1.2.2, h1.slD h2 h3.ws (by omega), h3, e1, e2, hdi2.2.2.2.2⟩
                clear hO hI HR hjj
                go_wp2
                go_ret2
                exact ⟨_, _, kr, kr, qs, ql, (0 : Nat), rfl, HF.out⟩
      · subst hK0
        subst hKe
        go_wp2_with (at_make; refine wpList_make_full _ rfl _ _ 22 rfl w.heap.size 43 i0 (.int .u64 0) 1 Tryd.underlying22 hi hz0 hz1 .i64 .i64 _ _ (0 : Nat) rfl rfl rfl rfl (by rw [hz2]; omega) (by unfold maxLen; omega) (by omega) ?_)
        intro w5 hown5 hgrow5
        have hb5 : Below w4.heap.size w4 w5 := below_of_grown hgrow5 (Nat.le_refl _)
        have hrow5 := RowAt_zeros (by simpa using hown5)
        have HT : Hid (DJ w g1 c1 g2 c2 w4.heap.size M (0 : Nat) k cs2 (as2 ++ [0]) (List.replicate (0 : Nat) 0) w5 ∧ VD ((as2 ++ [0]).drop (0 : Nat)) < D ∧ VD (as2 ++ [0]) + D * H32 ^ (0 : Nat) * VD ((List.replicate (0 : Nat) 0).drop (0 : Nat)) = VD xs * sc) := by
          obtain ⟨f1, f2, f3, f4, f5⟩ := H3.out
          obtain ⟨t1, t2, t3, t4, t5⟩ := H4.out
          obtain ⟨u1, u2, u3, u4⟩ := H2.out
          obtain ⟨q1, q2, q3, q4, q5, q6, q7⟩ := HD.out
          have hst := dv_start (M := M) (K := (0 : Nat)) (m := m) (D := D) (by rw [u3]; exact f4) u2 q2 (by have := HKM.out.1; have := Hb.out.2.2.2.2.2.1; omega)
          have hg12 : g1 < g2 := by have : (w3.alloc (.cells #[.int .u64 (sc : Int)] 43)).heap.size ≤ g2 := t2; simp at this; omega
          refine ⟨⟨⟨f2, hg12, t3⟩, ⟨?_, by simp [u3]; exact f4, Dg_append u2 (fun z hz => by rw [List.mem_singleton] at hz; rw [hz]; exact H32_pos)⟩, ⟨t1.below hb5, q4⟩, ⟨hrow5, by simp, Dg_zeros' (0 : Nat)⟩, t4.trans (hb5.mono t4.size)⟩, hst.1, ?_⟩
          · exact own_below (own_below f1 t5 (Nat.le_refl _)) hb5 (Nat.le_refl _)
          · rw [hst.2, u1, VD_drop_all _ (0 : Nat) (by simp), Nat.mul_zero, Nat.add_zero]
        clear hown5 hgrow5 hb5 hrow5 H4
        generalize w4.heap.size = g3 at *
        go_wp2_with (fail)
        go_loopw [9] (fun iv wr => ∃ (j : Int) (z : Nat) (al ql : List Nat), z ≤ (0 : Nat) ∧ iv = .int .i64 j ∧ (j + 1 = z ∨ j < 0 ∧ z = 0) ∧ Hid (DJ w g1 c1 g2 c2 g3 M (0 : Nat) k cs2 al ql wr ∧ VD (al.drop z) < D ∧ VD al + D * H32 ^ z * VD (ql.drop z) = VD xs * sc)) (fun iv _ => (intOf iv + 1).toNat)
        case atStart => exact ⟨(0 : Int) - 1, (0 : Nat), _, _, by omega, rfl, by have := HKM.out.2.2; omega, HT.out⟩
        case round =>
          clear HT
          obtain ⟨j, z, al, ql, hkN, rfl, hj, hI⟩ := hrel
          by_cases hlt : 0 < z
          · exfalso; omega
          · have hz0 : z = 0 := by omega
            subst hz0
            have hneg : j < 0 := by omega
            have hM3 := H3.out.2.2.2.1
            have hsl : Sl wr (some ⟨g1, 0, none⟩) M c1 al := by
              obtain ⟨_, _, e, h1, h2, _, h4⟩ := own_form hI.out.1.2.1.1
              injection e with e1 e2 e3
              subst e1
              subst e3
              exact ⟨hI.out.1.2.1.2.1, h1, by unfold maxLen at h2; exact h2, hI.out.1.2.1.2.2.ws, h4⟩
            have HSL := Lib.hid (And.intro hsl hI.out.1.2.1.2.2)
            clear hsl hM3 hj
            go_wp2_with (fail)
            refine (Short_ok _ _ _ al _ (by omega) HSL.out.1 HSL.out.2).mono ?_
            rintro e w9 ⟨kr, rfl, hkr, rfl⟩
            have hkrM := hkr.out.1
            have hslr := HSL.out.1.take_ hkr.out.1
            have HR := Lib.hid (And.intro hslr (And.intro (Dg_take HSL.out.2 kr) hkr.out.2.1))
            clear hkr hslr HSL
            go_wp2_with (at_make; refine wpList_make_full _ rfl _ _ 22 rfl wr.heap.size 43 i0 (.int .u64 0) 1 Tryd.underlying22 hi hz0 hz1 .i64 .i64 _ _ kr rfl rfl rfl rfl (by rw [hz2]; omega) (by unfold maxLen; omega) (Nat.le_refl _) ?_)
            intro w10 hown10 hgrow10
            have hrow10 := RowAt_zeros (by simpa using hown10)
            have HO : Hid (OI wr wr.heap.size kr (al.take kr) sc kr 0 (List.replicate kr 0) w10) := ⟨Nat.le_refl _, hrow10, by simp, Dg_zeros' kr, hsc0, by rw [VD_drop_all (al.take kr) kr (by rw [HR.out.1.1]; exact Nat.le_refl _), VD_drop_all _ kr (by simp), Nat.zero_mul], below_of_grown hgrow10 (Nat.le_refl _)⟩
            have hg3r := hI.out.1.2.2.2.1.1.lt
            clear hown10 hgrow10 hrow10
            generalize hg5 : wr.heap.size = g5 at *
            have Hg5 := Lib.hid hg5
            clear hg5
            have hsc00 : ((sc : Int) == 0) = false := by simp; omega
            go_wp2_with (fail)
            go_loopw [18, 19] (fun rv iv wz => ∃ (rest : Nat) (j : Int) (k : Nat) (qs : List Nat), k ≤ kr ∧ iv = .int .i64 j ∧ j + 1 = k ∧ rv = .int .u64 rest ∧ Hid (OI wr g5 kr (al.take kr) sc k rest qs wz)) (fun _ iv _ => (intOf iv + 1).toNat)
            case atStart => exact ⟨0, (kr : Int) - 1, kr, _, by omega, rfl, by omega, rfl, HO.out⟩
            case round =>
              clear HO
              obtain ⟨rest, jj, kk, qs, hkk, rfl, hjj, rfl, hO⟩ := hrel
              by_cases hlt4 : 0 < kk
              · obtain ⟨i, rfl⟩ : ∃ i, kk = i + 1 := ⟨kk - 1, by omega⟩
                obtain rfl : jj = (i : Int) := by omega
                have hil : i < (al.take kr).length := by rw [HR.out.1.1]; omega
                obtain ⟨x, hg⟩ : ∃ x, (al.take kr)[i]? = some x := ⟨_, List.getElem?_eq_getElem hil⟩
                have hxH : x < H32 := HR.out.2.1 _ (List.mem_of_getElem? hg)
                obtain ⟨bx, ox, ex, hbx, hcx⟩ := HR.out.1.2.2.2.2.at (uvs_get hg)
                injection ex with ex
                injection ex with ex1 ex2
                subst ex1
                subst ex2
                rw [Nat.zero_add] at hcx
                have hOO := hO.out
                have hcx2 := (hOO.2.2.2.2.2.2.cell (p := ⟨g1, i, none⟩) hbx).trans hcx
                have hzl : i < qs.length := by rw [hOO.2.2.1]; omega
                obtain ⟨zi, hzi⟩ : ∃ zi, qs[i]? = some zi := ⟨_, List.getElem?_eq_getElem hzl⟩
                have hcz := hOO.2.1.cell hzi
                have hfz := hOO.2.1.frozen i
                obtain ⟨mm, tt, htt, httB, z1, z2, z3, z4, z5, z6, z7, z8, z9, z10⟩ := small_sum hOO.2.2.2.2.1 hxH (Nat.le_of_lt hscH)
                obtain ⟨hq, hst⟩ := hOO.step hg (by omega) hxH htt (Nat.le_of_lt hscH)
                obtain ⟨q, hqe⟩ : ∃ q, tt / sc = q := ⟨_, rfl⟩
                obtain ⟨r, hre⟩ : ∃ r, tt % sc = r := ⟨_, rfl⟩
                rw [hqe] at z7 z8 hst hq
                rw [hre] at z9 z10 hst
                have z11 : IntKind.u64.wrap (q : Int) = (q : Int) := by have hH' : H32 = 4294967296 := rfl; rw [IntKind.wrap_u64]; omega
                have HS2 := Lib.hid hst
                have hin : (i : Int) < kr := by omega
                have hin2 : (i : Int) < M := by omega
                have hin0 : (0 : Int) ≤ (i : Int) := by omega
                clear hst hg hO hOO hzl hcx hxH htt httB hq hqe hre hjj hzi hil hbx hI
                go_wp2
                go_roundw
                case rel => exact ⟨r, (i : Int) - 1, i, _, by omega, rfl, by omega, rfl, HS2⟩
                case measure => simp [intOf]
              · have hkk0 : kk = 0 := by omega
                subst hkk0
                have hneg2 : jj < 0 := by omega
                have HF : Hid (DvR w wr (.slice (some ⟨g3, 0, none⟩) (0 : Nat) (0 : Nat)) (some ⟨g5, 0, none⟩) kr kr (0 : Nat) ql qs (VD xs) (VD bs0) (N + 2)) := by
                  obtain ⟨h0, h1, h2, h3, h4, h5, h6⟩ := hO.out
                  obtain ⟨hdi, hlt0, heq⟩ := hI.out
                  have hdi2 := hdi.below (by rw [Hg5.out] at *; exact h6)
                  rw [List.drop_zero, List.drop_zero] at h5
                  rw [List.drop_zero] at hlt0 heq
                  rw [Nat.pow_zero, Nat.mul_one] at heq
                  rw [HR.out.2.2] at h5
                  obtain ⟨e1, e2⟩ := dv_end HD.out.1 rfl heq hlt0 h5 h4
                  rw [Hb.out.2.2.1] at e1 e2
                  exact ⟨by have := H3.out.2.2.2.1; omega, by have := H3.out.2.2.2.1; have := HKM.out.2.1; omega, hdi2.2.2.2.1.1.nw (by have := hdi2.1; omega) hdi2.2.2.2.1.2.1 hdi2.2.2.2.1.2.2.ws (by omega), hdi2.2.2.2.1.2.2, h1.slD h2 h3.ws (by omega), h3, e1, e2, hdi2.2.2.2.2⟩
                clear hO hI HR hjj
                go_wp2
                go_ret2
                exact ⟨_, _, kr, kr, qs, ql, (0 : Nat), rfl, HF.out⟩
end Go.Proofs.YthpgdpkemnhneaaDoor

namespace Go.Proofs.YthpgdpkemnhneaaDoor
open Go.RowKit
set_option linter.unusedVariables false
set_option linter.unusedSimpArgs false
set_option maxRecDepth 10000

set_option maxHeartbeats 1000000 in
theorem Divide_few (Aa Ab : Option Addr) (N nb ca cb : Nat) (xs bs0 : List Nat) (w : World) (hN2 : N ≤ 50000) (hnb : nb ≤ 50000) (hx : Sl w Aa N ca xs) (dx : Dg xs) (hb : Sl w Ab nb cb bs0) (db : Dg bs0) (h0 : 0 < VD bs0) (h1 : VD bs0 < H32) :
    Calls Tryd.prog 122 #[.slice Aa N ca, .slice Ab nb cb] w fun e w' => ∃ v A' n' c' rs qs K, e = .returned (.tuple #[v, .slice A' n' c']) ∧ DvR w w' v A' n' c' K qs rs (VD xs) (VD bs0) (N + 2) := by
  have Hx := Lib.hid (And.intro hx (And.intro dx (And.intro hb (And.intro db (And.intro h0 h1)))))
  clear hx dx hb db h0 h1
  go_enter Tryd.func122, Tryd.ntmps122
  go_wp2_with (fail)
  refine (Short_ok _ nb _ bs0 _ (by omega) Hx.out.2.2.1 Hx.out.2.2.2.1).mono ?_
  rintro e w' ⟨n, rfl, hk, rfl⟩
  have hdg := dv_digits Hx.out.2.2.2.1 (by rw [Hx.out.2.2.1.1]; exact hk.out.1) (D := VD bs0) hk.out.2.1 hk.out.2.2
  have hn1 : n = 1 := by
    rcases Nat.eq_zero_or_pos n with h | h
    · exfalso
      have := hdg.1
      rw [h, Nat.pow_zero] at this
      have := Hx.out.2.2.2.2.1
      omega
    · obtain ⟨m, hm⟩ : ∃ m, n = m + 1 := ⟨n - 1, by omega⟩
      have h2 := hdg.2 m hm
      have h3 : H32 ^ m < H32 ^ 1 := by rw [Nat.pow_one]; exact Nat.lt_of_le_of_lt h2 Hx.out.2.2.2.2.2
      have := (Nat.pow_lt_pow_iff_right (show 1 < H32 by decide)).1 h3
      omega
  subst hn1
  have hl : 0 < bs0.length := by rw [Hx.out.2.2.1.1]; have := hk.out.1; omega
  have hg := List.getElem?_eq_getElem hl
  obtain ⟨d, hd⟩ : ∃ d, bs0[0]'hl = d := ⟨_, rfl⟩
  rw [hd] at hg
  have hdv : VD bs0 = d := by
    rw [← hk.out.2.1]
    match bs0, hg with
    | x :: t, hg => simp at hg; subst hg; simp [VD]
  obtain ⟨bb, ob, rfl, hbb, hcb⟩ := Hx.out.2.2.1.2.2.2.2.at (uvs_get hg)
  rw [Nat.add_zero] at hcb
  have HD := Lib.hid hdv
  clear hk hdg hg hd hl hdv
  go_wp2_with (fail)
  refine (one_ok _ _ _ xs d _ (by omega) Hx.out.1 Hx.out.2.1 (by rw [← HD.out]; exact Hx.out.2.2.2.2.1) (by rw [← HD.out]; exact Hx.out.2.2.2.2.2)).mono ?_
  rintro e w2 ⟨v, qs, A', r, rfl, hn, hd, hs, hr, hv, hb⟩
  have HF := Lib.hid (And.intro hn (And.intro hd (And.intro hs (And.intro hr (And.intro hv hb)))))
  clear hn hd hs hr hv hb
  go_wp2_with (fail)
  go_ret2
  obtain ⟨h1, h2, h3, h4, h5, h6⟩ := HF.out
  have e : VD [r] = r := by simp [VD]
  have hdH : d < H32 := by rw [← HD.out]; exact Hx.out.2.2.2.2.2
  refine ⟨v, A', 1, 1, [r], qs, N, rfl, by omega, by omega, h1, h2, h3, fun z hz => by rw [List.mem_singleton] at hz; rw [hz]; omega, ?_, ?_, h6⟩
  · rw [e, HD.out]; exact h5
  · rw [e, HD.out]; exact h4
theorem Divide_any (Aa Ab : Option Addr) (N nb ca cb : Nat) (xs bs0 : List Nat) (w : World) (hN2 : N ≤ 50000) (hnb : nb ≤ 50000) (hx : Sl w Aa N ca xs) (dx : Dg xs) (hb : Sl w Ab nb cb bs0) (db : Dg bs0) (h0 : 0 < VD bs0) :
    Calls Tryd.prog 122 #[.slice Aa N ca, .slice Ab nb cb] w fun e w' => ∃ v A' n' c' rs qs K, e = .returned (.tuple #[v, .slice A' n' c']) ∧ DvR w w' v A' n' c' K qs rs (VD xs) (VD bs0) (N + 2) := by
  rcases Nat.lt_or_ge (VD bs0) H32 with h | h
  · exact Divide_few Aa Ab N nb ca cb xs bs0 w hN2 hnb hx dx hb db h0 h
  · exact Divide_many Aa Ab N nb ca cb xs bs0 w hN2 hnb hx dx hb db h
set_option maxHeartbeats 1000000 in
theorem RDivMod_ok (A A' : Option Addr) (n n' c c' : Nat) (xs ys : List Nat) (w : World) (hn : n ≤ 4096) (hn' : n' ≤ 4096) (hx : Sl w A n c xs) (hy : Sl w A' n' c' ys) (h0 : 0 < V ys) :
    Calls Tryd.prog 120 #[.slice A n c, .slice A' n' c'] w fun e w' => ∃ v v', e = .returned (.tuple #[v, v']) ∧ Nt w w' v (V xs / V ys) ∧ Nt w w' v' (V xs % V ys) ∧ Below w.heap.size w w' := by
  have Hx := Lib.hid (And.intro hx (And.intro hy h0))
  clear hx hy h0
  go_enter Tryd.func120, Tryd.ntmps120
  go_wp2_with (fail)
  refine (Digits_ok _ _ _ xs _ (by omega) Hx.out.1).mono ?_
  rintro e w1 ⟨v1, ds, rfl, hn1, hd1, hv1, hb1⟩
  obtain ⟨A1, c1, rfl, hs1⟩ := hn1.sl
  have H1 := Lib.hid (And.intro hs1 (And.intro hd1 (And.intro hv1 (And.intro (Hx.out.2.1.below hb1) hb1))))
  clear hn1 hd1 hv1 hb1 hs1
  go_wp2_with (fail)
  refine (Digits_ok _ _ _ ys _ (by omega) H1.out.2.2.2.1).mono ?_
  rintro e w2 ⟨v2, es, rfl, hn2, hd2, hv2, hb2⟩
  obtain ⟨A2, c2, rfl, hs2⟩ := hn2.sl
  have H2 := Lib.hid (And.intro (H1.out.1.below hb2) (And.intro hs2 (And.intro hd2 (And.intro hv2 (H1.out.2.2.2.2.trans (hb2.mono H1.out.2.2.2.2.size))))))
  clear hn2 hd2 hv2 hb2 hs2
  have hN2 : 2 * n ≤ 8192 := by omega
  have hM2 : 2 * n' ≤ 8192 := by omega
  generalize 2 * n = P at *
  generalize 2 * n' = Q at *
  go_wp2_with (fail)
  refine (Divide_any _ _ P Q _ _ ds es _ (by omega) (by omega) H2.out.1 H1.out.2.1 H2.out.2.1 H2.out.2.2.1 (by rw [H2.out.2.2.2.1]; exact Hx.out.2.2)).mono ?_
  rintro e w3 ⟨v3, A3, n3, c3, rs, qs, K, rfl, hR⟩
  obtain ⟨r1, r2, r3, r4, r5, r6, r7, r8, r9⟩ := hR
  obtain ⟨A4, c4, rfl, hs4⟩ := r3.sl
  rw [H1.out.2.2.1, H2.out.2.2.2.1] at r7
  rw [H2.out.2.2.2.1] at r8
  have hq : VD qs = V xs / V ys ∧ VD rs = V xs % V ys := by
    have h0 := Hx.out.2.2
    rw [← r7]
    refine ⟨?_, ?_⟩
    · rw [Nat.mul_comm, Nat.mul_add_div h0, Nat.div_eq_of_lt r8, Nat.add_zero]
    · rw [Nat.mul_comm, Nat.mul_add_mod, Nat.mod_eq_of_lt r8]
  have hK8 : K ≤ 18000 := by omega
  have hn8 : n3 ≤ 18000 := by omega
  have H3 := Lib.hid (And.intro hs4 (And.intro r4 (And.intro r5 (And.intro r6 (And.intro hq (H2.out.2.2.2.2.trans (r9.mono H2.out.2.2.2.2.size)))))))
  clear hs4 r1 r2 r3 r4 r5 r6 r7 r8 r9 hq
  go_wp2_with (fail)
  refine (nat_ok _ K _ qs _ hK8 H3.out.1 H3.out.2.1).mono ?_
  rintro e w5 hR5
  obtain ⟨v5, rfl, h5, b5⟩ := hR5
  have hbw := H3.out.2.2.2.2.2
  have H5 := Lib.hid (And.intro (H3.out.2.2.1.below b5) (And.intro (h5.base hbw.size) (And.intro (hbw.trans (b5.mono hbw.size)) (And.intro H3.out.2.2.2.1 H3.out.2.2.2.2.1))))
  clear h5 b5 H3 hbw
  go_wp2_with (fail)
  refine (nat_ok _ n3 _ rs _ hn8 H5.out.1 H5.out.2.2.2.1).mono ?_
  rintro e w6 ⟨v6, rfl, h6, b6⟩
  have hbw := H5.out.2.2.1
  have H6 := Lib.hid (And.intro (H5.out.2.1.later (Nat.le_refl _) b6) (And.intro (h6.base hbw.size) (And.intro (hbw.trans (b6.mono hbw.size)) H5.out.2.2.2.2)))
  clear h6 b6 H5 hbw
  go_wp2_with (fail)
  go_ret2
  obtain ⟨f1, f2, f3, f4, f5⟩ := H6.out
  rw [f4] at f1
  rw [f5] at f2
  exact ⟨v5, v6, rfl, f1, f2, f3⟩
end Go.Proofs.YthpgdpkemnhneaaDoor
