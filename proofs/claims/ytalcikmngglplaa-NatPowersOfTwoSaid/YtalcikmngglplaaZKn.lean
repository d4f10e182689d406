/- Knuth's algorithm D: the word that is guessed, and the word that is taken: plain arithmetic. -/
import Derived.Test.YtalcikmngglplaaP1
namespace Go.Proofs.Ytalcikmngglplaa
set_option linter.unusedVariables false
set_option linter.unusedSimpArgs false
/-- the word that is guessed is the quotient, or 1 more: by the rest's error -/
theorem guess_top (B P a b c f s ul vl u v : Nat) (hB : 2 ≤ B) (hP : 0 < P) (hf : B ≤ 2 * f) (hul : ul < P) (hvl : vl < P)
    (hu : u = ((a * B + b) * B + c) * P + ul) (hv : v = (f * B + s) * P + vl) (hs : s < B) (haf : f ≤ a) (huv : u < v * B) :
    (B - 1) * v ≤ u + v ∧ u < (B - 1 + 1) * v := by
  refine ⟨?_, by rw [Nat.sub_add_cancel (by omega), Nat.mul_comm]; exact huv⟩
  have h1 : (B - 1) * v = (B - 2) * v + v := by
    obtain ⟨t, rfl⟩ : ∃ t, B = t + 2 := ⟨B - 2, by omega⟩
    rw [show t + 2 - 1 = t + 1 by omega, show t + 2 - 2 = t by omega, Nat.succ_mul]
  rw [h1]
  refine Nat.add_le_add_right ?_ v
  have h2 : v ≤ (f + 1) * (B * P) := by
    have h3 : s * P + vl ≤ B * P := by
      have := Nat.mul_le_mul_right P (show s + 1 ≤ B from hs)
      rw [Nat.succ_mul] at this
      omega
    rw [hv, Nat.add_mul, Nat.add_mul, Nat.mul_assoc, Nat.one_mul, Nat.add_assoc]
    omega
  have h4 := Nat.mul_le_mul_left (B - 2) h2
  have h5 : f * B * (B * P) ≤ u := by
    have h6 := Nat.mul_le_mul_right (B * (B * P)) haf
    have h7 : u = a * (B * (B * P)) + (b * (B * P) + c * P + ul) := by rw [hu]; simp only [Nat.add_mul, Nat.mul_assoc]; omega
    have h8 : f * B * (B * P) = f * (B * (B * P)) := by rw [Nat.mul_assoc]
    omega
  have h9 : (B - 2) * (f + 1) ≤ f * B := by
    obtain ⟨t, rfl⟩ : ∃ t, B = t + 2 := ⟨B - 2, by omega⟩
    rw [show t + 2 - 2 = t by omega]
    have : t * (f + 1) = t * f + t := by rw [Nat.mul_add, Nat.mul_one]
    have h10 : f * (t + 2) = t * f + 2 * f := by rw [Nat.mul_add, Nat.mul_comm f t, Nat.mul_comm f 2]
    omega
  have h10 := Nat.mul_le_mul_right (B * P) h9
  rw [Nat.mul_assoc] at h10
  omega
theorem guess_rest (B P a b c f s ul vl u v g r : Nat) (hB : 2 ≤ B) (hP : 0 < P) (hf : B ≤ 2 * f) (hul : ul < P) (hvl : vl < P)
    (hu : u = ((a * B + b) * B + c) * P + ul) (hv : v = (f * B + s) * P + vl) (hs : s < B) (hc : c < B) (hg : a * B + b = g * f + r) (hr : r < f) (hgB : g < B) :
    u < (g + 1) * v ∧ (g * s ≤ r * B + c → g * v ≤ u + v) ∧ (r * B + c < g * s → 1 ≤ g ∧ u < g * v ∧ (g - 1) * v ≤ u + v) := by
  have hvf : f * (B * P) ≤ v := by rw [hv, Nat.add_mul, Nat.mul_assoc]; omega
  have hfv : v < (f + 1) * (B * P) := by
    have := Nat.mul_le_mul_right P (show s + 1 ≤ B from hs)
    rw [Nat.succ_mul] at this
    rw [hv, Nat.add_mul, Nat.add_mul, Nat.mul_assoc, Nat.one_mul]
    omega
  have hu2 : u = (g * f + r) * (B * P) + (c * P + ul) := by rw [hu, hg]; simp only [Nat.add_mul, Nat.mul_assoc]; omega
  have hcl : c * P + ul < B * P := by
    have := Nat.mul_le_mul_right P (show c + 1 ≤ B from hc)
    rw [Nat.succ_mul] at this
    omega
  have hBP : 0 < B * P := Nat.mul_pos (by omega) hP
  have hub : u < (g * f + r + 1) * (B * P) := by rw [hu2, Nat.succ_mul]; omega
  refine ⟨?_, ?_, ?_⟩
  · have h1 : (g * f + r + 1) ≤ (g + 1) * f := by rw [Nat.succ_mul]; omega
    have h2 := Nat.mul_le_mul_right (B * P) h1
    have h3 := Nat.mul_le_mul_left (g + 1) hvf
    rw [← Nat.mul_assoc] at h3
    omega
  · intro h
    -- (g - 1) v ≤ u
    have h1 : g * v ≤ ((g * f + r) * B + c) * P + g * P := by
      have h2 : v ≤ (f * B + s + 1) * P := by rw [hv, Nat.succ_mul]; omega
      have h3 := Nat.mul_le_mul_left g h2
      have h4 : g * ((f * B + s + 1) * P) = (g * (f * B) + g * s) * P + g * P := by
        rw [← Nat.mul_assoc, Nat.mul_add, Nat.mul_add, Nat.mul_one, Nat.add_mul]
      have h5 : g * (f * B) + g * s ≤ (g * f + r) * B + c := by
        rw [Nat.add_mul, ← Nat.mul_assoc]; omega
      have h6 := Nat.mul_le_mul_right P h5
      omega
    have h7 : g * P ≤ v := by
      have h8 : g * P ≤ B * P := Nat.mul_le_mul_right P (by omega)
      have h9 : B * P ≤ f * (B * P) := Nat.le_mul_of_pos_left _ (by omega)
      omega
    have h10 : ((g * f + r) * B + c) * P ≤ u := by rw [hu, hg]; omega
    omega
  · intro h
    have hg1 : 1 ≤ g := by
      rcases Nat.eq_zero_or_pos g with h1 | h1
      · subst h1; omega
      · exact h1
    have h1 : u < g * v := by
      have h2 : ((g * f + r) * B + c) + 1 ≤ g * (f * B + s) := by
        rw [Nat.mul_add, Nat.add_mul, Nat.mul_assoc]; omega
      have h3 := Nat.mul_le_mul_right P h2
      rw [Nat.succ_mul, Nat.mul_assoc] at h3
      have h4 : g * ((f * B + s) * P) ≤ g * v := Nat.mul_le_mul_left g (by rw [hv]; omega)
      rw [hu, hg]
      omega
    refine ⟨hg1, h1, ?_⟩
    -- (g - 2) v ≤ u
    obtain ⟨k, rfl⟩ : ∃ k, g = k + 1 := ⟨g - 1, by omega⟩
    rw [Nat.add_sub_cancel]
    rcases Nat.eq_zero_or_pos k with h2 | h2
    · subst h2; omega
    · obtain ⟨m, rfl⟩ : ∃ m, k = m + 1 := ⟨k - 1, by omega⟩
      rw [Nat.succ_mul]
      refine Nat.add_le_add_right ?_ v
      have h3 := Nat.mul_le_mul_left m (Nat.le_of_lt hfv)
      rw [← Nat.mul_assoc] at h3
      have h4 : m * (f + 1) ≤ (m + 1 + 1) * f + r := by
        rw [Nat.mul_add, Nat.mul_one, Nat.succ_mul, Nat.succ_mul]; omega
      have h5 := Nat.mul_le_mul_right (B * P) h4
      rw [hu2]
      omega
/-- the row below, from the word that is taken -/
theorem take_right (E u u1 t v g R k : Nat) (hu : u = u1 + t * E) (hu1 : u1 < E) (hR : R < E) (hv : v < E) (h : R + g * v = u1 + k * E) (hlo : u < (g + 1) * v) (hhi : g * v ≤ u) : k = t ∧ u = g * v + R ∧ R < v := by
  rw [Nat.succ_mul] at hlo
  have h1 : R + t * E = u - g * v + k * E := by omega
  have hkt : k = t := by
    rcases Nat.lt_trichotomy k t with h2 | h2 | h2
    · have := Nat.mul_le_mul_right E (show k + 1 ≤ t from h2); rw [Nat.succ_mul] at this; omega
    · exact h2
    · have := Nat.mul_le_mul_right E (show t + 1 ≤ k from h2); rw [Nat.succ_mul] at this; omega
  subst hkt
  exact ⟨rfl, by omega, by omega⟩
theorem take_more (E u u1 t v g R k : Nat) (hu : u = u1 + t * E) (hu1 : u1 < E) (hR : R < E) (hv : v < E) (h : R + g * v = u1 + k * E) (hhi : g * v ≤ u + v) (hlo : u < g * v) : t < k ∧ 1 ≤ g ∧ R + v = (u - (g - 1) * v) + E ∧ u - (g - 1) * v < v ∧ (g - 1) * v ≤ u := by
  have hg1 : 1 ≤ g := by
    rcases Nat.eq_zero_or_pos g with h1 | h1
    · subst h1; omega
    · exact h1
  obtain ⟨m, rfl⟩ : ∃ m, g = m + 1 := ⟨g - 1, by omega⟩
  rw [Nat.add_sub_cancel]
  rw [Nat.succ_mul] at *
  have h1 : R + v + t * E = u - m * v + k * E := by omega
  have hkt : k = t + 1 := by
    rcases Nat.lt_trichotomy k (t + 1) with h2 | h2 | h2
    · have := Nat.mul_le_mul_right E (show k ≤ t by omega); omega
    · exact h2
    · have := Nat.mul_le_mul_right E (show t + 2 ≤ k from h2); rw [Nat.add_mul] at this; omega
  subst hkt
  rw [Nat.succ_mul] at h1
  exact ⟨by omega, by omega, by omega, by omega, by omega⟩
open Go.RowKit
theorem V_top3 {us : List Nat} {m a b c : Nat} (hl : us.length = m + 3) (ha : us[m + 2]? = some a) (hb : us[m + 1]? = some b) (hc : us[m]? = some c) : V us = ((a * B64 + b) * B64 + c) * B64 ^ m + V (us.take m) := by
  have g : ∀ k x, k < us.length → us[k]? = some x → V (us.take (k + 1)) = V (us.take k) + x * B64 ^ k := fun k x h hx => by
    rw [V_take_succ us k h]
    rw [List.getElem?_eq_getElem h] at hx
    injection hx with hx
    rw [hx]
  have h1 := g (m + 2) a (by omega) ha
  have h2 := g (m + 1) b (by omega) hb
  have h3 := g m c (by omega) hc
  rw [List.take_of_length_le (by omega)] at h1
  rw [h1, h2, h3, show B64 ^ (m + 2) = B64 ^ m * B64 * B64 from rfl, show B64 ^ (m + 1) = B64 ^ m * B64 from rfl]
  clear g h1 h2 h3 hl ha hb hc
  generalize B64 ^ m = t
  generalize V (us.take m) = v
  generalize B64 = B
  grind
theorem V_top2 {us : List Nat} {m b c : Nat} (hl : us.length = m + 2) (hb : us[m + 1]? = some b) (hc : us[m]? = some c) : V us = (b * B64 + c) * B64 ^ m + V (us.take m) := by
  have g : ∀ k x, k < us.length → us[k]? = some x → V (us.take (k + 1)) = V (us.take k) + x * B64 ^ k := fun k x h hx => by
    rw [V_take_succ us k h]
    rw [List.getElem?_eq_getElem h] at hx
    injection hx with hx
    rw [hx]
  have h2 := g (m + 1) b (by omega) hb
  have h3 := g m c (by omega) hc
  rw [List.take_of_length_le (by omega)] at h2
  rw [h2, h3, show B64 ^ (m + 1) = B64 ^ m * B64 from rfl]
  clear g h2 h3 hl hb hc
  generalize B64 ^ m = t
  generalize V (us.take m) = v
  generalize B64 = B
  grind
theorem V_low {us : List Nat} (hw : Ws us) (m : Nat) : V (us.take m) < B64 ^ m := by
  refine Nat.lt_of_lt_of_le (V_lt _ (Ws_take hw m)) (Nat.pow_le_pow_right B64_pos ?_)
  rw [List.length_take]; omega
/-- what guess answers, of the words on top -/
theorem guess_a {us vs : List Nat} {m a b c f s : Nat} (hu : us.length = m + 3) (hv : vs.length = m + 2) (wu : Ws us) (wv : Ws vs) (ha : us[m + 2]? = some a) (hb : us[m + 1]? = some b) (hc : us[m]? = some c) (hf : vs[m + 1]? = some f) (hs : vs[m]? = some s)
    (htop : B64 ≤ 2 * f) (hlt : V us < V vs * B64) (haf : f ≤ a) : (B64 - 1) * V vs ≤ V us + V vs ∧ V us < (B64 - 1 + 1) * V vs :=
  guess_top B64 (B64 ^ m) a b c f s _ _ _ _ (by decide) (Nat.pow_pos B64_pos) htop (V_low wu m) (V_low wv m) (V_top3 hu ha hb hc) (V_top2 hv hf hs) (wv s (List.mem_of_getElem? hs)) haf hlt
theorem guess_b {us vs : List Nat} {m a b c f s g r : Nat} (hu : us.length = m + 3) (hv : vs.length = m + 2) (wu : Ws us) (wv : Ws vs) (ha : us[m + 2]? = some a) (hb : us[m + 1]? = some b) (hc : us[m]? = some c) (hf : vs[m + 1]? = some f) (hs : vs[m]? = some s)
    (htop : B64 ≤ 2 * f) (hg : a * B64 + b = g * f + r) (hr : r < f) (hgB : g < B64) :
    V us < (g + 1) * V vs ∧ (g * s ≤ r * B64 + c → g * V vs ≤ V us + V vs) ∧ (r * B64 + c < g * s → 1 ≤ g ∧ V us < g * V vs ∧ (g - 1) * V vs ≤ V us + V vs) :=
  guess_rest B64 (B64 ^ m) a b c f s _ _ _ _ g r (by decide) (Nat.pow_pos B64_pos) htop (V_low wu m) (V_low wv m) (V_top3 hu ha hb hc) (V_top2 hv hf hs) (wv s (List.mem_of_getElem? hs)) (wu c (List.mem_of_getElem? hc)) hg hr hgB
/-- what guess answers -/
def GuessR (u v g : Nat) : Prop := g < B64 ∧ g * v ≤ u + v ∧ u < (g + 1) * v
/-- the contract of guess -/
def GuessC : Prop := ∀ (Au Av : Option Addr) (n N1 cu cv : Nat) (us vs : List Nat) (w : World), N1 = n + 1 → 2 ≤ n → n ≤ 4096 → Sl w Au N1 cu us → Sl w Av n cv vs → (∀ f, vs[n - 1]? = some f → B64 ≤ 2 * f) → V us < V vs * B64 →
    Calls Try.prog 122 #[.slice Au N1 cu, .slice Av n cv] w fun e w' => ∃ g : Nat, e = .returned (.int .u64 (g : Int)) ∧ GuessR (V us) (V vs) g ∧ Below w.heap.size w w'
end Go.Proofs.Ytalcikmngglplaa
