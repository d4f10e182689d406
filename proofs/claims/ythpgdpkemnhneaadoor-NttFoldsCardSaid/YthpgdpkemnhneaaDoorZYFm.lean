/- Fermat modulo P: 7 has the order P - 1. -/
import Derived.Test.YthpgdpkemnhneaaDoorZYCvM
namespace Go.Proofs.YthpgdpkemnhneaaDoor
set_option linter.unusedVariables false
set_option linter.unusedSimpArgs false
set_option maxRecDepth 10000

theorem fin_surj : ∀ (n : Nat) (f : Nat → Nat), (∀ i, i < n → f i < n) → (∀ i j, i < n → j < n → f i = f j → i = j) → ∀ k, k < n → ∃ i, i < n ∧ f i = k
  | 0, f, _, _, k, hk => absurd hk (Nat.not_lt_zero _)
  | n + 1, f, hb, hi, k, hk => by
    have hne : ∀ i, i < n → f i ≠ f n := fun i h e => by have := hi i n (by omega) (by omega) e; omega
    have IH := fin_surj n (fun i => if f i = n then f n else f i) (fun i h => by
      show (if f i = n then f n else f i) < n
      have h1 := hb i (by omega)
      have h2 := hb n (by omega)
      have h3 := hne i h
      split <;> omega) (fun i j h1 h2 e => by
      have e' : (if f i = n then f n else f i) = (if f j = n then f n else f j) := e
      have h3 := hne i h1
      have h4 := hne j h2
      apply hi i j (by omega) (by omega)
      split at e' <;> split at e' <;> omega)
    by_cases h1 : k = f n
    · exact ⟨n, by omega, h1.symm⟩
    · rcases Nat.lt_or_ge k n with h | h
      · obtain ⟨i, hi1, hi2⟩ := IH k h
        have hi3 : (if f i = n then f n else f i) = k := hi2
        refine ⟨i, by omega, ?_⟩
        split at hi3
        · exact absurd hi3.symm h1
        · exact hi3
      · obtain rfl : k = n := by omega
        have h2 := hb k (by omega)
        obtain ⟨i, hi1, hi2⟩ := IH (f k) (by omega)
        have hi3 : (if f i = k then f k else f i) = f k := hi2
        refine ⟨i, by omega, ?_⟩
        split at hi3
        · assumption
        · exact absurd hi3 (hne i hi1)
theorem dvd_small {q : Nat} (h : ∀ d, d ≤ q → q % d = 0 → d = 1 ∨ d = q) (h0 : 0 < q) : ∀ d, d ∣ q → d = 1 ∨ d = q := fun d hd =>
  h d (Nat.le_of_dvd h0 hd) (Nat.mod_eq_zero_of_dvd hd)
theorem pr2 : ∀ d, d ∣ 2 → d = 1 ∨ d = 2 := dvd_small (by decide) (by decide)
theorem pr3 : ∀ d, d ∣ 3 → d = 1 ∨ d = 3 := dvd_small (by decide) (by decide)
theorem pr5 : ∀ d, d ∣ 5 → d = 1 ∨ d = 5 := dvd_small (by decide) (by decide)
theorem pr17 : ∀ d, d ∣ 17 → d = 1 ∨ d = 17 := dvd_small (by decide) (by decide)
theorem pr257 : ∀ d, d ∣ 257 → d = 1 ∨ d = 257 := dvd_small (by decide +kernel) (by decide)
theorem pr65537 : ∀ d, d ∣ 65537 → d = 1 ∨ d = 65537 := by
  have key : ∀ e, e ≤ 256 → 65537 % e = 0 → e = 1 := by decide +kernel
  rintro d ⟨e, he⟩
  rcases Nat.lt_or_ge 256 d with h | h
  · have h1 : e ≤ 256 := by
      rcases Nat.lt_or_ge 256 e with h2 | h2
      · have := Nat.mul_le_mul (show 257 ≤ d from h) (show 257 ≤ e from h2)
        omega
      · exact h2
    have h3 : 65537 % e = 0 := by rw [he]; exact Nat.mul_mod_left d e
    have h4 := key e h1 h3
    right
    rw [h4, Nat.mul_one] at he
    exact he.symm
  · left
    exact key d h (by rw [he]; exact Nat.mul_mod_right d e)
theorem cop {q m : Nat} (hq : ∀ d, d ∣ q → d = 1 ∨ d = q) (h : ¬ q ∣ m) : Nat.Coprime m q := by
  rcases hq _ (Nat.gcd_dvd_right m q) with h1 | h1
  · exact h1
  · exfalso
    apply h
    rw [← h1]
    exact Nat.gcd_dvd_left m q
theorem some_prime {m : Nat} (hm : m ∣ 2 ^ 32 * (3 * (5 * (17 * (257 * 65537))))) (h1 : m ≠ 1) : 2 ∣ m ∨ 3 ∣ m ∨ 5 ∣ m ∨ 17 ∣ m ∨ 257 ∣ m ∨ 65537 ∣ m := by
  by_cases a2 : 2 ∣ m
  · exact .inl a2
  by_cases a3 : 3 ∣ m
  · exact .inr (.inl a3)
  by_cases a5 : 5 ∣ m
  · exact .inr (.inr (.inl a5))
  by_cases a17 : 17 ∣ m
  · exact .inr (.inr (.inr (.inl a17)))
  by_cases a257 : 257 ∣ m
  · exact .inr (.inr (.inr (.inr (.inl a257))))
  by_cases a6 : 65537 ∣ m
  · exact .inr (.inr (.inr (.inr (.inr a6))))
  exfalso
  have b1 := (Nat.Coprime.pow_right 32 (cop pr2 a2)).dvd_of_dvd_mul_left hm
  have b2 := (cop pr3 a3).dvd_of_dvd_mul_left b1
  have b3 := (cop pr5 a5).dvd_of_dvd_mul_left b2
  have b4 := (cop pr17 a17).dvd_of_dvd_mul_left b3
  have b5 := (cop pr257 a257).dvd_of_dvd_mul_left b4
  have b6 := Nat.Coprime.eq_one_of_dvd (cop pr65537 a6) b5
  exact h1 b6
theorem seven_not (k : Nat) (hk : k < 2 ^ 64) (h : pm 64 7 k 1 % PP ≠ 1) : ¬ Eqm (7 ^ k) 1 := by
  have := pm_eq 64 7 k 1 hk
  rw [Nat.one_mul] at this
  intro e
  apply h
  rw [this]
  exact e
theorem n2 : ¬ Eqm (7 ^ ((PH + PH) / 2)) 1 := seven_not _ (by decide) (by decide +kernel)
theorem n3 : ¬ Eqm (7 ^ ((PH + PH) / 3)) 1 := seven_not _ (by decide) (by decide +kernel)
theorem n5 : ¬ Eqm (7 ^ ((PH + PH) / 5)) 1 := seven_not _ (by decide) (by decide +kernel)
theorem n17 : ¬ Eqm (7 ^ ((PH + PH) / 17)) 1 := seven_not _ (by decide) (by decide +kernel)
theorem n257 : ¬ Eqm (7 ^ ((PH + PH) / 257)) 1 := seven_not _ (by decide) (by decide +kernel)
theorem n65537 : ¬ Eqm (7 ^ ((PH + PH) / 65537)) 1 := seven_not _ (by decide) (by decide +kernel)
theorem one_mul_pow {x a b : Nat} (h : Eqm (x ^ a) 1) (hd : a ∣ b) : Eqm (x ^ b) 1 := by
  obtain ⟨e, rfl⟩ := hd
  rw [Nat.pow_mul]
  exact (h.pow e).trans (.of_eq (Nat.one_pow _))
theorem one_gcd (x : Nat) : ∀ (a b : Nat), Eqm (x ^ a) 1 → Eqm (x ^ b) 1 → Eqm (x ^ Nat.gcd a b) 1 := by
  intro a b
  induction a, b using Nat.gcd.induction with
  | H0 n => intro _ h; rwa [Nat.gcd_zero_left]
  | H1 m n hm ih =>
    intro h1 h2
    rw [Nat.gcd_rec]
    refine ih ?_ h1
    have e : x ^ n = x ^ (m * (n / m)) * x ^ (n % m) := by rw [← Nat.pow_add, Nat.div_add_mod]
    rw [e, Nat.pow_mul] at h2
    refine Eqm.symm (h2.symm.trans ((Eqm.mul (h1.pow _) (.refl _)).trans (.of_eq ?_)))
    rw [Nat.one_pow, Nat.one_mul]
theorem no_order {N e : Nat} (hN : N = PH + PH) (h0 : 0 < e) (he : e < N) : ¬ Eqm (7 ^ e) 1 := by
  intro h
  have hf : Eqm (7 ^ N) 1 := by rw [hN]; exact seven_full
  have hg := one_gcd 7 e N h hf
  obtain ⟨g, hgd⟩ : ∃ g, Nat.gcd e N = g := ⟨_, rfl⟩
  rw [hgd] at hg
  obtain ⟨m, hm⟩ : g ∣ N := by rw [← hgd]; exact Nat.gcd_dvd_right e N
  have hge : g ≤ e := by rw [← hgd]; exact Nat.le_of_dvd h0 (Nat.gcd_dvd_left e N)
  have hm1 : m ≠ 1 := by
    rintro rfl
    rw [Nat.mul_one] at hm
    omega
  have hmd : m ∣ 2 ^ 32 * (3 * (5 * (17 * (257 * 65537)))) := by
    have e1 : 2 ^ 32 * (3 * (5 * (17 * (257 * 65537)))) = N := by rw [hN]; decide
    rw [e1, hm]
    exact Nat.dvd_mul_left m g
  have key : ∀ q, 0 < q → q ∣ m → Eqm (7 ^ ((PH + PH) / q)) 1 := by
    rintro q hq ⟨t, rfl⟩
    have e1 : (PH + PH) / q = g * t := by
      rw [← hN, hm, show g * (q * t) = q * (g * t) by ac_rfl, Nat.mul_div_cancel_left _ hq]
    rw [e1]
    exact one_mul_pow hg (Nat.dvd_mul_right g t)
  rcases some_prime hmd hm1 with h | h | h | h | h | h
  · exact n2 (key 2 (by decide) h)
  · exact n3 (key 3 (by decide) h)
  · exact n5 (key 5 (by decide) h)
  · exact n17 (key 17 (by decide) h)
  · exact n257 (key 257 (by decide) h)
  · exact n65537 (key 65537 (by decide) h)
/-- every residue but 0 is a power of 7 -/
theorem seven_all {N k : Nat} (hN : N = PH + PH) (hP : PP = N + 1) (h0 : 0 < k) (hk : k < PP) : ∃ i, k = 7 ^ i % PP := by
  have hf : Eqm (7 ^ N) 1 := by rw [hN]; exact seven_full
  have hpos : ∀ i, i < N → 0 < 7 ^ i % PP := fun i hi => by
    rcases Nat.eq_zero_or_pos (7 ^ i % PP) with h | h
    · exfalso
      have h1 : Eqm (7 ^ i) 0 := h
      have h2 : Eqm (7 ^ i * 7 ^ (N - i)) (0 * 7 ^ (N - i)) := h1.mul (.refl _)
      rw [← Nat.pow_add, show i + (N - i) = N by omega, Nat.zero_mul] at h2
      have h3 : Eqm 1 0 := hf.symm.trans h2
      exact absurd h3 (by unfold Eqm; decide)
    · exact h
  have key : ∀ i j, i < j → j < N → 7 ^ i % PP ≠ 7 ^ j % PP := fun i j hij hj h => by
    have h1 : Eqm (7 ^ i * 7 ^ (N - i)) (7 ^ j * 7 ^ (N - i)) := (show Eqm (7 ^ i) (7 ^ j) from h).mul (.refl _)
    rw [← Nat.pow_add, ← Nat.pow_add, show i + (N - i) = N by omega, show j + (N - i) = N + (j - i) by omega, Nat.pow_add] at h1
    have h2 : Eqm (7 ^ N * 7 ^ (j - i)) (1 * 7 ^ (j - i)) := hf.mul (.refl _)
    rw [Nat.one_mul] at h2
    exact no_order hN (show 0 < j - i by omega) (by omega) ((h2.symm.trans h1.symm).trans hf)
  obtain ⟨i, hi, he⟩ := fin_surj N (fun i => 7 ^ i % PP - 1) (fun i hi => by
    have := hpos i hi
    have := Nat.mod_lt (7 ^ i) PP_pos
    show 7 ^ i % PP - 1 < N
    omega) (fun i j hi hj e => by
    have e' : 7 ^ i % PP - 1 = 7 ^ j % PP - 1 := e
    have h1 := hpos i hi
    have h2 := hpos j hj
    rcases Nat.lt_trichotomy i j with h | h | h
    · exact absurd (show 7 ^ i % PP = 7 ^ j % PP by omega) (key i j h hj)
    · exact h
    · exact absurd (show 7 ^ j % PP = 7 ^ i % PP by omega) (key j i h hi)) (k - 1) (by omega)
  have he' : 7 ^ i % PP - 1 = k - 1 := he
  exact ⟨i, by have := hpos i hi; omega⟩
theorem PP_half : PP = PH + PH + 1 := by decide
theorem fermat {k : Nat} (h0 : 0 < k) (hk : k < PP) : k ^ (PP - 2) % PP * k % PP = 1 := by
  obtain ⟨N, hN⟩ : ∃ N, N = PH + PH := ⟨_, rfl⟩
  have hP : PP = N + 1 := by rw [hN]; exact PP_half
  have hf : Eqm (7 ^ N) 1 := by rw [hN]; exact seven_full
  obtain ⟨i, hi⟩ := seven_all hN hP h0 hk
  have h1 : Eqm (k ^ N) 1 := by
    have h2 : Eqm k (7 ^ i) := by rw [hi]; exact Eqm.mod _
    refine (h2.pow N).trans ?_
    rw [← Nat.pow_mul, Nat.mul_comm, Nat.pow_mul]
    exact (hf.pow i).trans (.of_eq (Nat.one_pow _))
  have hN1 : 1 ≤ N := by rw [hN]; decide
  have e : PP - 2 = N - 1 := by omega
  have h3 : Eqm (k ^ (PP - 2) % PP * k) (k ^ N) := by
    refine (Eqm.mul (Eqm.mod _) (.refl _)).trans (.of_eq ?_)
    rw [e, ← Nat.pow_succ, show (N - 1).succ = N by omega]
  exact h3.trans h1
end Go.Proofs.YthpgdpkemnhneaaDoor
