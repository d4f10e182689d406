/- Pieces of the proofs, together: YM, YRed, YChk, YOps, YRef, YRow, YPow. -/
import Derived.Laws.CopyOwn
import Derived.Test.YthpgdpkemnhneaaDoorP1
import Derived.Test.YthpgdpkemnhneaaDoorP3
import Derived.Test.YthpgdpkemnhneaaDoorP6
import Derived.Test.YthpgdpkemnhneaaDoorP11

namespace Go.Proofs.YthpgdpkemnhneaaDoor
set_option linter.unusedVariables false
set_option linter.unusedSimpArgs false

/-- the prime -/
def PP : Nat := 18446744069414584321
theorem PP_pos : 0 < PP := by decide
theorem PP_lt : PP < B64 := by decide

/-- two words modulo P, as the program reckons -/
theorem reduce_eq {hi lo h1 h0 z0 br z1 z2 c : Nat} (hh : hi = h1 * 4294967296 + h0) (h0' : h0 ≤ 4294967295) (h1' : h1 ≤ 4294967295) (hlo : lo < B64)
    (e0 : lo + br * B64 = z0 + h1) (hz0 : z0 < B64) (hbr : br ≤ 1) (e1 : z0 = z1 + br * 4294967295) (e2 : z1 + h0 * 4294967295 = z2 + c * B64) (hz2 : z2 < B64) (hc : c ≤ 1) :
    z2 + c * 4294967295 < B64 ∧ (hi * B64 + lo) % PP = (if PP ≤ z2 + c * 4294967295 then z2 + c * 4294967295 - PP else z2 + c * 4294967295) := by
  have hB : B64 = 18446744073709551616 := rfl
  have hP : PP = 18446744069414584321 := rfl
  simp only [hB] at hlo e0 hz0 e2 hz2 ⊢
  have h3 : z2 + c * 4294967295 < 18446744073709551616 := by omega
  refine ⟨h3, ?_⟩
  obtain ⟨z3, hz3⟩ : ∃ z3, z3 = z2 + c * 4294967295 := ⟨_, rfl⟩
  rw [← hz3] at h3 ⊢
  have h4 : hi * 18446744073709551616 + lo + br * PP = z3 + (h1 * 4294967297 + h0 + c) * PP := by rw [hP]; omega
  have h5 : (hi * 18446744073709551616 + lo) % PP = z3 % PP := by
    have := congrArg (· % PP) h4
    simpa [Nat.add_mul_mod_self_right] using this
  rw [h5]
  split
  · rw [Nat.mod_eq_sub_mod (by omega), Nat.mod_eq_of_lt (by omega)]
  · exact Nat.mod_eq_of_lt (by omega)

theorem mulmod_congr {a b c d m : Nat} (h1 : a % m = b % m) (h2 : c % m = d % m) : a * c % m = b * d % m := by rw [Nat.mul_mod, h1, h2, ← Nat.mul_mod]
theorem addmod_congr {a b c d m : Nat} (h1 : a % m = b % m) (h2 : c % m = d % m) : (a + c) % m = (b + d) % m := by rw [Nat.add_mod, h1, h2, ← Nat.add_mod]
theorem powmod_congr {a b m : Nat} (h : a % m = b % m) (k : Nat) : a ^ k % m = b ^ k % m := by rw [Nat.pow_mod, h, ← Nat.pow_mod]

/-- powers modulo P, reckoned by squares -/
def pm : Nat → Nat → Nat → Nat → Nat
  | 0, _, _, z => z
  | f + 1, a, k, z => if k = 0 then z else pm f (a * a % PP) (k / 2) (if k % 2 = 1 then z * a % PP else z)
theorem pm_eq : ∀ (f a k z : Nat), k < 2 ^ f → pm f a k z % PP = z * a ^ k % PP
  | 0, a, k, z, h => by
    have : k = 0 := by simpa using h
    subst this
    simp [pm]
  | f + 1, a, k, z, h => by
    unfold pm
    split
    next h0 => subst h0; simp
    next h0 =>
      rw [pm_eq f _ _ _ (by rw [Nat.pow_succ] at h; omega)]
      have hk : k = 2 * (k / 2) + k % 2 := by omega
      have h1 : (a * a % PP) ^ (k / 2) % PP = a ^ (2 * (k / 2)) % PP := by
        rw [powmod_congr (Nat.mod_mod _ _), Nat.pow_mul, Nat.pow_two]
      split
      next h2 =>
        conv => rhs; rw [hk, h2, Nat.pow_succ]
        rw [show z * (a ^ (2 * (k / 2)) * a) = (z * a) * a ^ (2 * (k / 2)) by rw [Nat.mul_assoc, Nat.mul_comm a]]
        exact mulmod_congr (Nat.mod_mod _ _) h1
      next h2 =>
        have h3 : k % 2 = 0 := by omega
        conv => rhs; rw [hk, h3, Nat.add_zero]
        exact mulmod_congr rfl h1

/-- 7 to the power of half of P - 1 is -1 -/
def PH : Nat := 9223372034707292160
theorem seven_half : 7 ^ PH % PP = PP - 1 := by
  have := pm_eq 64 7 PH 1 (by decide)
  rw [Nat.one_mul] at this
  rw [← this]
  decide +kernel
theorem two_full : 2 ^ 192 % PP = 1 := by decide +kernel

/-- minus one -/
theorem m1_sq : (PP - 1) * (PP - 1) % PP = 1 := by decide +kernel
theorem seven_full : 7 ^ (PH + PH) % PP = 1 := by
  rw [Nat.pow_add, Nat.mul_mod, seven_half]
  exact m1_sq
theorem rt_ex : ∃ f : Nat → Nat, ∀ k, f k = 7 ^ ((PH + PH) / 2 ^ k) % PP := ⟨_, fun _ => rfl⟩
/-- w(n) for n = 2^k -/
noncomputable def rt : Nat → Nat := Classical.choose rt_ex
theorem rt_def (k : Nat) : rt k = 7 ^ ((PH + PH) / 2 ^ k) % PP := Classical.choose_spec rt_ex k
/-- the same modulo P -/
def Eqm (x y : Nat) : Prop := x % PP = y % PP
theorem Eqm.refl (x : Nat) : Eqm x x := rfl
theorem Eqm.symm {x y : Nat} (h : Eqm x y) : Eqm y x := Eq.symm h
theorem Eqm.trans {x y z : Nat} (h : Eqm x y) (k : Eqm y z) : Eqm x z := Eq.trans h k
theorem Eqm.of_eq {x y : Nat} (h : x = y) : Eqm x y := by rw [h]; exact .refl _
theorem Eqm.add {a b c d : Nat} (h : Eqm a b) (k : Eqm c d) : Eqm (a + c) (b + d) := addmod_congr h k
theorem Eqm.mul {a b c d : Nat} (h : Eqm a b) (k : Eqm c d) : Eqm (a * c) (b * d) := mulmod_congr h k
theorem Eqm.pow {a b : Nat} (h : Eqm a b) (k : Nat) : Eqm (a ^ k) (b ^ k) := powmod_congr h k
theorem Eqm.mod (x : Nat) : Eqm (x % PP) x := Nat.mod_mod _ _
theorem Eqm.eq {x y : Nat} (h : Eqm x y) (hx : x < PP) (hy : y < PP) : x = y := by
  unfold Eqm at h
  rwa [Nat.mod_eq_of_lt hx, Nat.mod_eq_of_lt hy] at h
theorem Eqm.cancel {a b c : Nat} (h : Eqm (a + c) (b + c)) : Eqm a b := by
  have h1 : Eqm (a + c + (PP - c % PP)) (b + c + (PP - c % PP)) := h.add (.refl _)
  have h2 : ∀ x : Nat, Eqm (x + c + (PP - c % PP)) x := fun x => by
    have e1 := Nat.div_add_mod c PP
    have e2 := Nat.mod_lt c PP_pos
    have e3 : x + c + (PP - c % PP) = x + PP * (c / PP + 1) := by rw [Nat.mul_add]; omega
    unfold Eqm
    rw [e3, Nat.add_mul_mod_self_left]
  exact (h2 a).symm.trans (h1.trans (h2 b))

/-- the sum of f i over i below n -/
def Sm : Nat → (Nat → Nat) → Nat
  | 0, _ => 0
  | n + 1, f => Sm n f + f n
theorem Sm_congr : ∀ {n : Nat} {f g : Nat → Nat}, (∀ i, i < n → f i = g i) → Sm n f = Sm n g
  | 0, _, _, _ => rfl
  | n + 1, f, g, h => by
    show Sm n f + f n = Sm n g + g n
    rw [Sm_congr fun i hi => h i (by omega), h n (by omega)]
theorem Sm_eqm : ∀ {n : Nat} {f g : Nat → Nat}, (∀ i, i < n → Eqm (f i) (g i)) → Eqm (Sm n f) (Sm n g)
  | 0, _, _, _ => .refl _
  | n + 1, _, _, h => (Sm_eqm fun i hi => h i (by omega)).add (h n (by omega))
theorem Sm_add (n : Nat) (f g : Nat → Nat) : Sm n (fun i => f i + g i) = Sm n f + Sm n g := by
  induction n with
  | zero => rfl
  | succ n ih => simp only [Sm, ih]; omega
theorem Sm_mul (n c : Nat) (f : Nat → Nat) : Sm n (fun i => c * f i) = c * Sm n f := by
  induction n with
  | zero => rfl
  | succ n ih => simp only [Sm, ih, Nat.mul_add]
theorem Sm_mulr (n c : Nat) (f : Nat → Nat) : Sm n (fun i => f i * c) = Sm n f * c := by
  induction n with
  | zero => simp [Sm]
  | succ n ih => simp only [Sm, ih, Nat.add_mul]
theorem Sm_zero : ∀ (n : Nat), Sm n (fun _ => 0) = 0
  | 0 => rfl
  | n + 1 => by simp only [Sm, Sm_zero n]
theorem Sm_swap (n m : Nat) (f : Nat → Nat → Nat) : Sm n (fun i => Sm m (fun j => f i j)) = Sm m (fun j => Sm n (fun i => f i j)) := by
  induction n with
  | zero => simp only [Sm, Sm_zero]
  | succ n ih => simp only [Sm, ih, Sm_add]
theorem Sm_two (n : Nat) (f : Nat → Nat) : Sm (2 * n) f = Sm n (fun i => f (2 * i)) + Sm n (fun i => f (2 * i + 1)) := by
  induction n with
  | zero => rfl
  | succ n ih =>
    rw [show 2 * (n + 1) = 2 * n + 1 + 1 by omega]
    simp only [Sm, ih]
    omega
theorem Sm_split (n m : Nat) (f : Nat → Nat) : Sm (n + m) f = Sm n f + Sm m (fun i => f (n + i)) := by
  induction m with
  | zero => rfl
  | succ m ih => rw [← Nat.add_assoc]; simp only [Sm, ih]; omega
/-- a sum of which one element alone counts -/
theorem Sm_pick {n k : Nat} (hk : k < n) (f : Nat → Nat) : Sm n (fun i => if i = k then f i else 0) = f k := by
  induction n with
  | zero => omega
  | succ n ih =>
    simp only [Sm]
    rcases Nat.lt_or_ge k n with h | h
    · rw [ih h, if_neg (by omega), Nat.add_zero]
    · obtain rfl : k = n := by omega
      rw [if_pos rfl, Sm_congr (g := fun _ => 0) (fun i hi => if_neg (by omega)), Sm_zero, Nat.zero_add]

theorem rt_sq (k : Nat) (hk : k < 32) : Eqm (rt (k + 1) * rt (k + 1)) (rt k) := by
  rw [rt_def, rt_def]
  refine ((Eqm.mod _).mul (Eqm.mod _)).trans (.trans (.of_eq ?_) (Eqm.mod _).symm)
  rw [← Nat.pow_add]
  have : (PH + PH) = 4294967295 * 2 ^ 32 := by decide
  have h1 : (PH + PH) / 2 ^ (k + 1) = 4294967295 * 2 ^ (31 - k) := by
    rw [this, show 2 ^ 32 = 2 ^ (k + 1) * 2 ^ (31 - k) by rw [← Nat.pow_add]; congr 1; omega, Nat.mul_left_comm, Nat.mul_div_cancel_left _ (Nat.pow_pos (by decide))]
  have h2 : (PH + PH) / 2 ^ k = 4294967295 * 2 ^ (31 - k) + 4294967295 * 2 ^ (31 - k) := by
    rw [this, show 2 ^ 32 = 2 ^ k * (2 ^ (31 - k) * 2) by rw [← Nat.pow_succ, ← Nat.pow_add]; congr 1; omega, Nat.mul_left_comm, Nat.mul_div_cancel_left _ (Nat.pow_pos (by decide))]
    omega
  rw [h1, h2]
theorem rt_zero : Eqm (rt 0) 1 := by
  rw [rt_def, Nat.pow_zero, Nat.div_one, seven_full]
  exact .refl _
theorem rt_one : Eqm (rt 1) (PP - 1) := by
  rw [rt_def, Nat.pow_one, show (PH + PH) / 2 = PH from by decide, seven_half]
  exact .refl _
/-- w(2^k), squared so often, is a root of less -/
theorem rt_pow (s : Nat) : ∀ (d : Nat), s + d ≤ 32 → Eqm (rt (s + d) ^ 2 ^ d) (rt s)
  | 0, _ => .of_eq (by simp)
  | d + 1, h => by
    rw [Nat.pow_succ, Nat.mul_comm, Nat.pow_mul, Nat.pow_two]
    exact ((rt_sq (s + d) (by omega)).pow _).trans (rt_pow s d (by omega))
theorem rt_full (s : Nat) (h : s ≤ 32) : Eqm (rt s ^ 2 ^ s) 1 := by
  have := rt_pow 0 s (by omega)
  rw [Nat.zero_add] at this
  exact this.trans rt_zero
theorem rt_half (s : Nat) (h : s < 32) : Eqm (rt (s + 1) ^ 2 ^ s) (PP - 1) := by
  have := rt_pow 1 s (by omega)
  rw [Nat.add_comm] at this
  exact this.trans rt_one
theorem rt_lt (s : Nat) : rt s < PP := by rw [rt_def]; exact Nat.mod_lt _ PP_pos

/-- the transform of the list a of n elements by w -/
def Tr (n w : Nat) (a : Nat → Nat) (k : Nat) : Nat := Sm n (fun j => a j * w ^ (j * k)) % PP
theorem Tr_lt (n w : Nat) (a : Nat → Nat) (k : Nat) : Tr n w a k < PP := Nat.mod_lt _ PP_pos
theorem Tr_congr {n w : Nat} {a b : Nat → Nat} (h : ∀ i, i < n → Eqm (a i) (b i)) (k : Nat) : Tr n w a k = Tr n w b k :=
  Sm_eqm fun i hi => (h i hi).mul (.refl _)
theorem Tr_two {h w u : Nat} (hu : Eqm (w * w) u) (a : Nat → Nat) (k : Nat) :
    Eqm (Tr (2 * h) w a k) (Tr h u (fun i => a (2 * i)) k + w ^ k * Tr h u (fun i => a (2 * i + 1)) k) := by
  unfold Tr
  refine (Eqm.mod _).trans ?_
  rw [Sm_two]
  refine Eqm.add (.trans ?_ (Eqm.mod _).symm) (.trans ?_ (Eqm.mul (.refl _) (Eqm.mod _).symm))
  · refine Sm_eqm fun i _ => Eqm.mul (.refl _) ?_
    rw [show 2 * i * k = 2 * (i * k) by rw [Nat.mul_assoc], Nat.pow_mul, Nat.pow_two]
    exact hu.pow _
  · rw [← Sm_mul]
    refine Sm_eqm fun i _ => ?_
    rw [show (2 * i + 1) * k = k + 2 * (i * k) by rw [Nat.add_mul, Nat.mul_assoc]; omega, Nat.pow_add, Nat.pow_mul w 2, Nat.pow_two, Nat.mul_left_comm]
    exact Eqm.mul (.refl _) (Eqm.mul (.refl _) (hu.pow _))
theorem Tr_round {h u : Nat} (hu : Eqm (u ^ h) 1) (a : Nat → Nat) (k : Nat) : Tr h u a (k + h) = Tr h u a k := by
  unfold Tr
  refine Sm_eqm fun i _ => Eqm.mul (.refl _) ?_
  rw [Nat.mul_add, Nat.pow_add, Nat.mul_comm i h, Nat.pow_mul u h]
  refine .trans (Eqm.mul (.refl _) (hu.pow i)) (.of_eq ?_)
  simp
theorem Tr_high {h w u : Nat} (hu : Eqm (w * w) u) (h1 : Eqm (u ^ h) 1) (h2 : Eqm (w ^ h) (PP - 1)) (a : Nat → Nat) (k : Nat) :
    Eqm (Tr (2 * h) w a (k + h) + w ^ k * Tr h u (fun i => a (2 * i + 1)) k) (Tr h u (fun i => a (2 * i)) k) := by
  have h3 := Tr_two (h := h) hu a (k + h)
  rw [Tr_round h1, Tr_round h1] at h3
  refine (h3.add (.refl _)).trans ?_
  rw [Nat.add_assoc, ← Nat.add_mul]
  have h4 : Eqm (w ^ (k + h) + w ^ k) 0 := by
    rw [Nat.pow_add]
    have e1 : Eqm (w ^ k * w ^ h + w ^ k) (w ^ k * (PP - 1) + w ^ k * 1) := (Eqm.mul (.refl _) h2).add (.of_eq (Nat.mul_one _).symm)
    refine e1.trans ?_
    rw [← Nat.mul_add, show PP - 1 + 1 = PP from rfl]
    unfold Eqm
    simp
  exact (Eqm.add (.refl _) (Eqm.mul h4 (.refl _))).trans (.of_eq (by simp))

/-- the sum of all powers of a root -/
theorem geo (d : Nat) : ∀ (s : Nat), s ≤ 32 → Eqm (Sm (2 ^ s) (fun k => rt s ^ (k * d))) (if d % 2 ^ s = 0 then 2 ^ s else 0)
  | 0, _ => by
    rw [if_pos (Nat.mod_one d)]
    exact .of_eq (by simp [Sm])
  | s + 1, hs => by
    have ih := geo d s (by omega)
    have hsq := rt_sq s (by omega)
    have e1 : Eqm (Sm (2 ^ (s + 1)) (fun k => rt (s + 1) ^ (k * d))) ((1 + rt (s + 1) ^ d) * (if d % 2 ^ s = 0 then 2 ^ s else 0)) := by
      rw [Nat.pow_succ, Nat.mul_comm (2 ^ s), Sm_two, Nat.add_mul, Nat.one_mul]
      have e2 : Eqm (Sm (2 ^ s) (fun k => rt (s + 1) ^ (2 * k * d))) (Sm (2 ^ s) (fun k => rt s ^ (k * d))) := Sm_eqm fun i _ => by
        rw [Nat.mul_assoc, Nat.pow_mul, Nat.pow_two]
        exact hsq.pow _
      refine (e2.trans ih).add ?_
      refine .trans ?_ (Eqm.mul (.refl _) ih)
      rw [← Sm_mul]
      refine Sm_eqm fun i _ => ?_
      rw [Nat.add_mul, Nat.one_mul, Nat.pow_add, Nat.mul_comm, Nat.mul_assoc 2, Nat.pow_mul _ 2, Nat.pow_two]
      exact Eqm.mul (.refl _) (hsq.pow _)
    refine e1.trans ?_
    by_cases h1 : d % 2 ^ s = 0
    · rw [if_pos h1]
      obtain ⟨q, hq⟩ : ∃ q, d = 2 ^ s * q := ⟨d / 2 ^ s, by have := Nat.div_add_mod d (2 ^ s); omega⟩
      have hp : 0 < 2 ^ s := Nat.pow_pos (by decide)
      have e3 : Eqm (rt (s + 1) ^ d) ((PP - 1) ^ q) := by
        rw [hq, Nat.pow_mul]
        exact (rt_half s (by omega)).pow _
      have e4 : Eqm ((PP - 1) ^ 2) 1 := by rw [Nat.pow_two]; exact m1_sq
      have e5 : d % 2 ^ (s + 1) = 2 ^ s * (q % 2) := by
        rw [hq, Nat.pow_succ, Nat.mul_mod_mul_left]
      rcases Nat.mod_two_eq_zero_or_one q with h2 | h2
      · rw [e5, h2, Nat.mul_zero, if_pos rfl, Nat.pow_succ, Nat.mul_comm (2 ^ s)]
        refine Eqm.mul ?_ (.refl _)
        have e6 : Eqm ((PP - 1) ^ q) 1 := by
          rw [show q = 2 * (q / 2) by omega, Nat.pow_mul]
          exact (e4.pow _).trans (.of_eq (Nat.one_pow _))
        exact Eqm.add (.refl 1) (e3.trans e6)
      · rw [e5, h2, Nat.mul_one, if_neg (by omega)]
        have e6 : Eqm ((PP - 1) ^ q) (PP - 1) := by
          rw [show q = 2 * (q / 2) + 1 by omega, Nat.pow_succ, Nat.pow_mul]
          exact (Eqm.mul ((e4.pow _).trans (.of_eq (Nat.one_pow _))) (.refl _)).trans (.of_eq (Nat.one_mul _))
        have e7 : Eqm (1 + rt (s + 1) ^ d) 0 := (Eqm.add (.refl 1) (e3.trans e6)).trans (by unfold Eqm; decide)
        exact (Eqm.mul e7 (.refl _)).trans (.of_eq (Nat.zero_mul _))
    · rw [if_neg h1, Nat.mul_zero, if_neg]
      · exact .refl _
      · intro h2
        apply h1
        have : 2 ^ s ∣ d := Nat.dvd_trans ⟨2, Nat.pow_succ ..⟩ (Nat.dvd_of_mod_eq_zero h2)
        exact Nat.mod_eq_zero_of_dvd this
/-- the transform of a transform is n times the list, read backwards -/
theorem Tr_Tr (s : Nat) (hs : s ≤ 32) (a : Nat → Nat) (m : Nat) (hm : m < 2 ^ s) : Eqm (Tr (2 ^ s) (rt s) (Tr (2 ^ s) (rt s) a) m) (2 ^ s * a ((2 ^ s - m) % 2 ^ s)) := by
  have hp : 0 < 2 ^ s := Nat.pow_pos (by decide)
  unfold Tr
  refine (Eqm.mod _).trans ?_
  refine (Sm_eqm (g := fun k => Sm (2 ^ s) (fun j => a j * rt s ^ (k * (j + m)))) fun k _ => ?_).trans ?_
  · refine (Eqm.mul (Eqm.mod _) (.refl _)).trans (.of_eq ?_)
    rw [← Sm_mulr]
    refine Sm_congr fun j _ => ?_
    rw [Nat.mul_assoc, ← Nat.pow_add, Nat.mul_add, Nat.mul_comm k j]
  · rw [Sm_swap]
    refine (Sm_eqm (g := fun j => if j = (2 ^ s - m) % 2 ^ s then a j * 2 ^ s else 0) fun j hj => ?_).trans (.of_eq ?_)
    · rw [Sm_mul]
      refine (Eqm.mul (.refl _) (geo (j + m) s hs)).trans (.of_eq ?_)
      have e : (j + m) % 2 ^ s = 0 ↔ j = (2 ^ s - m) % 2 ^ s := by
        rcases Nat.eq_zero_or_pos m with h0 | h0
        · subst h0
          rw [Nat.add_zero, Nat.sub_zero, Nat.mod_self, Nat.mod_eq_of_lt hj]
        · rw [Nat.mod_eq_of_lt (show 2 ^ s - m < 2 ^ s by omega)]
          constructor
          · intro h
            rcases Nat.lt_or_ge (j + m) (2 ^ s) with h1 | h1
            · rw [Nat.mod_eq_of_lt h1] at h; omega
            · rw [Nat.mod_eq_sub_mod h1, Nat.mod_eq_of_lt (by omega)] at h; omega
          · intro h
            rw [show j + m = 2 ^ s by omega, Nat.mod_self]
      by_cases h : j = (2 ^ s - m) % 2 ^ s
      · rw [if_pos h, if_pos (e.2 h)]
      · rw [if_neg h, if_neg (fun h1 => h (e.1 h1)), Nat.mul_zero]
    · rw [Sm_pick (Nat.mod_lt _ hp) (fun j => a j * 2 ^ s), Nat.mul_comm]
/-- the list a of 2^s elements in turned order -/
def rv : Nat → (Nat → Nat) → Nat → Nat
  | 0, a, _ => a 0
  | s + 1, a, i => if i < 2 ^ s then rv s (fun j => a (2 * j)) i else rv s (fun j => a (2 * j + 1)) (i - 2 ^ s)
/-- an index with its s bits read from the other end -/
def brev : Nat → Nat → Nat
  | 0, _ => 0
  | s + 1, i => if i < 2 ^ s then 2 * brev s i else 2 * brev s (i - 2 ^ s) + 1
theorem rv_brev : ∀ (s : Nat) (a : Nat → Nat) (i : Nat), rv s a i = a (brev s i)
  | 0, _, _ => rfl
  | s + 1, a, i => by
    unfold rv brev
    split
    · exact rv_brev s _ i
    · exact rv_brev s _ (i - 2 ^ s)
theorem brev_lt : ∀ (s i : Nat), brev s i < 2 ^ s
  | 0, _ => by simp [brev]
  | s + 1, i => by
    unfold brev
    have h1 := brev_lt s i
    have h2 := brev_lt s (i - 2 ^ s)
    rw [Nat.pow_succ]
    split <;> omega
theorem brev_bit : ∀ (s i j : Nat), i < 2 ^ s → j < s → (brev s i).testBit j = i.testBit (s - 1 - j)
  | 0, _, _, _, h => by omega
  | s + 1, i, j, hi, hj => by
    unfold brev
    have hp : i.testBit s = decide (2 ^ s ≤ i) := by
      rcases Nat.lt_or_ge i (2 ^ s) with h | h
      · rw [Nat.testBit_lt_two_pow h]; simp; omega
      · rw [Nat.testBit_eq_decide_div_mod_eq]
        have : i / 2 ^ s = 1 := by
          rw [Nat.pow_succ] at hi
          have := (Nat.div_lt_iff_lt_mul (Nat.pow_pos (n := s) (show 0 < 2 by decide))).2 (show i < 2 * 2 ^ s by omega)
          have := (Nat.le_div_iff_mul_le (Nat.pow_pos (n := s) (show 0 < 2 by decide))).2 (show 1 * 2 ^ s ≤ i by omega)
          omega
        rw [this]; simp [h]
    rcases Nat.lt_or_ge i (2 ^ s) with h | h
    · rw [if_pos h]
      rcases j with _ | j
      · rw [Nat.testBit_zero, show s + 1 - 1 - 0 = s by omega, hp]
        simp; omega
      · rw [Nat.testBit_succ, show 2 * brev s i / 2 = brev s i by omega, brev_bit s i j h (by omega)]
        congr 1; omega
    · rw [if_neg (by omega)]
      have hi' : i - 2 ^ s < 2 ^ s := by rw [Nat.pow_succ] at hi; omega
      rcases j with _ | j
      · rw [Nat.testBit_zero, show s + 1 - 1 - 0 = s by omega, hp]
        simp [h]
      · rw [Nat.testBit_succ, show (2 * brev s (i - 2 ^ s) + 1) / 2 = brev s (i - 2 ^ s) by omega, brev_bit s _ j hi' (by omega)]
        have h5 : i.testBit (s - 1 - j) = (i - 2 ^ s).testBit (s - 1 - j) := by
          conv => lhs; rw [show i = 2 ^ s + (i - 2 ^ s) by omega]
          exact Nat.testBit_two_pow_add_gt (by omega) _
        rw [show s + 1 - 1 - (j + 1) = s - 1 - j by omega, h5]

/-- the round product -/
def Cv (n : Nat) (a b : Nat → Nat) (m : Nat) : Nat := Sm n fun i => Sm n fun j => if m = (i + j) % n then a i * b j else 0
theorem Cv_eqm {n : Nat} {a b a' b' : Nat → Nat} (ha : ∀ i, i < n → Eqm (a i) (a' i)) (hb : ∀ i, i < n → Eqm (b i) (b' i)) (m : Nat) : Eqm (Cv n a b m) (Cv n a' b' m) :=
  Sm_eqm fun i hi => Sm_eqm fun j hj => by
    split
    · exact (ha i hi).mul (hb j hj)
    · exact .refl _
theorem Tr_mul {n w : Nat} (hn : 0 < n) (hw : Eqm (w ^ n) 1) (a b : Nat → Nat) (k : Nat) : Eqm (Tr n w a k * Tr n w b k) (Tr n w (Cv n a b) k) := by
  unfold Tr Cv
  refine (Eqm.mul (Eqm.mod _) (Eqm.mod _)).trans (.trans ?_ (Eqm.mod _).symm)
  have e1 : Sm n (fun j => a j * w ^ (j * k)) * Sm n (fun j => b j * w ^ (j * k)) = Sm n (fun i => Sm n (fun j => a i * b j * w ^ ((i + j) * k))) := by
    rw [← Sm_mulr]
    refine Sm_congr fun i _ => ?_
    rw [← Sm_mul]
    refine Sm_congr fun j _ => ?_
    rw [Nat.add_mul, Nat.pow_add]
    ac_rfl
  have e2 : Sm n (fun m => Sm n (fun i => Sm n (fun j => if m = (i + j) % n then a i * b j else 0)) * w ^ (m * k)) = Sm n (fun i => Sm n (fun j => a i * b j * w ^ ((i + j) % n * k))) := by
    rw [Sm_congr (g := fun m => Sm n (fun i => Sm n (fun j => if m = (i + j) % n then a i * b j * w ^ (m * k) else 0))) fun m _ => ?_]
    · rw [Sm_swap]
      refine Sm_congr fun i _ => ?_
      rw [Sm_swap]
      refine Sm_congr fun j _ => ?_
      exact Sm_pick (Nat.mod_lt _ hn) (fun m => a i * b j * w ^ (m * k))
    · rw [← Sm_mulr]
      refine Sm_congr fun i _ => ?_
      rw [← Sm_mulr]
      refine Sm_congr fun j _ => ?_
      split
      · rfl
      · exact Nat.zero_mul _
  rw [e1, e2]
  refine Sm_eqm fun i _ => Sm_eqm fun j _ => Eqm.mul (.refl _) ?_
  conv => lhs; rw [show (i + j) = n * ((i + j) / n) + (i + j) % n from (Nat.div_add_mod _ _).symm]
  rw [Nat.add_mul, Nat.pow_add, Nat.mul_assoc, Nat.pow_mul]
  refine (Eqm.mul (hw.pow _) (.refl _)).trans (.of_eq ?_)
  rw [Nat.one_pow, Nat.one_mul]

/-- an inverse -/
theorem inv_192 (g : Nat) (h : Eqm (g ^ 192) 1) (s : Nat) : Eqm (g ^ s * (g ^ s) ^ (PP - 2)) 1 := by
  rw [← Nat.pow_succ', ← Nat.pow_mul, Nat.mul_comm, Nat.pow_mul]
  obtain ⟨e, he⟩ : ∃ e, PP - 2 + 1 = 192 * e := ⟨(PP - 2 + 1) / 192, by decide⟩
  have h1 : Eqm (g ^ (PP - 2 + 1)) 1 := by
    rw [he, Nat.pow_mul]
    exact (h.pow e).trans (.of_eq (Nat.one_pow _))
  exact (h1.pow s).trans (.of_eq (Nat.one_pow _))
theorem two_inv (s : Nat) : Eqm (2 ^ s * (2 ^ s) ^ (PP - 2)) 1 := inv_192 2 two_full s
theorem rt_inv (s : Nat) (hs : s ≤ 32) : Eqm (rt s * rt s ^ (PP - 2)) 1 := by
  rw [← Nat.pow_succ']
  obtain ⟨e, he⟩ : ∃ e, PP - 2 + 1 = 2 ^ s * e := ⟨(PP - 2 + 1) / 2 ^ s, by
    have h1 : PP - 2 + 1 = 2 ^ 32 * 4294967295 := by decide
    rw [h1, show 2 ^ 32 = 2 ^ s * 2 ^ (32 - s) by rw [← Nat.pow_add]; congr 1; omega, Nat.mul_assoc, Nat.mul_div_cancel_left _ (Nat.pow_pos (by decide))]⟩
  show Eqm (rt s ^ (PP - 2 + 1)) 1
  rw [he, Nat.pow_mul]
  exact ((rt_full s hs).pow e).trans (.of_eq (Nat.one_pow _))

/-- the round product out of the transforms -/
theorem round_back (s : Nat) (hs : s ≤ 32) (a b c : Nat → Nat) (hc : ∀ k, k < 2 ^ s → Eqm (c k) (Tr (2 ^ s) (rt s) a k * Tr (2 ^ s) (rt s) b k)) (k : Nat) (hk : k < 2 ^ s) :
    Eqm (Tr (2 ^ s) (rt s) c ((2 ^ s - k) % 2 ^ s) * (2 ^ s) ^ (PP - 2)) (Cv (2 ^ s) a b k) := by
  have hp : 0 < 2 ^ s := Nat.pow_pos (by decide)
  have hw := rt_full s hs
  rw [Tr_congr (b := Tr (2 ^ s) (rt s) (Cv (2 ^ s) a b)) fun i hi => (hc i hi).trans (Tr_mul hp hw a b i)]
  have e1 : (2 ^ s - (2 ^ s - k) % 2 ^ s) % 2 ^ s = k := by
    rcases Nat.eq_zero_or_pos k with h0 | h0
    · subst h0; simp
    · rw [Nat.mod_eq_of_lt (show 2 ^ s - k < 2 ^ s by omega), show 2 ^ s - (2 ^ s - k) = k by omega, Nat.mod_eq_of_lt hk]
  have h1 := Tr_Tr s hs (Cv (2 ^ s) a b) ((2 ^ s - k) % 2 ^ s) (Nat.mod_lt _ hp)
  rw [e1] at h1
  refine (h1.mul (.refl _)).trans ?_
  rw [Nat.mul_comm (2 ^ s), Nat.mul_assoc]
  exact (Eqm.mul (.refl _) (two_inv s)).trans (.of_eq (Nat.mul_one _))
/-- the same for one list, transformed -/
theorem back_tr (s : Nat) (hs : s ≤ 32) (a : Nat → Nat) (k : Nat) (hk : k < 2 ^ s) :
    Eqm (Tr (2 ^ s) (rt s) (Tr (2 ^ s) (rt s) a) ((2 ^ s - k) % 2 ^ s) * (2 ^ s) ^ (PP - 2)) (a k) := by
  have hp : 0 < 2 ^ s := Nat.pow_pos (by decide)
  have e1 : (2 ^ s - (2 ^ s - k) % 2 ^ s) % 2 ^ s = k := by
    rcases Nat.eq_zero_or_pos k with h0 | h0
    · subst h0; simp
    · rw [Nat.mod_eq_of_lt (show 2 ^ s - k < 2 ^ s by omega), show 2 ^ s - (2 ^ s - k) = k by omega, Nat.mod_eq_of_lt hk]
  have h1 := Tr_Tr s hs a ((2 ^ s - k) % 2 ^ s) (Nat.mod_lt _ hp)
  rw [e1] at h1
  refine (h1.mul (.refl _)).trans ?_
  rw [Nat.mul_comm (2 ^ s), Nat.mul_assoc]
  exact (Eqm.mul (.refl _) (two_inv s)).trans (.of_eq (Nat.mul_one _))

/-- the part of a long product at m: the sum of a i * b j over all i below k, j below l with i + j = m -/
def Lc (k l : Nat) (a b : Nat → Nat) (m : Nat) : Nat := Sm k fun i => Sm l fun j => if m = i + j then a i * b j else 0
/-- a round product is the long one with what is beyond added to the beginning -/
theorem Cv_Lc {n : Nat} (a b : Nat → Nat) {m : Nat} (hm : m < n) : Cv n a b m = Lc n n a b m + Lc n n a b (m + n) := by
  unfold Cv Lc
  rw [← Sm_add]
  refine Sm_congr fun i hi => ?_
  rw [← Sm_add]
  refine Sm_congr fun j hj => ?_
  rcases Nat.lt_or_ge (i + j) n with h | h
  · rw [Nat.mod_eq_of_lt h, if_neg (show m + n ≠ i + j by omega), Nat.add_zero]
  · rw [Nat.mod_eq_sub_mod h, Nat.mod_eq_of_lt (by omega), if_neg (show m ≠ i + j by omega), Nat.zero_add]
    by_cases h1 : m + n = i + j
    · rw [if_pos h1, if_pos (by omega)]
    · rw [if_neg h1, if_neg (by omega)]
theorem Sm_le {n n' : Nat} (h : n ≤ n') {f : Nat → Nat} (h0 : ∀ i, n ≤ i → i < n' → f i = 0) : Sm n' f = Sm n f := by
  obtain ⟨d, rfl⟩ : ∃ d, n' = n + d := ⟨n' - n, by omega⟩
  have h1 : Sm d (fun i => f (n + i)) = 0 := (Sm_congr (g := fun _ => 0) fun i hi => h0 (n + i) (by omega) (by omega)).trans (Sm_zero _)
  rw [Sm_split, h1, Nat.add_zero]
/-- a long product of padded lists -/
theorem Lc_pad {k l n : Nat} (hk : k ≤ n) (hl : l ≤ n) {a b : Nat → Nat} (ha : ∀ i, k ≤ i → a i = 0) (hb : ∀ i, l ≤ i → b i = 0) (m : Nat) : Lc n n a b m = Lc k l a b m := by
  unfold Lc
  rw [Sm_le hk]
  · refine Sm_congr fun i _ => Sm_le hl fun j hj _ => ?_
    rw [hb j hj]; simp
  · intro i hi _
    rw [Sm_congr (g := fun _ => 0) fun j _ => by rw [ha i hi]; simp, Sm_zero]
theorem Lc_far {k l : Nat} {a b : Nat → Nat} {m : Nat} (h : k + l ≤ m + 1) : Lc k l a b m = 0 := by
  unfold Lc
  rw [Sm_congr (g := fun _ => 0) fun i hi => ?_, Sm_zero]
  rw [Sm_congr (g := fun _ => 0) fun j hj => if_neg (by omega), Sm_zero]
theorem Lc_eqm {k l : Nat} {a b a' b' : Nat → Nat} (ha : ∀ i, i < k → Eqm (a i) (a' i)) (hb : ∀ i, i < l → Eqm (b i) (b' i)) (m : Nat) : Eqm (Lc k l a b m) (Lc k l a' b' m) :=
  Sm_eqm fun i hi => Sm_eqm fun j hj => by
    split
    · exact (ha i hi).mul (hb j hj)
    · exact .refl _
/-- with weights -/
theorem Lc_weigh (n v : Nat) (a b : Nat → Nat) (m : Nat) : Lc n n (fun i => a i * v ^ i) (fun i => b i * v ^ i) m = Lc n n a b m * v ^ m := by
  unfold Lc
  rw [← Sm_mulr]
  refine Sm_congr fun i _ => ?_
  rw [← Sm_mulr]
  refine Sm_congr fun j _ => ?_
  split
  · next h =>
    subst h
    show a i * v ^ i * (b j * v ^ j) = _
    rw [Nat.pow_add]; ac_rfl
  · exact (Nat.zero_mul _).symm
/-- the turned product out of a round one -/
theorem turned_back (s : Nat) (hs : s < 32) (a b : Nat → Nat) (k : Nat) (hk : k < 2 ^ s) :
    Eqm (Cv (2 ^ s) (fun i => a i * rt (s + 1) ^ i) (fun i => b i * rt (s + 1) ^ i) k * (rt (s + 1) ^ (PP - 2)) ^ k + Lc (2 ^ s) (2 ^ s) a b (k + 2 ^ s)) (Lc (2 ^ s) (2 ^ s) a b k) := by
  rw [Cv_Lc _ _ hk, Lc_weigh, Lc_weigh]
  have h1 : Eqm (rt (s + 1) ^ k * (rt (s + 1) ^ (PP - 2)) ^ k) 1 := by
    rw [← Nat.mul_pow]
    exact ((rt_inv (s + 1) (by omega)).pow k).trans (.of_eq (Nat.one_pow _))
  have h2 := rt_half s hs
  generalize rt (s + 1) = v at *
  generalize v ^ (PP - 2) = u at *
  generalize Lc (2 ^ s) (2 ^ s) a b k = X
  generalize Lc (2 ^ s) (2 ^ s) a b (k + 2 ^ s) = Y
  have e1 : (X * v ^ k + Y * v ^ (k + 2 ^ s)) * u ^ k + Y = X * (v ^ k * u ^ k) + (Y * (v ^ k * u ^ k) * v ^ 2 ^ s + Y) := by
    rw [Nat.pow_add, Nat.add_mul]
    have : Y * (v ^ k * v ^ 2 ^ s) * u ^ k = Y * (v ^ k * u ^ k) * v ^ 2 ^ s := by ac_rfl
    rw [this, Nat.mul_assoc X, Nat.add_assoc]
  rw [e1]
  refine (Eqm.add (Eqm.mul (.refl _) h1) (Eqm.add (Eqm.mul (Eqm.mul (.refl _) h1) h2) (.refl _))).trans ?_
  rw [Nat.mul_one, Nat.mul_one, show Y * (PP - 1) + Y = Y * PP by rw [← Nat.mul_succ]; rfl]
  exact (Eqm.add (.refl X) (show Eqm (Y * PP) 0 by unfold Eqm; simp)).trans (.of_eq (Nat.add_zero _))
/-- neighbouring groups of s bits change places -/
def swp (x m s : Nat) : Nat := (x >>> s &&& m) ||| ((x &&& m) <<< s)
/-- the mask of every second group of s bits -/
def Msk (m s : Nat) : Prop := 0 < s ∧ ∀ i, i < 64 → m.testBit i = decide (i / s % 2 = 0)
def fl (s i : Nat) : Nat := if i / s % 2 = 0 then i + s else i - s
theorem swp_bit {x m s : Nat} (hm : Msk m s) {i : Nat} (hi : i < 64) : (swp x m s).testBit i = x.testBit (fl s i) := by
  obtain ⟨hs, hm⟩ := hm
  unfold swp fl
  rw [Nat.testBit_or, Nat.testBit_and, Nat.testBit_shiftRight, Nat.testBit_shiftLeft, Nat.testBit_and, hm i hi, Nat.add_comm s i]
  by_cases h1 : s ≤ i
  · have h2 := Nat.div_eq_sub_div hs h1
    rw [hm (i - s) (by omega)]
    by_cases h : i / s % 2 = 0
    · have h3 : ¬ (i - s) / s % 2 = 0 := by omega
      simp [h, h3]
    · have h3 : (i - s) / s % 2 = 0 := by omega
      simp [h, h1, h3]
  · have h2 : i / s = 0 := Nat.div_eq_of_lt (by omega)
    simp [h1, h2]
theorem swp_lt {x m s : Nat} (hx : x < 2 ^ 64) (hm : m * 2 ^ s < 2 ^ 64) (hm1 : m < 2 ^ 64) : swp x m s < 2 ^ 64 := by
  unfold swp
  refine Nat.or_lt_two_pow (Nat.lt_of_le_of_lt Nat.and_le_right hm1) ?_
  rw [Nat.shiftLeft_eq]
  exact Nat.lt_of_le_of_lt (Nat.mul_le_mul_right _ Nat.and_le_right) hm
theorem msk0 : Msk 6148914691236517205 1 := ⟨by decide, by decide⟩
theorem msk1 : Msk 3689348814741910323 2 := ⟨by decide, by decide⟩
theorem msk2 : Msk 1085102592571150095 4 := ⟨by decide, by decide⟩
theorem msk3 : Msk 71777214294589695 8 := ⟨by decide, by decide⟩
theorem msk4 : Msk 281470681808895 16 := ⟨by decide, by decide⟩
theorem msk5 : Msk 4294967295 32 := ⟨by decide, by decide⟩
/-- the six steps of bits.Reverse64 -/
def rev64 (x : Nat) : Nat := swp (swp (swp (swp (swp (swp x 6148914691236517205 1) 3689348814741910323 2) 1085102592571150095 4) 71777214294589695 8) 281470681808895 16) 4294967295 32
theorem fl_lt : ∀ i, i < 64 → fl 1 i < 64 ∧ fl 2 i < 64 ∧ fl 4 i < 64 ∧ fl 8 i < 64 ∧ fl 16 i < 64 ∧ fl 32 i < 64 := by decide
theorem fl_all : ∀ i, i < 64 → fl 1 (fl 2 (fl 4 (fl 8 (fl 16 (fl 32 i))))) = 63 - i := by decide
theorem rev64_bit (x i : Nat) (hi : i < 64) : (rev64 x).testBit i = x.testBit (63 - i) := by
  unfold rev64
  have h5 := (fl_lt i hi).2.2.2.2.2
  have h4 := (fl_lt _ h5).2.2.2.2.1
  have h3 := (fl_lt _ h4).2.2.2.1
  have h2 := (fl_lt _ h3).2.2.1
  have h1 := (fl_lt _ h2).2.1
  rw [swp_bit msk5 hi, swp_bit msk4 h5, swp_bit msk3 h4, swp_bit msk2 h3, swp_bit msk1 h2, swp_bit msk0 h1]
  exact congrArg x.testBit (fl_all i hi)
theorem rev64_lt {x : Nat} (hx : x < 2 ^ 64) : rev64 x < 2 ^ 64 :=
  swp_lt (swp_lt (swp_lt (swp_lt (swp_lt (swp_lt hx (by decide) (by decide)) (by decide) (by decide)) (by decide) (by decide)) (by decide) (by decide)) (by decide) (by decide)) (by decide) (by decide)
/-- an index, reversed and shifted down -/
theorem rev64_brev {k x : Nat} (hk : k ≤ 64) (hx : x < 2 ^ k) : rev64 x / 2 ^ (64 - k) = brev k x := by
  have hx64 : x < 2 ^ 64 := Nat.lt_of_lt_of_le hx (Nat.pow_le_pow_right (by decide) hk)
  apply Nat.eq_of_testBit_eq
  intro j
  rw [← Nat.shiftRight_eq_div_pow, Nat.testBit_shiftRight]
  rcases Nat.lt_or_ge j k with h | h
  · rw [rev64_bit _ _ (by omega), brev_bit k x j hx h]
    congr 1; omega
  · rw [Nat.testBit_lt_two_pow (Nat.lt_of_lt_of_le (rev64_lt hx64) (Nat.pow_le_pow_right (by decide) (by omega))),
      Nat.testBit_lt_two_pow (Nat.lt_of_lt_of_le (brev_lt k x) (Nat.pow_le_pow_right (by decide) h))]
end Go.Proofs.YthpgdpkemnhneaaDoor

namespace Go.Proofs.YthpgdpkemnhneaaDoor
open Go.RowKit Go.Shelf
set_option linter.unusedVariables false
set_option linter.unusedSimpArgs false
set_option maxRecDepth 10000

theorem wrap_lt {n : Nat} (h : n < B64) : IntKind.u64.wrap (n : Int) = (n : Int) := wrap_nat n h
theorem wrap_back {z x y : Nat} (h : z = x + y) (hz : z < B64) : IntKind.u64.wrap ((z : Int) - (y : Int)) = (x : Int) := by
  rw [show ((z : Int) - (y : Int)) = ((x : Nat) : Int) by omega]
  exact wrap_nat x (by omega)

/-- what Reduce reckons -/
theorem red_plan (hi lo : Nat) (hh : hi < B64) (hl : lo < B64) : ∃ h1 z0 br e1 z1 t z2 c e2 z3 r : Nat,
    (h1 < B64 ∧ (hi : Int) / 4294967296 = (h1 : Int)) ∧
    (∀ w, (callFunc 112 #[.int .u64 lo, .int .u64 h1, .int .u64 0]).run Tryd.prog w = .ok (.value (.tuple #[.int .u64 (z0 : Int), .int .u64 (br : Int)])) w) ∧
    IntKind.u64.wrap ((br : Int) * 4294967295) = (e1 : Int) ∧ IntKind.u64.wrap ((z0 : Int) - (e1 : Int)) = (z1 : Int) ∧
    IntKind.u64.wrap (IntKind.u64.wrap ((hi : Int) * 4294967296) / 4294967296 * 4294967295) = (t : Int) ∧
    (∀ w, (callFunc 88 #[.int .u64 z1, .int .u64 t, .int .u64 0]).run Tryd.prog w = .ok (.value (.tuple #[.int .u64 (z2 : Int), .int .u64 (c : Int)])) w) ∧
    IntKind.u64.wrap ((c : Int) * 4294967295) = (e2 : Int) ∧ IntKind.u64.wrap ((z2 : Int) + (e2 : Int)) = (z3 : Int) ∧
    r = (hi * B64 + lo) % PP ∧ ((18446744069414584321 ≤ (z3 : Int) ∧ IntKind.u64.wrap ((z3 : Int) - 18446744069414584321) = (r : Int)) ∨ (¬ 18446744069414584321 ≤ (z3 : Int) ∧ z3 = r)) := by
  have hB : B64 = 18446744073709551616 := rfl
  have hP : PP = 18446744069414584321 := rfl
  obtain ⟨h1, hh1⟩ : ∃ h1, h1 = hi / 4294967296 := ⟨_, rfl⟩
  obtain ⟨h0, hh0⟩ : ∃ h0, h0 = hi % 4294967296 := ⟨_, rfl⟩
  obtain ⟨z0, br, ⟨a1, a2, a3⟩, a4⟩ := sub64_zero lo h1 hl (by omega)
  obtain ⟨z1, hz1⟩ : ∃ z1, z0 = z1 + br * 4294967295 := ⟨z0 - br * 4294967295, by
    rcases Nat.le_one_iff_eq_zero_or_eq_one.1 a3 with h | h <;> subst h <;> omega⟩
  obtain ⟨t, ht⟩ : ∃ t, t = h0 * 4294967295 := ⟨_, rfl⟩
  obtain ⟨z2, c, ⟨b1, b2, b3⟩, b4⟩ := add64_zero z1 t (by omega) (by omega)
  have key := reduce_eq (hi := hi) (lo := lo) (h1 := h1) (h0 := h0) (z0 := z0) (br := br) (z1 := z1) (z2 := z2) (c := c) (by omega) (by omega) (by omega) hl (by omega) a2 a3 hz1 (by omega) b2 b3
  obtain ⟨k1, k2⟩ := key
  obtain ⟨z3, hz3⟩ : ∃ z3, z3 = z2 + c * 4294967295 := ⟨_, rfl⟩
  rw [← hz3] at k1 k2
  obtain ⟨r, hr⟩ : ∃ r, r = (hi * B64 + lo) % PP := ⟨_, rfl⟩
  rw [← hr] at k2
  refine ⟨h1, z0, br, br * 4294967295, z1, t, z2, c, c * 4294967295, z3, r, ⟨by omega, by omega⟩, a4, ?_, wrap_back hz1 a2, ?_, b4, ?_, ?_, hr, ?_⟩
  · rw [show ((br : Int) * 4294967295) = ((br * 4294967295 : Nat) : Int) by omega]
    exact wrap_lt (by omega)
  · rw [show IntKind.u64.wrap ((hi : Int) * 4294967296) / 4294967296 * 4294967295 = ((t : Nat) : Int) by simp only [IntKind.wrap_u64]; omega]
    exact wrap_lt (by omega)
  · rw [show ((c : Int) * 4294967295) = ((c * 4294967295 : Nat) : Int) by omega]
    exact wrap_lt (by omega)
  · rw [show ((z2 : Int) + ((c * 4294967295 : Nat) : Int)) = ((z3 : Nat) : Int) by omega]
    exact wrap_lt k1
  · rw [hP] at k2
    split at k2
    · left
      refine ⟨by omega, ?_⟩
      rw [show ((z3 : Int) - 18446744069414584321) = ((r : Nat) : Int) by omega]
      exact wrap_lt (by omega)
    · right
      exact ⟨by omega, by omega⟩

theorem Reduce_ok (hi lo : Nat) (w : World) (hh : hi < B64) (hl : lo < B64) :
    Calls Tryd.prog 95 #[.int .u64 hi, .int .u64 lo] w fun e w' => e = .returned (.int .u64 (((hi * B64 + lo) % PP : Nat) : Int)) ∧ w = w' := by
  obtain ⟨h1, z0, br, e1, z1, t, z2, c, e2, z3, r, ⟨-, p1⟩, p2, p3, p4, p5, p6, p7, p8, hr, p9⟩ := red_plan hi lo hh hl
  rw [← hr]
  clear hr hh hl
  rcases p9 with ⟨p9, p10⟩ | ⟨p9, rfl⟩
  · go_enter Tryd.func95, Tryd.ntmps95
    go_wp2_with (fail)
    go_ret
    exact ⟨rfl, rfl⟩
  · go_enter Tryd.func95, Tryd.ntmps95
    go_wp2_with (fail)
    go_ret
    exact ⟨rfl, rfl⟩

/-- what plus reckons -/
theorem plus_plan (x y : Nat) (hx : x < PP) (hy : y < PP) : ∃ s c r : Nat, r = (x + y) % PP ∧
    (∀ w, (callFunc 88 #[.int .u64 x, .int .u64 y, .int .u64 0]).run Tryd.prog w = .ok (.value (.tuple #[.int .u64 (s : Int), .int .u64 (c : Int)])) w) ∧
    ((c = 1 ∧ IntKind.u64.wrap ((s : Int) - 18446744069414584321) = (r : Int)) ∨ (c = 0 ∧ 18446744069414584321 ≤ (s : Int) ∧ IntKind.u64.wrap ((s : Int) - 18446744069414584321) = (r : Int)) ∨ (c = 0 ∧ ¬ 18446744069414584321 ≤ (s : Int) ∧ s = r)) := by
  have hB : B64 = 18446744073709551616 := rfl
  have hP : PP = 18446744069414584321 := rfl
  obtain ⟨s, c, ⟨a1, a2, a3⟩, a4⟩ := add64_zero x y (by omega) (by omega)
  refine ⟨s, c, (x + y) % PP, rfl, a4, ?_⟩
  rcases Nat.lt_or_ge (x + y) PP with h | h
  · right; right
    rw [Nat.mod_eq_of_lt h]
    rcases Nat.le_one_iff_eq_zero_or_eq_one.1 a3 with h1 | h1 <;> subst h1 <;> omega
  · have e : (x + y) % PP = x + y - PP := by rw [Nat.mod_eq_sub_mod h, Nat.mod_eq_of_lt (by omega)]
    rw [e]
    rcases Nat.le_one_iff_eq_zero_or_eq_one.1 a3 with h1 | h1
    · subst h1
      right; left
      refine ⟨rfl, by omega, ?_⟩
      rw [show ((s : Int) - 18446744069414584321) = ((x + y - PP : Nat) : Int) by omega]
      exact wrap_lt (by omega)
    · subst h1
      left
      refine ⟨rfl, ?_⟩
      rw [IntKind.wrap_u64]
      omega
theorem plus_ok (x y : Nat) (w : World) (hx : x < PP) (hy : y < PP) :
    Calls Tryd.prog 63 #[.int .u64 x, .int .u64 y] w fun e w' => e = .returned (.int .u64 (((x + y) % PP : Nat) : Int)) ∧ w = w' := by
  obtain ⟨s, c, r, hr, p1, p2⟩ := plus_plan x y hx hy
  rw [← hr]
  clear hr hx hy
  rcases p2 with ⟨rfl, p2⟩ | ⟨rfl, p2, p3⟩ | ⟨rfl, p2, rfl⟩
  all_goals
    go_enter Tryd.func63, Tryd.ntmps63
    go_wp2_with (fail)
    go_ret
    exact ⟨rfl, rfl⟩
theorem minus_plan (x y : Nat) (hx : x < PP) (hy : y < PP) : ∃ u r : Nat, r = (x + (PP - y)) % PP ∧
    (((x : Int) < y ∧ IntKind.u64.wrap ((x : Int) + 18446744069414584321) = (u : Int) ∧ IntKind.u64.wrap ((u : Int) - (y : Int)) = (r : Int)) ∨ (¬ (x : Int) < y ∧ IntKind.u64.wrap ((x : Int) - (y : Int)) = (r : Int))) := by
  have hP : PP = 18446744069414584321 := rfl
  rcases Nat.lt_or_ge x y with h | h
  · refine ⟨(x + 18446744069414584321) % 18446744073709551616, x + (PP - y), (Nat.mod_eq_of_lt (by omega)).symm, .inl ⟨by omega, ?_, ?_⟩⟩
    · rw [IntKind.wrap_u64]; omega
    · rw [IntKind.wrap_u64]; omega
  · refine ⟨0, x - y, ?_, .inr ⟨by omega, ?_⟩⟩
    · rw [show x + (PP - y) = x - y + PP by omega, Nat.add_mod_right, Nat.mod_eq_of_lt (by omega)]
    · rw [IntKind.wrap_u64]; omega
theorem minus_ok (x y : Nat) (w : World) (hx : x < PP) (hy : y < PP) :
    Calls Tryd.prog 68 #[.int .u64 x, .int .u64 y] w fun e w' => e = .returned (.int .u64 (((x + (PP - y)) % PP : Nat) : Int)) ∧ w = w' := by
  obtain ⟨u, r, hr, p⟩ := minus_plan x y hx hy
  rw [← hr]
  clear hr hx hy
  rcases p with ⟨p1, p2, p3⟩ | ⟨p1, p2⟩
  all_goals
    go_enter Tryd.func68, Tryd.ntmps68
    go_wp2_with (fail)
    go_ret
    exact ⟨rfl, rfl⟩
theorem times_ok (x y : Nat) (w : World) (hx : x < PP) (hy : y < PP) :
    Calls Tryd.prog 64 #[.int .u64 x, .int .u64 y] w fun e w' => e = .returned (.int .u64 ((x * y % PP : Nat) : Int)) ∧ w = w' := by
  have hB : B64 = 18446744073709551616 := rfl
  have hP : PP = 18446744069414584321 := rfl
  obtain ⟨h, l, ⟨h1, h2, h3⟩, hc⟩ := mul64_any x y (by omega) (by omega)
  have Hc := Lib.hid hc
  have Hh := Lib.hid (And.intro h1 (And.intro h2 h3))
  rw [h1]
  obtain ⟨r, hr⟩ : ∃ r, (h * B64 + l) % PP = r := ⟨_, rfl⟩
  have Hr := Lib.hid hr
  rw [hr]
  clear hc h1 h2 h3 hx hy hr hB hP
  go_enter Tryd.func64, Tryd.ntmps64
  go_wp2_with (fail)
  refine (Hc.out _).mono ?_
  rintro e w1 ⟨rfl, rfl⟩
  go_wp2_with (fail)
  refine (Reduce_ok h l _ (by have := Hh.out.2.2; omega) Hh.out.2.1).mono ?_
  rintro e w1 ⟨rfl, rfl⟩
  rw [Hr.out]
  go_wp2_with (fail)
  go_ret
  exact ⟨rfl, rfl⟩

/-- one step of a power -/
theorem pstep {z r r2 X k m : Nat} (hr : r2 = r * r % PP) (hm : m = k / 2) (h : Eqm (z * r ^ k) X) : (k % 2 = 0 → Eqm (z * r2 ^ m) X) ∧ (∀ z2, k % 2 = 1 → z2 = z * r % PP → Eqm (z2 * r2 ^ m) X) := by
  have h1 : Eqm (r2 ^ m) (r ^ (2 * m)) := by
    rw [hr, Nat.pow_mul, Nat.pow_two]
    exact (Eqm.mod _).pow m
  refine ⟨fun h0 => ?_, fun z2 h0 hz => ?_⟩
  · refine .trans (Eqm.mul (.refl _) h1) ?_
    rw [show 2 * m = k by omega]
    exact h
  · refine .trans (Eqm.mul (by rw [hz]; exact Eqm.mod _) h1) ?_
    rw [Nat.mul_assoc, ← Nat.pow_succ', show (2 * m).succ = k by omega]
    exact h
set_option maxHeartbeats 400000 in
theorem power_ok (x k : Nat) (w : World) (hx : x < PP) (hk : k < B64) :
    Calls Tryd.prog 67 #[.int .u64 x, .int .u64 k] w fun e w' => e = .returned (.int .u64 ((x ^ k % PP : Nat) : Int)) ∧ w = w' := by
  obtain ⟨X, hX⟩ : ∃ X, X = x ^ k := ⟨_, rfl⟩
  rw [← hX]
  obtain ⟨Y, hY⟩ : ∃ Y, X % PP = Y := ⟨_, rfl⟩
  rw [hY]
  have HY := Lib.hid hY
  clear hY
  have H0 : Hid (x < PP ∧ 1 < PP ∧ Eqm (1 * x ^ k) X) := ⟨hx, by decide, by rw [hX, Nat.one_mul]; exact .refl _⟩
  have hkI : (k : Int) < 18446744073709551616 := by have hB : B64 = 18446744073709551616 := rfl; omega
  clear hX hx hk
  go_enter Tryd.func67, Tryd.ntmps67
  go_wp2_with (fail)
  go_loopw [0, 1, 5] (fun xv kv zv wr => ∃ (r k' z : Nat), (k' : Int) < 18446744073709551616 ∧ kv = .int .u64 k' ∧ xv = .int .u64 r ∧ zv = .int .u64 z ∧ wr = w ∧ Hid (r < PP ∧ z < PP ∧ Eqm (z * r ^ k') X)) (fun _ kv _ _ => (intOf kv).toNat)
  case atStart => exact ⟨x, k, 1, hkI, rfl, rfl, rfl, rfl, H0⟩
  case round =>
    clear H0
    obtain ⟨r, k', z, hk', rfl, rfl, rfl, rfl, hH⟩ := hrel
    rcases Nat.eq_zero_or_pos k' with rfl | hpos
    · have hki : ¬ (0 : Int) < ((0 : Nat) : Int) := by omega
      obtain rfl : z = Y := by
        have h := hH.out.2.2
        rw [Nat.pow_zero, Nat.mul_one] at h
        unfold Eqm at h
        rw [HY.out, Nat.mod_eq_of_lt hH.out.2.1] at h
        exact h
      go_wp2_with (fail)
      go_ret
      exact ⟨rfl, rfl⟩
    · have hki : (0 : Int) < (k' : Int) := by omega
      obtain ⟨m, hm, hm1⟩ : ∃ m : Nat, m = k' / 2 ∧ (k' : Int) / 2 = (m : Int) := ⟨k' / 2, rfl, by omega⟩
      obtain ⟨r2, hr2⟩ : ∃ r2, r * r % PP = r2 := ⟨_, rfl⟩
      have hst := pstep hr2.symm hm hH.out.2.2
      have hb := bits_and_u64_nat k' 1 (by have hB : B64 = 18446744073709551616 := rfl; omega) (by decide)
      rw [Nat.and_one_is_mod] at hb
      have hb' : bits BinOp.and IntKind.u64 (k' : Int) 1 = ((k' % 2 : Nat) : Int) := hb
      clear hb
      have hr2P : r2 < PP := by rw [← hr2]; exact Nat.mod_lt _ PP_pos
      rcases Nat.mod_two_eq_zero_or_one k' with hz | hz
      · rw [hz] at hb'
        have HN : Hid (r2 < PP ∧ z < PP ∧ Eqm (z * r2 ^ m) X) := ⟨hr2P, hH.out.2.1, hst.1 hz⟩
        have HM := Lib.hid (And.intro hm hr2)
        clear hst hz hm hr2 hr2P
        go_wp2_with (fail)
        refine (times_ok r r _ hH.out.1 hH.out.1).mono ?_
        rintro e w1 ⟨rfl, rfl⟩
        rw [HM.out.2]
        go_wp2_with (fail)
        go_roundw
        case rel => exact ⟨r2, m, z, by omega, rfl, rfl, rfl, trivial, HN⟩
        case measure => simp [intOf]; have := HM.out.1; omega
      · rw [hz] at hb'
        obtain ⟨z2, hz2⟩ : ∃ z2, z * r % PP = z2 := ⟨_, rfl⟩
        have HN : Hid (r2 < PP ∧ z2 < PP ∧ Eqm (z2 * r2 ^ m) X) := ⟨hr2P, by rw [← hz2]; exact Nat.mod_lt _ PP_pos, hst.2 z2 hz hz2.symm⟩
        have HM := Lib.hid (And.intro hm (And.intro hr2 hz2))
        clear hst hz hm hr2 hr2P hz2
        go_wp2_with (fail)
        refine (times_ok z r _ hH.out.2.1 hH.out.1).mono ?_
        rintro e w1 ⟨rfl, rfl⟩
        rw [HM.out.2.2]
        go_wp2_with (fail)
        refine (times_ok r r _ hH.out.1 hH.out.1).mono ?_
        rintro e w1 ⟨rfl, rfl⟩
        rw [HM.out.2.1]
        go_wp2_with (fail)
        go_roundw
        case rel => exact ⟨r2, m, z2, by omega, rfl, rfl, rfl, trivial, HN⟩
        case measure => simp [intOf]; have := HM.out.1; omega
theorem inverse_ok (x : Nat) (w : World) (hx : x < PP) :
    Calls Tryd.prog 69 #[.int .u64 x] w fun e w' => e = .returned (.int .u64 ((x ^ (PP - 2) % PP : Nat) : Int)) ∧ w = w' := by
  have hc := power_ok x (PP - 2) w hx (by decide)
  generalize x ^ (PP - 2) % PP = X at *
  rw [show PP - 2 = 18446744069414584319 from rfl] at hc
  have Hc := Lib.hid hc
  clear hc hx
  go_enter Tryd.func69, Tryd.ntmps69
  go_wp2_with (fail)
  refine (Hc.out).mono ?_
  rintro e w1 ⟨rfl, rfl⟩
  go_wp2_with (fail)
  go_ret
  exact ⟨rfl, rfl⟩
end Go.Proofs.YthpgdpkemnhneaaDoor

namespace Go.Proofs.YthpgdpkemnhneaaDoor
open Go.RowKit Go.Shelf
set_option linter.unusedVariables false
set_option linter.unusedSimpArgs false
set_option maxRecDepth 10000

/-- all elements are residues -/
def Rs1 (xs : List Nat) : Bool := xs.all fun x => decide (x < PP)
def Rss (xss : List (List Nat)) : Bool := xss.all Rs1
/-- the error of lists -/
def chkR (xss : List (List Nat)) : Int := if Rss xss = true then 0 else 1
theorem all_succ {α : Type} (p : α → Bool) (ls : List α) (k : Nat) (h : k < ls.length) : (ls.take (k + 1)).all p = ((ls.take k).all p && p ls[k]) := by
  rw [List.take_succ_eq_append_getElem h, List.all_append]; simp
theorem all_not {α : Type} (p : α → Bool) (ls : List α) (k : Nat) (h : k < ls.length) (hp : p ls[k] = false) : ls.all p = false := by
  cases h1 : ls.all p with
  | false => rfl
  | true => rw [List.all_eq_true] at h1; rw [h1 _ (List.getElem_mem h)] at hp; cases hp

set_option maxHeartbeats 1000000 in
theorem checkResidues_any (ls : List (Option Addr × Nat × Nat)) (xss : List (List Nat)) (A : Option Addr) (m c : Nat) (w : World) (hm : m ≤ 1000) (h9 : ∀ s ∈ ls, s.2.1 ≤ 9223372036854775807) (hx : Nl w A m c ls xss) :
    Calls Tryd.prog 49 #[.slice A m c] w fun e w' => e = .returned (.int .i64 (chkR xss)) ∧ w = w' := by
  have Hx := Lib.hid (And.intro hx h9)
  have hPP : PP = 18446744069414584321 := rfl
  have HP := Lib.hid hPP
  clear hx h9 hPP
  go_enter Tryd.func49, Tryd.ntmps49
  go_wp2
  go_loop [4, 6, 9, 13, 14, 15] (fun _ _ i _ _ _ => ∃ k : Nat, k ≤ m ∧ i = .int .i64 k ∧ (xss.take k).all Rs1 = true) (fun _ _ i _ _ _ => m - (intOf i).toNat)
  case atStart => exact ⟨0, Nat.zero_le _, rfl, rfl⟩
  case round =>
    obtain ⟨k, hk, rfl, hno⟩ := hrel
    have Hno := Lib.hid hno
    clear hno
    by_cases hlt : k < m
    · have hkl : k < ls.length := by rw [Hx.out.1.1]; exact hlt
      have hkx : k < xss.length := by rw [Hx.out.1.2.2.1]; exact hlt
      obtain ⟨b, o, rfl, _, hcx⟩ := Hx.out.1.2.1.at (svs_get (List.getElem?_eq_getElem hkl))
      have Hsl := Lib.hid (Hx.out.1.2.2.2 k _ _ (List.getElem?_eq_getElem hkl) (List.getElem?_eq_getElem hkx))
      have hz9 := Hx.out.2 _ (List.getElem_mem hkl)
      have Hs := Lib.hid (all_succ Rs1 xss k hkx)
      have Hy := Lib.hid (all_not Rs1 xss k hkx)
      generalize ls[k] = z at *
      generalize xss[k] = xs at *
      obtain ⟨za, zn, zc⟩ := z
      have hki : (k : Int) < m := by omega
      clear hkl hkx
      go_wp2
      go_loop [6, 15] (fun _ i => ∃ j : Nat, j ≤ zn ∧ i = .int .i64 j ∧ (xs.take j).all (fun x => decide (x < PP)) = true) (fun _ i => zn - (intOf i).toNat)
      case atStart => exact ⟨0, Nat.zero_le _, rfl, rfl⟩
      case round =>
        obtain ⟨j, hj, rfl, hnj⟩ := hrel
        have Hnj := Lib.hid hnj
        clear hnj
        by_cases hlj : j < zn
        · have hjl : j < xs.length := by rw [Hsl.out.1]; exact hlj
          obtain ⟨b2, o2, hA2, _, hcx2⟩ := Hsl.out.2.2.2.2.at (uvs_get (List.getElem?_eq_getElem hjl))
          try simp only at hA2
          subst hA2
          have Ht := Lib.hid (all_succ (fun x => decide (x < PP)) xs j hjl)
          have Hu := Lib.hid (all_not (fun x => decide (x < PP)) xs j hjl)
          generalize xs[j] = x at *
          have hji : (j : Int) < zn := by omega
          clear hjl
          by_cases hx : x < PP
          · have hxi : ¬ (18446744069414584321 : Int) ≤ x := by have := HP.out; omega
            have Hx2 := Lib.hid hx
            clear hx
            go_wp2
            go_round
            case rel => exact ⟨j + 1, by omega, by go_num, by rw [Ht.out, Hnj.out]; simpa using Hx2.out⟩
            case measure => simp [intOf]; omega
          · have hxi : (18446744069414584321 : Int) ≤ x := by have := HP.out; omega
            have Hx2 := Lib.hid hx
            clear hx
            go_wp2
            go_ret
            refine ⟨?_, rfl⟩
            have h1 := Hu.out (by simpa using Hx2.out)
            have h2 := Hy.out h1
            simp [chkR, Rss, h2]
        · have hnj := Hnj.out
          rw [List.take_of_length_le (by rw [Hsl.out.1]; omega)] at hnj
          have H0 := Lib.hid hnj
          clear hnj
          go_wp2
          go_round
          case rel => exact ⟨k + 1, by omega, by go_num, by rw [Hs.out, Hno.out, show Rs1 xs = true from H0.out]; rfl⟩
          case measure => simp [intOf]; omega
    · have hno := Hno.out
      rw [List.take_of_length_le (by rw [Hx.out.1.2.2.1]; omega)] at hno
      have H0 := Lib.hid hno
      clear hno
      go_wp2
      go_ret
      refine ⟨?_, rfl⟩
      simp [chkR, Rss, H0.out]
end Go.Proofs.YthpgdpkemnhneaaDoor

namespace Go.Proofs.YthpgdpkemnhneaaDoor
open Go.RowKit Go.Shelf
set_option linter.unusedVariables false
set_option linter.unusedSimpArgs false
set_option maxRecDepth 10000

/-- a new list of one list of words -/
theorem nl_one (w : World) (xs : List Nat) (n : Nat) (t t' : TypeId) (hl : xs.length = n) (hw : Ws xs) (hn : n ≤ 100) :
    Nl ((w.alloc (.cells (uvs xs).toArray t)).alloc (.cells #[.slice (some ⟨w.heap.size, 0, none⟩) n n] t')) (some ⟨w.heap.size + 1, 0, none⟩) 1 1 [(some ⟨w.heap.size, 0, none⟩, n, n)] [xs] := by
  refine ⟨rfl, fun _ => ⟨w.heap.size + 1, 0, rfl, by simp, fun j u hj => ?_⟩, rfl, fun i s ys h1 h2 => ?_⟩
  · match j, hj with
    | 0, hj => simp [svs] at hj; subst hj; simp [World.cell?_alloc_new]
  · match i, h1, h2 with
    | 0, h1, h2 =>
      simp at h1 h2
      subst h1 h2
      refine ⟨hl, Nat.le_refl _, by simp only; omega, hw, fun _ => ⟨w.heap.size, 0, rfl, by simp; omega, fun j u hj => ?_⟩⟩
      rw [World.cell?_alloc_lt _ _ _ (by simp)]
      simp [hj]
theorem ws_one {a : Nat} (ha : a < B64) : Ws [a] := by intro x hx; simp at hx; omega
theorem ws_two {a b : Nat} (ha : a < B64) (hb : b < B64) : Ws [a, b] := by intro x hx; simp at hx; omega
theorem chkR_two (a b : Nat) : chkR [[a, b]] = if a < PP ∧ b < PP then 0 else 1 := by
  by_cases h1 : a < PP <;> by_cases h2 : b < PP <;> simp [chkR, Rss, Rs1, h1, h2]
theorem chkR_one (a : Nat) : chkR [[a]] = if a < PP then 0 else 1 := by
  by_cases h1 : a < PP <;> simp [chkR, Rss, Rs1, h1]
theorem ychk_two (a b : Nat) (w : World) (t t' : TypeId) (ha : a < B64) (hb : b < B64) (g : Nat) (hg : g = w.heap.size) (g1 : Nat) (hg1 : g1 = w.heap.size + 1) :
    Calls Tryd.prog 49 #[.slice (some ⟨g1, 0, none⟩) 1 1] ((w.alloc (.cells #[.int .u64 a, .int .u64 b] t)).alloc (.cells #[.slice (some ⟨g, 0, none⟩) 2 2] t')) fun e w' => e = .returned (.int .i64 (if a < PP ∧ b < PP then 0 else 1)) ∧ Below w.heap.size w w' := by
  subst hg hg1
  refine (checkResidues_any _ _ _ 1 1 _ (by omega) (by simp) (nl_one w [a, b] 2 t t' rfl (ws_two ha hb) (by omega))).mono ?_
  rintro e w' ⟨rfl, rfl⟩
  exact ⟨by rw [chkR_two], ((Below.refl _ _).alloc (Nat.le_refl _) _).alloc (by simp) _⟩
theorem ychk_one (a : Nat) (w : World) (t t' : TypeId) (ha : a < B64) (g : Nat) (hg : g = w.heap.size) (g1 : Nat) (hg1 : g1 = w.heap.size + 1) :
    Calls Tryd.prog 49 #[.slice (some ⟨g1, 0, none⟩) 1 1] ((w.alloc (.cells #[.int .u64 a] t)).alloc (.cells #[.slice (some ⟨g, 0, none⟩) 1 1] t')) fun e w' => e = .returned (.int .i64 (if a < PP then 0 else 1)) ∧ Below w.heap.size w w' := by
  subst hg hg1
  refine (checkResidues_any _ _ _ 1 1 _ (by omega) (by simp) (nl_one w [a] 1 t t' rfl (ws_one ha) (by omega))).mono ?_
  rintro e w' ⟨rfl, rfl⟩
  exact ⟨by rw [chkR_one], ((Below.refl _ _).alloc (Nat.le_refl _) _).alloc (by simp) _⟩
/-- what an operation answers -/
def OpR (ok : Prop) [Decidable ok] (x : Nat) (e : Ending) : Prop := e = .returned (.tuple #[.int .u64 ((if ok then x else 0 : Nat) : Int), .int .i64 (if ok then 0 else 1)])


set_option maxHeartbeats 400000 in
theorem yjoined_plus (a b : Nat) (w : World) (ha : a < B64) (hb : b < B64) :
    Calls Tryd.prog 62 #[.int .u64 a, .func (.func 63) #[] #[], .int .u64 b] w fun e w' => OpR (a < PP ∧ b < PP) ((a + b) % PP) e ∧ Below w.heap.size w w' := by
  have hc := ychk_two a b w
  unfold OpR
  by_cases h : a < PP ∧ b < PP
  · rw [if_pos h] at hc
    simp only [if_pos h]
    have hop := plus_ok a b
    obtain ⟨X, hX⟩ : ∃ X, (a + b) % PP = X := ⟨_, rfl⟩
    rw [hX] at hop ⊢
    have Hop := Lib.hid (And.intro hop h)
    have Hc := Lib.hid (And.intro hc (And.intro ha hb))
    clear hop hc h ha hb hX
    go_enter Tryd.func62, Tryd.ntmps62
    go_wp2_with (go_at_call 49; refine (Hc.out.1 _ _ Hc.out.2.1 Hc.out.2.2 _ rfl _ (by simp)).mono ?_; rintro e w1 ⟨rfl, hb1⟩; have H1 := Lib.hid hb1; clear hb1)
    refine (Hop.out.1 _ Hop.out.2.1 Hop.out.2.2).mono ?_
    rintro e w2 ⟨rfl, rfl⟩
    go_wp2_with (fail)
    go_ret2
    exact ⟨rfl, H1.out⟩
  · rw [if_neg h] at hc
    simp only [if_neg h]
    have Hc := Lib.hid (And.intro hc (And.intro ha hb))
    clear hc h ha hb
    go_enter Tryd.func62, Tryd.ntmps62
    go_wp2_with (go_at_call 49; refine (Hc.out.1 _ _ Hc.out.2.1 Hc.out.2.2 _ rfl _ (by simp)).mono ?_; rintro e w1 ⟨rfl, hb1⟩; have H1 := Lib.hid hb1; clear hb1)
    go_ret2
    exact ⟨rfl, H1.out⟩
theorem YAdd_ok (a b : Nat) (w : World) (ha : a < B64) (hb : b < B64) :
    Calls Tryd.prog 31 #[.int .u64 a, .int .u64 b] w fun e w' => OpR (a < PP ∧ b < PP) ((a + b) % PP) e ∧ Below w.heap.size w w' := by
  have hop := yjoined_plus a b w ha hb
  obtain ⟨X, hX⟩ : ∃ X, (a + b) % PP = X := ⟨_, rfl⟩
  rw [hX] at hop ⊢
  unfold OpR at hop ⊢
  generalize (((if a < PP ∧ b < PP then X else 0 : Nat) : Int)) = R at *
  generalize (if a < PP ∧ b < PP then (0 : Int) else 1) = E at *
  have Hop := Lib.hid hop
  clear hop hX ha hb
  go_enter Tryd.func31, Tryd.ntmps31
  go_wp2_with (fail)
  refine Hop.out.mono ?_
  rintro e w2 ⟨rfl, hb1⟩
  have H1 := Lib.hid hb1
  clear hb1
  go_wp2_with (fail)
  go_ret2
  exact ⟨rfl, H1.out⟩

set_option maxHeartbeats 400000 in
theorem yjoined_minus (a b : Nat) (w : World) (ha : a < B64) (hb : b < B64) :
    Calls Tryd.prog 62 #[.int .u64 a, .func (.func 68) #[] #[], .int .u64 b] w fun e w' => OpR (a < PP ∧ b < PP) ((a + (PP - b)) % PP) e ∧ Below w.heap.size w w' := by
  have hc := ychk_two a b w
  unfold OpR
  by_cases h : a < PP ∧ b < PP
  · rw [if_pos h] at hc
    simp only [if_pos h]
    have hop := minus_ok a b
    obtain ⟨X, hX⟩ : ∃ X, (a + (PP - b)) % PP = X := ⟨_, rfl⟩
    rw [hX] at hop ⊢
    have Hop := Lib.hid (And.intro hop h)
    have Hc := Lib.hid (And.intro hc (And.intro ha hb))
    clear hop hc h ha hb hX
    go_enter Tryd.func62, Tryd.ntmps62
    go_wp2_with (go_at_call 49; refine (Hc.out.1 _ _ Hc.out.2.1 Hc.out.2.2 _ rfl _ (by simp)).mono ?_; rintro e w1 ⟨rfl, hb1⟩; have H1 := Lib.hid hb1; clear hb1)
    refine (Hop.out.1 _ Hop.out.2.1 Hop.out.2.2).mono ?_
    rintro e w2 ⟨rfl, rfl⟩
    go_wp2_with (fail)
    go_ret2
    exact ⟨rfl, H1.out⟩
  · rw [if_neg h] at hc
    simp only [if_neg h]
    have Hc := Lib.hid (And.intro hc (And.intro ha hb))
    clear hc h ha hb
    go_enter Tryd.func62, Tryd.ntmps62
    go_wp2_with (go_at_call 49; refine (Hc.out.1 _ _ Hc.out.2.1 Hc.out.2.2 _ rfl _ (by simp)).mono ?_; rintro e w1 ⟨rfl, hb1⟩; have H1 := Lib.hid hb1; clear hb1)
    go_ret2
    exact ⟨rfl, H1.out⟩
theorem YSub_ok (a b : Nat) (w : World) (ha : a < B64) (hb : b < B64) :
    Calls Tryd.prog 35 #[.int .u64 a, .int .u64 b] w fun e w' => OpR (a < PP ∧ b < PP) ((a + (PP - b)) % PP) e ∧ Below w.heap.size w w' := by
  have hop := yjoined_minus a b w ha hb
  obtain ⟨X, hX⟩ : ∃ X, (a + (PP - b)) % PP = X := ⟨_, rfl⟩
  rw [hX] at hop ⊢
  unfold OpR at hop ⊢
  generalize (((if a < PP ∧ b < PP then X else 0 : Nat) : Int)) = R at *
  generalize (if a < PP ∧ b < PP then (0 : Int) else 1) = E at *
  have Hop := Lib.hid hop
  clear hop hX ha hb
  go_enter Tryd.func35, Tryd.ntmps35
  go_wp2_with (fail)
  refine Hop.out.mono ?_
  rintro e w2 ⟨rfl, hb1⟩
  have H1 := Lib.hid hb1
  clear hb1
  go_wp2_with (fail)
  go_ret2
  exact ⟨rfl, H1.out⟩

set_option maxHeartbeats 400000 in
theorem yjoined_times (a b : Nat) (w : World) (ha : a < B64) (hb : b < B64) :
    Calls Tryd.prog 62 #[.int .u64 a, .func (.func 64) #[] #[], .int .u64 b] w fun e w' => OpR (a < PP ∧ b < PP) (a * b % PP) e ∧ Below w.heap.size w w' := by
  have hc := ychk_two a b w
  unfold OpR
  by_cases h : a < PP ∧ b < PP
  · rw [if_pos h] at hc
    simp only [if_pos h]
    have hop := times_ok a b
    obtain ⟨X, hX⟩ : ∃ X, a * b % PP = X := ⟨_, rfl⟩
    rw [hX] at hop ⊢
    have Hop := Lib.hid (And.intro hop h)
    have Hc := Lib.hid (And.intro hc (And.intro ha hb))
    clear hop hc h ha hb hX
    go_enter Tryd.func62, Tryd.ntmps62
    go_wp2_with (go_at_call 49; refine (Hc.out.1 _ _ Hc.out.2.1 Hc.out.2.2 _ rfl _ (by simp)).mono ?_; rintro e w1 ⟨rfl, hb1⟩; have H1 := Lib.hid hb1; clear hb1)
    refine (Hop.out.1 _ Hop.out.2.1 Hop.out.2.2).mono ?_
    rintro e w2 ⟨rfl, rfl⟩
    go_wp2_with (fail)
    go_ret2
    exact ⟨rfl, H1.out⟩
  · rw [if_neg h] at hc
    simp only [if_neg h]
    have Hc := Lib.hid (And.intro hc (And.intro ha hb))
    clear hc h ha hb
    go_enter Tryd.func62, Tryd.ntmps62
    go_wp2_with (go_at_call 49; refine (Hc.out.1 _ _ Hc.out.2.1 Hc.out.2.2 _ rfl _ (by simp)).mono ?_; rintro e w1 ⟨rfl, hb1⟩; have H1 := Lib.hid hb1; clear hb1)
    go_ret2
    exact ⟨rfl, H1.out⟩
theorem YTimes_ok (a b : Nat) (w : World) (ha : a < B64) (hb : b < B64) :
    Calls Tryd.prog 32 #[.int .u64 a, .int .u64 b] w fun e w' => OpR (a < PP ∧ b < PP) (a * b % PP) e ∧ Below w.heap.size w w' := by
  have hop := yjoined_times a b w ha hb
  obtain ⟨X, hX⟩ : ∃ X, a * b % PP = X := ⟨_, rfl⟩
  rw [hX] at hop ⊢
  unfold OpR at hop ⊢
  generalize (((if a < PP ∧ b < PP then X else 0 : Nat) : Int)) = R at *
  generalize (if a < PP ∧ b < PP then (0 : Int) else 1) = E at *
  have Hop := Lib.hid hop
  clear hop hX ha hb
  go_enter Tryd.func32, Tryd.ntmps32
  go_wp2_with (fail)
  refine Hop.out.mono ?_
  rintro e w2 ⟨rfl, hb1⟩
  have H1 := Lib.hid hb1
  clear hb1
  go_wp2_with (fail)
  go_ret2
  exact ⟨rfl, H1.out⟩

set_option maxHeartbeats 400000 in
theorem YPow_ok (a k : Nat) (w : World) (ha : a < B64) (hk : k < B64) :
    Calls Tryd.prog 34 #[.int .u64 a, .int .u64 k] w fun e w' => OpR (a < PP) (a ^ k % PP) e ∧ Below w.heap.size w w' := by
  have hc := ychk_one a w
  unfold OpR
  by_cases h : a < PP
  · rw [if_pos h] at hc
    simp only [if_pos h]
    have hop := power_ok a k
    obtain ⟨X, hX⟩ : ∃ X, a ^ k % PP = X := ⟨_, rfl⟩
    rw [hX] at hop ⊢
    have Hop := Lib.hid (And.intro hop (And.intro h hk))
    have Hc := Lib.hid (And.intro hc ha)
    clear hop hc h ha hk hX
    go_enter Tryd.func34, Tryd.ntmps34
    go_wp2_with (go_at_call 49; refine (Hc.out.1 _ _ Hc.out.2 _ rfl _ (by simp)).mono ?_; rintro e w1 ⟨rfl, hb1⟩; have H1 := Lib.hid hb1; clear hb1)
    refine (Hop.out.1 _ Hop.out.2.1 Hop.out.2.2).mono ?_
    rintro e w2 ⟨rfl, rfl⟩
    go_wp2_with (fail)
    go_ret2
    exact ⟨rfl, H1.out⟩
  · rw [if_neg h] at hc
    simp only [if_neg h]
    have Hc := Lib.hid (And.intro hc ha)
    clear hc h ha hk
    go_enter Tryd.func34, Tryd.ntmps34
    go_wp2_with (go_at_call 49; refine (Hc.out.1 _ _ Hc.out.2 _ rfl _ (by simp)).mono ?_; rintro e w1 ⟨rfl, hb1⟩; have H1 := Lib.hid hb1; clear hb1)
    go_ret2
    exact ⟨rfl, H1.out⟩
set_option maxHeartbeats 400000 in
theorem YInverse_ok (a : Nat) (w : World) (ha : a < B64) :
    Calls Tryd.prog 36 #[.int .u64 a] w fun e w' => (e = .returned (.tuple #[.int .u64 ((if 0 < a ∧ a < PP then a ^ (PP - 2) % PP else 0 : Nat) : Int), .int .i64 (if PP ≤ a then 1 else if a = 0 then 5 else 0)])) ∧ Below w.heap.size w w' := by
  have hc := ychk_one a w
  by_cases h : a < PP
  · rw [if_pos h] at hc
    by_cases h0 : a = 0
    · subst h0
      rw [if_neg (by omega), if_neg (by omega), if_pos rfl]
      have Hc := Lib.hid (And.intro hc ha)
      clear hc h ha
      go_enter Tryd.func36, Tryd.ntmps36
      go_wp2_with (go_at_call 49; refine (Hc.out.1 _ _ Hc.out.2 _ rfl _ (by simp)).mono ?_; rintro e w1 ⟨rfl, hb1⟩; have H1 := Lib.hid hb1; clear hb1)
      go_ret2
      exact ⟨rfl, H1.out⟩
    · rw [if_pos (by omega), if_neg (by omega), if_neg h0]
      have h0i : ¬ (a : Int) = 0 := by omega
      have hop := inverse_ok a
      obtain ⟨X, hX⟩ : ∃ X, a ^ (PP - 2) % PP = X := ⟨_, rfl⟩
      rw [hX] at hop ⊢
      have Hop := Lib.hid (And.intro hop h)
      have Hc := Lib.hid (And.intro hc ha)
      clear hop hc h ha hX h0
      go_enter Tryd.func36, Tryd.ntmps36
      go_wp2_with (go_at_call 49; refine (Hc.out.1 _ _ Hc.out.2 _ rfl _ (by simp)).mono ?_; rintro e w1 ⟨rfl, hb1⟩; have H1 := Lib.hid hb1; clear hb1)
      refine (Hop.out.1 _ Hop.out.2).mono ?_
      rintro e w2 ⟨rfl, rfl⟩
      go_wp2_with (fail)
      go_ret2
      exact ⟨rfl, H1.out⟩
  · rw [if_neg h] at hc
    rw [if_neg (by omega), if_pos (by omega)]
    have Hc := Lib.hid (And.intro hc ha)
    clear hc h ha
    go_enter Tryd.func36, Tryd.ntmps36
    go_wp2_with (go_at_call 49; refine (Hc.out.1 _ _ Hc.out.2 _ rfl _ (by simp)).mono ?_; rintro e w1 ⟨rfl, hb1⟩; have H1 := Lib.hid hb1; clear hb1)
    go_ret2
    exact ⟨rfl, H1.out⟩
end Go.Proofs.YthpgdpkemnhneaaDoor

namespace Go.Proofs.YthpgdpkemnhneaaDoor
open Go.RowKit Go.Shelf
set_option linter.unusedVariables false
set_option linter.unusedSimpArgs false
set_option maxRecDepth 10000

set_option maxHeartbeats 400000 in
theorem RMod_ok (A A' : Option Addr) (n n' c c' : Nat) (xs ys : List Nat) (w : World) (hn : n ≤ 4096) (hn' : n' ≤ 4096) (hx : Sl w A n c xs) (hy : Sl w A' n' c' ys) (h0 : 0 < V ys) :
    Calls Tryd.prog 116 #[.slice A n c, .slice A' n' c'] w fun e w' => Rv w w' e (V xs % V ys) := by
  have hc := RDivMod_ok A A' n n' c c' xs ys w hn hn' hx hy h0
  have Hc := Lib.hid hc
  clear hc hx hy h0
  go_enter Tryd.func116, Tryd.ntmps116
  go_wp2_with (fail)
  refine Hc.out.mono ?_
  rintro e w1 ⟨v, v', rfl, -, h2, h3⟩
  have H := Lib.hid (And.intro h2 h3)
  clear h2 h3
  go_wp2_with (fail)
  go_ret
  exact ⟨v', rfl, H.out.1, H.out.2⟩
theorem sl_one {w : World} {a : Nat} (t : TypeId) (ha : a < B64) : Sl (w.alloc (.cells #[.int .u64 a] t)) (some ⟨w.heap.size, 0, none⟩) 1 1 [a] :=
  ⟨rfl, Nat.le_refl _, by omega, ws_one ha, fun _ => ⟨w.heap.size, 0, rfl, by simp, fun j u hj => by
    match j, hj with
    | 0, hj => simp [uvs] at hj; subst hj; simp⟩⟩
theorem sl_two {w : World} {a b : Nat} (t : TypeId) (ha : a < B64) (hb : b < B64) : Sl (w.alloc (.cells #[.int .u64 a, .int .u64 b] t)) (some ⟨w.heap.size, 0, none⟩) 2 2 [a, b] :=
  ⟨rfl, Nat.le_refl _, by omega, ws_two ha hb, fun _ => ⟨w.heap.size, 0, rfl, by simp, fun j u hj => by
    match j, hj with
    | 0, hj => simp [uvs] at hj; subst hj; simp
    | 1, hj => simp [uvs] at hj; subst hj; simp⟩⟩
/-- a number of at most one word -/
theorem nu_word {w w' : World} {A : Option Addr} {n c x : Nat} {zs : List Nat} (h : Nu w w' A n c zs x) (hx : x < B64) : (n = 0 ∧ x = 0) ∨ (n = 1 ∧ zs = [x]) := by
  have h1 := h.1.1
  have h2 := Cn_len h.1.2.2.2.1 h.2.1 1
  rw [h.2.2.1, Nat.pow_one, h1] at h2
  match zs, h1 with
  | [], h1 => left; exact ⟨h1.symm, by rw [← h.2.2.1]; rfl⟩
  | [z], h1 => right; exact ⟨h1.symm, by rw [← h.2.2.1]; simp [V]⟩
  | _ :: _ :: _, h1 => simp at h1; omega
theorem sl_oneP {w : World} {g : Nat} (t : TypeId) (hg : g = w.heap.size) : Sl (w.alloc (.cells #[.int .u64 18446744069414584321] t)) (some ⟨g, 0, none⟩) 1 1 [PP] := by
  subst hg
  exact sl_one (a := PP) t (by decide)
theorem V_two (a b : Nat) : V [a, b] = b * B64 + a := by simp [V]; rw [Nat.mul_comm]; omega
set_option maxHeartbeats 400000 in
theorem R4Reduce_ok (hi lo : Nat) (w : World) (hh : hi < B64) (hl : lo < B64) :
    Calls Tryd.prog 100 #[.int .u64 hi, .int .u64 lo] w fun e w' => e = .returned (.int .u64 (((hi * B64 + lo) % PP : Nat) : Int)) ∧ Below w.heap.size w w' := by
  have hc := fun (t t' : TypeId) => RMod_ok (some ⟨w.heap.size, 0, none⟩) (some ⟨w.heap.size + 1, 0, none⟩) 2 1 2 1 [lo, hi] [PP] ((w.alloc (.cells #[.int .u64 lo, .int .u64 hi] t)).alloc (.cells #[.int .u64 18446744069414584321] t')) (by omega) (by omega) ((sl_two t hl hh).below ((Below.refl _ _).alloc (Nat.le_refl _) _)) (sl_oneP t' (by simp)) (by rw [V_one]; exact PP_pos)
  rw [V_two, V_one] at hc
  obtain ⟨X, hX⟩ : ∃ X, (hi * B64 + lo) % PP = X := ⟨_, rfl⟩
  have hXP : X < PP := by rw [← hX]; exact Nat.mod_lt _ PP_pos
  rw [hX] at hc ⊢
  have hB : Below w.heap.size w ((w.alloc (.cells #[.int .u64 lo, .int .u64 hi] 43)).alloc (.cells #[.int .u64 18446744069414584321] 43)) := ((Below.refl _ _).alloc (Nat.le_refl _) _).alloc (by simp) _
  have Hc := Lib.hid (And.intro hc (And.intro hXP hB))
  clear hc hX hXP hB hh hl
  go_enter Tryd.func100, Tryd.ntmps100
  go_wp2_with (fail)
  refine (Hc.out.1 _ _).mono ?_
  rintro e w1 hR
  obtain ⟨A1, n1, c1, zs1, rfl, h1⟩ := hR.open (Big_of (k := 1) (by rw [Nat.pow_one]; exact Nat.lt_trans Hc.out.2.1 PP_lt) (by omega))
  have H := Lib.hid (And.intro h1 (Hc.out.2.2.trans (h1.bel.mono (by simp; omega))))
  rcases nu_word h1 (Nat.lt_trans Hc.out.2.1 PP_lt) with ⟨rfl, rfl⟩ | ⟨rfl, rfl⟩
  · clear h1 hR
    go_wp2_with (fail)
    go_ret
    exact ⟨rfl, H.out.2⟩
  · obtain ⟨b, o, rfl, -, hcx⟩ := h1.1.2.2.2.2.at (k := 0) (u := .int .u64 X) rfl
    rw [Nat.add_zero] at hcx
    clear h1 hR
    go_wp2_with (fail)
    go_ret
    exact ⟨rfl, H.out.2⟩
/-- two words of a number -/
def w2 (xs : List Nat) : Nat × Nat := (xs.getD 0 0, xs.getD 1 0)
set_option maxHeartbeats 400000 in
theorem R4word_ok (A : Option Addr) (n c : Nat) (xs : List Nat) (w : World) (hn : n ≤ 2) (hx : Sl w A n c xs) :
    Calls Tryd.prog 75 #[.slice A n c] w fun e w' => e = .returned (.int .u64 ((V xs % PP : Nat) : Int)) ∧ Below w.heap.size w w' := by
  obtain ⟨x0, x1, hx0, hx1, hv, hsp⟩ : ∃ x0 x1 : Nat, x0 < B64 ∧ x1 < B64 ∧ V xs = x1 * B64 + x0 ∧ splice [Value.int .u64 0, Value.int .u64 0] 0 (uvs xs) = [.int .u64 x0, .int .u64 x1] := by
    have h1 := hx.1
    have h2 := hx.2.2.2.1
    match xs, h1, h2 with
    | [], _, _ => exact ⟨0, 0, B64_pos, B64_pos, by simp [V], rfl⟩
    | [x], _, h2 => exact ⟨x, 0, h2 x (by simp), B64_pos, by simp [V], rfl⟩
    | [x, y], _, h2 => exact ⟨x, y, h2 x (by simp), h2 y (by simp), V_two x y, rfl⟩
    | _ :: _ :: _ :: _, h1, _ => simp at h1; omega
  have hc := fun W => R4Reduce_ok x1 x0 W hx1 hx0
  rw [hv]
  obtain ⟨X, hX⟩ : ∃ X, (x1 * B64 + x0) % PP = X := ⟨_, rfl⟩
  rw [hX] at hc ⊢
  have hcur : (w.alloc (.cells #[.int .u64 0, .int .u64 0] 97)).heap[w.heap.size]? = some (.cells [Value.int .u64 0, Value.int .u64 0].toArray 97 (0, 0)) := by unfold World.alloc; simp
  have hcs : (uvs xs).length = Nat.min n 2 := by rw [uvs_length, hx.1]; exact (Nat.min_eq_left hn).symm
  have hb1 : Below w.heap.size w (w.alloc (.cells #[.int .u64 0, .int .u64 0] 97)) := (Below.refl _ _).alloc (Nat.le_refl _) _
  have hpos : 0 < (uvs xs).length → (some (⟨w.heap.size, 0, none⟩ : Addr)) = some ⟨w.heap.size, 0, none⟩ ∧ ∃ ad, A = some ad ∧ ∀ j v, (uvs xs)[j]? = some v → (w.alloc (.cells #[.int .u64 0, .int .u64 0] 97)).cell? (ad.add j) = some v := by
    intro h0
    obtain ⟨b, o, rfl, _, hc⟩ := (hx.2.2.2.2.below hb1) (by intro e; rw [e] at h0; simp at h0)
    exact ⟨rfl, ⟨b, o, none⟩, rfl, fun j v hj => by rw [Addr.add_lit]; exact hc j v hj⟩
  have hfit : 0 + (uvs xs).length ≤ [Value.int .u64 0, Value.int .u64 0].length := by rw [uvs_length, hx.1]; simpa using hn
  have H := Lib.hid (And.intro hcur (And.intro hcs (And.intro hpos (And.intro hfit hb1))))
  have Hc := Lib.hid hc
  have Hsp := Lib.hid hsp
  clear hcur hcs hpos hfit hb1 hc hsp hx hX hx0 hx1 hv
  go_enter Tryd.func75, Tryd.ntmps75
  go_wp2_with (with_reducible refine wpList_copy_splice rfl (.tmp 4) (.tmp 5) 22 34 rfl 43 Tryd.underlying22 Tryd.size1 _ _ _ _ _ _ rfl rfl w.heap.size 0 [Value.int .u64 0, Value.int .u64 0] 97 H.out.1 (uvs xs) H.out.2.1 H.out.2.2.1 H.out.2.2.2.1 (uvs_one xs) w.heap.size w H.out.2.2.2.2 (Nat.le_refl _) ?_)
  intro w3 hrow hb2
  have hr := hrow.out
  rw [Hsp.out] at hr
  have hc0 : w3.cell? ⟨w.heap.size, 0, none⟩ = some (.int .u64 x0) := by simp [World.cell?, hr]
  have hc1 : w3.cell? ⟨w.heap.size, 1, none⟩ = some (.int .u64 x1) := by simp [World.cell?, hr]
  have HB := Lib.hid hb2
  clear hr hrow hb2
  go_wp2_with (fail)
  refine (Hc.out _).mono ?_
  rintro e w4 ⟨rfl, hb4⟩
  have HE := Lib.hid (HB.out.trans (hb4.mono HB.out.size))
  clear hb4
  go_wp2_with (fail)
  go_ret
  exact ⟨rfl, HE.out⟩

set_option maxHeartbeats 400000 in
theorem R4Add_ok (a b : Nat) (w : World) (ha : a < B64) (hb : b < B64) :
    Calls Tryd.prog 43 #[.int .u64 a, .int .u64 b] w fun e w' => e = .returned (.int .u64 (((a + b) % PP : Nat) : Int)) ∧ Below w.heap.size w w' := by
  have hc := fun (t t' : TypeId) => RNAdd_ok (some ⟨w.heap.size, 0, none⟩) (some ⟨w.heap.size + 1, 0, none⟩) 1 1 1 1 [a] [b] ((w.alloc (.cells #[.int .u64 a] t)).alloc (.cells #[.int .u64 b] t')) (by omega) (by omega) ((sl_one t ha).below ((Below.refl _ _).alloc (Nat.le_refl _) _)) (by have h := sl_one (w := w.alloc (.cells #[.int .u64 a] t)) t' hb; simpa using h)
  rw [V_one, V_one] at hc
  have hB : Below w.heap.size w ((w.alloc (.cells #[.int .u64 a] 43)).alloc (.cells #[.int .u64 b] 43)) := ((Below.refl _ _).alloc (Nat.le_refl _) _).alloc (by simp) _
  have hlt : a + b < B64 ^ 2 := by
    have h2 : 2 * B64 ≤ B64 ^ 2 := by rw [Nat.pow_two]; exact Nat.mul_le_mul_right _ (by decide)
    omega
  obtain ⟨X, hX⟩ : ∃ X, a + b = X := ⟨_, rfl⟩
  rw [hX] at hc hlt ⊢
  have Hc := Lib.hid (And.intro hc (And.intro hlt hB))
  clear hc hX hlt hB ha hb
  go_enter Tryd.func43, Tryd.ntmps43
  go_wp2_with (fail)
  refine (Hc.out.1 _ _).mono ?_
  rintro e w1 hR
  obtain ⟨A1, n1, c1, zs1, rfl, h1⟩ := hR.open (Big_of Hc.out.2.1 (by omega))
  have H := Lib.hid (And.intro h1 (Hc.out.2.2.trans (h1.bel.mono (by simp; omega))))
  have hn1 : n1 ≤ 2 := by
    have h2 := (Cn_len h1.1.2.2.2.1 h1.2.1 2).2 (by rw [h1.2.2.1]; exact Hc.out.2.1)
    rw [h1.1.1] at h2
    exact h2
  clear h1 hR
  go_wp2_with (fail)
  refine (R4word_ok A1 n1 c1 zs1 _ hn1 H.out.1.1).mono ?_
  rintro e w3 ⟨rfl, hb3⟩
  rw [H.out.1.2.2.1]
  have HE := Lib.hid (H.out.2.trans (hb3.mono H.out.2.size))
  clear hb3
  go_wp2_with (fail)
  go_ret
  exact ⟨rfl, HE.out⟩

set_option maxHeartbeats 400000 in
theorem R4Times_ok (a b : Nat) (w : World) (ha : a < B64) (hb : b < B64) :
    Calls Tryd.prog 42 #[.int .u64 a, .int .u64 b] w fun e w' => e = .returned (.int .u64 ((a * b % PP : Nat) : Int)) ∧ Below w.heap.size w w' := by
  have hc := fun (t t' : TypeId) => RNMul_ok (some ⟨w.heap.size, 0, none⟩) (some ⟨w.heap.size + 1, 0, none⟩) 1 1 1 1 [a] [b] ((w.alloc (.cells #[.int .u64 a] t)).alloc (.cells #[.int .u64 b] t')) (by omega) (by omega) ((sl_one t ha).below ((Below.refl _ _).alloc (Nat.le_refl _) _)) (by have h := sl_one (w := w.alloc (.cells #[.int .u64 a] t)) t' hb; simpa using h)
  rw [V_one, V_one] at hc
  have hB : Below w.heap.size w ((w.alloc (.cells #[.int .u64 a] 43)).alloc (.cells #[.int .u64 b] 43)) := ((Below.refl _ _).alloc (Nat.le_refl _) _).alloc (by simp) _
  have hlt : a * b < B64 ^ 2 := by
    rw [Nat.pow_two]; exact Nat.mul_lt_mul_of_lt_of_le ha (Nat.le_of_lt hb) B64_pos
  obtain ⟨X, hX⟩ : ∃ X, a * b = X := ⟨_, rfl⟩
  rw [hX] at hc hlt ⊢
  have Hc := Lib.hid (And.intro hc (And.intro hlt hB))
  clear hc hX hlt hB ha hb
  go_enter Tryd.func42, Tryd.ntmps42
  go_wp2_with (fail)
  refine (Hc.out.1 _ _).mono ?_
  rintro e w1 hR
  obtain ⟨A1, n1, c1, zs1, rfl, h1⟩ := hR.open (Big_of Hc.out.2.1 (by omega))
  have H := Lib.hid (And.intro h1 (Hc.out.2.2.trans (h1.bel.mono (by simp; omega))))
  have hn1 : n1 ≤ 2 := by
    have h2 := (Cn_len h1.1.2.2.2.1 h1.2.1 2).2 (by rw [h1.2.2.1]; exact Hc.out.2.1)
    rw [h1.1.1] at h2
    exact h2
  clear h1 hR
  go_wp2_with (fail)
  refine (R4word_ok A1 n1 c1 zs1 _ hn1 H.out.1.1).mono ?_
  rintro e w3 ⟨rfl, hb3⟩
  rw [H.out.1.2.2.1]
  have HE := Lib.hid (H.out.2.trans (hb3.mono H.out.2.size))
  clear hb3
  go_wp2_with (fail)
  go_ret
  exact ⟨rfl, HE.out⟩

set_option maxHeartbeats 400000 in
theorem R4Sub_ok (a b : Nat) (w : World) (ha : a < B64) (hb : b < PP) :
    Calls Tryd.prog 51 #[.int .u64 a, .int .u64 b] w fun e w' => e = .returned (.int .u64 (((a + (PP - b)) % PP : Nat) : Int)) ∧ Below w.heap.size w w' := by
  have hc := fun (t t' : TypeId) => RNAdd_ok (some ⟨w.heap.size, 0, none⟩) (some ⟨w.heap.size + 1, 0, none⟩) 1 1 1 1 [a] [PP] ((w.alloc (.cells #[.int .u64 a] t)).alloc (.cells #[.int .u64 18446744069414584321] t')) (by omega) (by omega) ((sl_one t ha).below ((Below.refl _ _).alloc (Nat.le_refl _) _)) (sl_oneP t' (by simp))
  rw [V_one, V_one] at hc
  have hB : Below w.heap.size w ((w.alloc (.cells #[.int .u64 a] 43)).alloc (.cells #[.int .u64 18446744069414584321] 43)) := ((Below.refl _ _).alloc (Nat.le_refl _) _).alloc (by simp) _
  have hlt : a + PP < B64 ^ 2 := by
    have h1 : PP < B64 := PP_lt
    have h2 : 2 * B64 ≤ B64 ^ 2 := by rw [Nat.pow_two]; exact Nat.mul_le_mul_right _ (by decide)
    omega
  have hbB : b < B64 := Nat.lt_trans hb PP_lt
  obtain ⟨X, hX, hX2⟩ : ∃ X, a + PP = X ∧ a + (PP - b) = X - b ∧ b ≤ X := ⟨_, rfl, by omega, by omega⟩
  rw [hX] at hc hlt
  rw [hX2.1]
  have Hc := Lib.hid (And.intro hc (And.intro hlt (And.intro hB (And.intro hbB hX2.2))))
  clear hc hX hlt hB ha hb hX2 hbB
  go_enter Tryd.func51, Tryd.ntmps51
  go_wp2_with (fail)
  refine (Hc.out.1 _ _).mono ?_
  rintro e w1 hR
  obtain ⟨A1, n1, c1, zs1, rfl, h1⟩ := hR.open (Big_of Hc.out.2.1 (by omega))
  have H := Lib.hid (And.intro h1 (Hc.out.2.2.1.trans (h1.bel.mono (by simp; omega))))
  clear h1 hR
  go_wp2_with (fail)
  refine (RNSub_ok A1 (some ⟨w1.heap.size, 0, none⟩) n1 1 c1 1 zs1 [b] _ H.out.1.2.2.2.1 (by omega) (H.out.1.1.below ((Below.refl _ _).alloc (Nat.le_refl _) _)) (sl_one _ Hc.out.2.2.2.1) (by rw [V_one, H.out.1.2.2.1]; exact Hc.out.2.2.2.2)).mono ?_
  rintro e w3 hR
  rw [V_one, H.out.1.2.2.1] at hR
  obtain ⟨A4, n4, c4, zs4, rfl, h4⟩ := hR.open (Nat.lt_of_le_of_lt (Nat.sub_le _ _) (Big_of Hc.out.2.1 (by omega)))
  have H4 := Lib.hid (And.intro h4 (H.out.2.trans ((((Below.refl _ w1).alloc (Nat.le_refl _) (.cells #[.int .u64 b] 43)).trans (h4.bel.mono (by simp))).mono H.out.2.size)))
  have hn4 : n4 ≤ 2 := by
    have h2 := (Cn_len h4.1.2.2.2.1 h4.2.1 2).2 (by rw [h4.2.2.1]; exact Nat.lt_of_le_of_lt (Nat.sub_le _ _) Hc.out.2.1)
    rw [h4.1.1] at h2
    exact h2
  clear h4 hR
  go_wp2_with (fail)
  refine (R4word_ok A4 n4 c4 zs4 _ hn4 H4.out.1.1).mono ?_
  rintro e w5 ⟨rfl, hb5⟩
  rw [H4.out.1.2.2.1]
  have HE := Lib.hid (H4.out.2.trans (hb5.mono H4.out.2.size))
  clear hb5
  go_wp2_with (fail)
  go_ret
  exact ⟨rfl, HE.out⟩
set_option maxHeartbeats 400000 in
theorem R4Pow_ok (x k : Nat) (w : World) (hx : x < B64) (hk : k < B64) :
    Calls Tryd.prog 74 #[.int .u64 x, .int .u64 k] w fun e w' => e = .returned (.int .u64 ((x ^ k % PP : Nat) : Int)) ∧ Below w.heap.size w w' := by
  obtain ⟨X, hX⟩ : ∃ X, X = x ^ k := ⟨_, rfl⟩
  rw [← hX]
  obtain ⟨Y, hY⟩ : ∃ Y, X % PP = Y := ⟨_, rfl⟩
  rw [hY]
  have HY := Lib.hid hY
  clear hY
  have H0 : Hid (x < B64 ∧ 1 < PP ∧ Eqm (1 * x ^ k) X) := ⟨hx, by decide, by rw [hX, Nat.one_mul]; exact .refl _⟩
  have hkI : (k : Int) < 18446744073709551616 := by have hB : B64 = 18446744073709551616 := rfl; omega
  clear hX hx hk
  go_enter Tryd.func74, Tryd.ntmps74
  go_wp2_with (fail)
  go_loopw [0, 1, 5] (fun xv kv zv wr => ∃ (r k' z : Nat), (k' : Int) < 18446744073709551616 ∧ kv = .int .u64 k' ∧ xv = .int .u64 r ∧ zv = .int .u64 z ∧ Hid (Below w.heap.size w wr ∧ r < B64 ∧ z < PP ∧ Eqm (z * r ^ k') X)) (fun _ kv _ _ => (intOf kv).toNat)
  case atStart => exact ⟨x, k, 1, hkI, rfl, rfl, rfl, ⟨Below.refl _ _, H0.out⟩⟩
  case round =>
    clear H0
    obtain ⟨r, k', z, hk', rfl, rfl, rfl, hH⟩ := hrel
    rcases Nat.eq_zero_or_pos k' with rfl | hpos
    · have hki : ¬ (0 : Int) < ((0 : Nat) : Int) := by omega
      obtain rfl : z = Y := by
        have h := hH.out.2.2.2
        rw [Nat.pow_zero, Nat.mul_one] at h
        unfold Eqm at h
        rw [HY.out, Nat.mod_eq_of_lt hH.out.2.2.1] at h
        exact h
      go_wp2_with (fail)
      go_ret
      exact ⟨rfl, hH.out.1⟩
    · have hki : (0 : Int) < (k' : Int) := by omega
      obtain ⟨m, hm, hm1, hm2⟩ : ∃ m : Nat, m = k' / 2 ∧ (k' : Int) / 2 = (m : Int) ∧ (k' : Int).tdiv 2 = (m : Int) := ⟨k' / 2, rfl, by omega, by rw [Int.tdiv_eq_ediv_of_nonneg (by omega)]; omega⟩
      have hmw : IntKind.u64.wrap (m : Int) = (m : Int) := wrap_nat m (by have hB : B64 = 18446744073709551616 := rfl; omega)
      obtain ⟨r2, hr2⟩ : ∃ r2, r * r % PP = r2 := ⟨_, rfl⟩
      have hst := pstep hr2.symm hm hH.out.2.2.2
      have hr2P : r2 < PP := by rw [← hr2]; exact Nat.mod_lt _ PP_pos
      rcases Nat.mod_two_eq_zero_or_one k' with hz | hz
      · have e1 : (k' : Int) % 2 = 0 := by omega
        have e2 : (k' : Int).tmod 2 = 0 := by rw [Int.tmod_eq_emod_of_nonneg (by omega)]; omega
        have HN : Hid (r2 < PP ∧ z < PP ∧ Eqm (z * r2 ^ m) X) := ⟨hr2P, hH.out.2.2.1, hst.1 hz⟩
        have HM := Lib.hid (And.intro hm hr2)
        clear hst hz hm hr2 hr2P
        go_wp2_with (fail)
        refine (R4Times_ok r r _ hH.out.2.1 hH.out.2.1).mono ?_
        rintro e w1 ⟨rfl, hb1⟩
        rw [HM.out.2]
        have HB := Lib.hid (hH.out.1.trans (hb1.mono hH.out.1.size))
        clear hb1
        go_wp2_with (fail)
        go_roundw
        case rel => exact ⟨r2, m, z, by omega, by first | rfl | go_num, rfl, rfl, ⟨HB.out, Nat.lt_trans HN.out.1 PP_lt, HN.out.2⟩⟩
        case measure => simp [intOf]; have := HM.out.1; omega
      · have e1 : (k' : Int) % 2 = 1 := by omega
        have e2 : (k' : Int).tmod 2 = 1 := by rw [Int.tmod_eq_emod_of_nonneg (by omega)]; omega
        obtain ⟨z2, hz2⟩ : ∃ z2, z * r % PP = z2 := ⟨_, rfl⟩
        have HN : Hid (r2 < PP ∧ z2 < PP ∧ Eqm (z2 * r2 ^ m) X) := ⟨hr2P, by rw [← hz2]; exact Nat.mod_lt _ PP_pos, hst.2 z2 hz hz2.symm⟩
        have HM := Lib.hid (And.intro hm (And.intro hr2 hz2))
        clear hst hz hm hr2 hr2P hz2
        go_wp2_with (fail)
        refine (R4Times_ok z r _ (Nat.lt_trans hH.out.2.2.1 PP_lt) hH.out.2.1).mono ?_
        rintro e w1 ⟨rfl, hb1⟩
        rw [HM.out.2.2]
        have HB1 := Lib.hid (hH.out.1.trans (hb1.mono hH.out.1.size))
        clear hb1
        go_wp2_with (fail)
        refine (R4Times_ok r r _ hH.out.2.1 hH.out.2.1).mono ?_
        rintro e w2 ⟨rfl, hb2⟩
        rw [HM.out.2.1]
        have HB := Lib.hid (HB1.out.trans (hb2.mono HB1.out.size))
        clear hb2
        go_wp2_with (fail)
        go_roundw
        case rel => exact ⟨r2, m, z2, by omega, by first | rfl | go_num, rfl, rfl, ⟨HB.out, Nat.lt_trans HN.out.1 PP_lt, HN.out.2⟩⟩
        case measure => simp [intOf]; have := HM.out.1; omega
theorem R4Inverse_ok (x : Nat) (w : World) (hx : x < B64) :
    Calls Tryd.prog 44 #[.int .u64 x] w fun e w' => e = .returned (.int .u64 ((x ^ (PP - 2) % PP : Nat) : Int)) ∧ Below w.heap.size w w' := by
  have hc := R4Pow_ok x (PP - 2) w hx (by decide)
  generalize x ^ (PP - 2) % PP = X at *
  rw [show PP - 2 = 18446744069414584319 from rfl] at hc
  have Hc := Lib.hid hc
  clear hc hx
  go_enter Tryd.func44, Tryd.ntmps44
  go_wp2_with (fail)
  refine (Hc.out).mono ?_
  rintro e w1 ⟨rfl, hb1⟩
  have HB := Lib.hid hb1
  clear hb1
  go_wp2_with (fail)
  go_ret
  exact ⟨rfl, HB.out⟩
end Go.Proofs.YthpgdpkemnhneaaDoor

namespace Go.Proofs.YthpgdpkemnhneaaDoor
open Go.RowKit Go.Shelf
set_option linter.unusedVariables false
set_option linter.unusedSimpArgs false
set_option maxRecDepth 10000

/-- the list of f i for i below n -/
def tb (n : Nat) (f : Nat → Nat) : List Nat := (List.range n).map f
theorem tb_length (n : Nat) (f : Nat → Nat) : (tb n f).length = n := by simp [tb]
theorem tb_get {n i : Nat} (f : Nat → Nat) (h : i < n) : (tb n f)[i]? = some (f i) := by simp [tb, h]
theorem tb_congr {n : Nat} {f g : Nat → Nat} (h : ∀ i, i < n → f i = g i) : tb n f = tb n g := by
  unfold tb
  exact List.map_congr_left fun i hi => h i (List.mem_range.1 hi)
theorem tb_set (n k x : Nat) (f : Nat → Nat) : (tb n f).set k x = tb n (fun i => if i = k then x else f i) := by
  apply List.ext_getElem?
  intro i
  by_cases h : i < n
  · rw [tb_get _ h, List.getElem?_set]
    by_cases hk : k = i
    · subst hk
      simp [tb_length, h]
    · rw [if_neg hk, tb_get _ h, if_neg (Ne.symm hk)]
  · rw [List.getElem?_eq_none (by simp [tb_length]; omega), List.getElem?_eq_none (by simp [tb_length]; omega)]
theorem tb_ws {n : Nat} {f : Nat → Nat} (h : ∀ i, i < n → f i < B64) : Ws (tb n f) := fun x hx => by
  unfold tb at hx
  obtain ⟨i, hi, rfl⟩ := List.mem_map.1 hx
  exact h i (List.mem_range.1 hi)
theorem tb_zero (n : Nat) : List.replicate n 0 = tb n (fun _ => 0) := by
  apply List.ext_getElem?
  intro i
  by_cases h : i < n
  · rw [tb_get _ h]; simp [h]
  · rw [List.getElem?_eq_none (by simp; omega), List.getElem?_eq_none (by simp [tb_length]; omega)]
theorem tb_succ (n : Nat) (f : Nat → Nat) : tb (n + 1) f = tb n f ++ [f n] := by simp [tb, List.range_succ]
/-- what a list holds at an index -/
def yx (xs : List Nat) (i : Nat) : Nat := xs.getD i 0
theorem yx_tb {n i : Nat} (f : Nat → Nat) (h : i < n) : yx (tb n f) i = f i := by simp [yx, List.getD_eq_getElem?_getD, tb_get f h]
theorem tb_yx {n : Nat} {xs : List Nat} (h : xs.length = n) : tb n (yx xs) = xs := by
  apply List.ext_getElem?
  intro i
  by_cases hi : i < n
  · rw [tb_get _ hi, List.getElem?_eq_getElem (by omega)]; simp [yx, List.getD_eq_getElem?_getD, List.getElem?_eq_getElem (show i < xs.length by omega)]
  · rw [List.getElem?_eq_none (by simp [tb_length]; omega), List.getElem?_eq_none (by omega)]
theorem yx_far {xs : List Nat} {i : Nat} (h : xs.length ≤ i) : yx xs i = 0 := by simp [yx, List.getD_eq_getElem?_getD, List.getElem?_eq_none h]
theorem yx_lt {xs : List Nat} (h : Ws xs) (i : Nat) : yx xs i < B64 := by
  by_cases hi : i < xs.length
  · simp [yx, List.getD_eq_getElem?_getD, List.getElem?_eq_getElem hi]; exact h _ (List.getElem_mem hi)
  · rw [yx_far (by omega)]; exact B64_pos
theorem Sl.rd {w : World} {A : Option Addr} {n c : Nat} {xs : List Nat} (h : Sl w A n c xs) {i : Nat} (hi : i < n) : ∃ b o, A = some ⟨b, o, none⟩ ∧ b < w.heap.size ∧ w.cell? ⟨b, o + i, none⟩ = some (.int .u64 (yx xs i : Nat)) := by
  have hl : i < xs.length := by rw [h.1]; exact hi
  have e : xs[i]? = some (yx xs i) := by simp [yx, List.getD_eq_getElem?_getD, List.getElem?_eq_getElem hl]
  exact h.2.2.2.2.at (uvs_get e)

/-- block g is just the row of f i, i below n, of the type t -/
def Rw (t : TypeId) (W : World) (g n : Nat) (f : Nat → Nat) : Prop := W.heap[g]? = some (.cells (uvs (tb n f)).toArray t (0, 0)) ∧ ∀ i, i < n → f i < B64
section
variable {t : TypeId} {W W' : World} {g n : Nat} {f f' : Nat → Nat}
theorem Rw.congr (h : Rw t W g n f) (h' : ∀ i, i < n → f i = f' i) : Rw t W g n f' := ⟨by rw [← tb_congr h']; exact h.1, fun i hi => by rw [← h' i hi]; exact h.2 i hi⟩
theorem Rw.lt (h : Rw t W g n f) : g < W.heap.size := (Array.getElem?_eq_some_iff.1 h.1).1
theorem Rw.cell (h : Rw t W g n f) {i : Nat} (hi : i < n) : W.cell? ⟨g, i, none⟩ = some (.int .u64 (f i : Nat)) := by
  rw [cell_of_row W g i _ _ _ h.1]
  simpa using uvs_get (tb_get f hi)
theorem Rw.frozen (h : Rw t W g n f) (i : Nat) : W.frozen? ⟨g, i, none⟩ = false := by simp [World.frozen?, h.1]
theorem Rw.set (h : Rw t W g n f) (k : Nat) {x : Nat} (hx : x < B64) : Rw t (W.setCell ⟨g, k, none⟩ (.int .u64 (x : Int))) g n (fun i => if i = k then x else f i) := by
  refine ⟨?_, fun i hi => ?_⟩
  · rw [← tb_set]
    simp [World.setCell, Array.getElem?_modify, h.1, uvs]
  · show (if i = k then x else f i) < B64
    split
    · exact hx
    · exact h.2 i hi
theorem Rw.far (h : Rw t W g n f) {p : Addr} (hp : g ≠ p.block) (u : Value) : Rw t (W.setCell p u) g n f := ⟨(Below.heap_setCell W p u g hp).trans h.1, h.2⟩
theorem Rw.alloc (h : Rw t W g n f) (o : Obj) : Rw t (W.alloc o) g n f := ⟨(Below.heap_alloc W o g h.lt).trans h.1, h.2⟩
theorem Rw.below (h : Rw t W g n f) {B : Nat} (hb : Below B W W') (hg : g < B) : Rw t W' g n f := ⟨(hb.block g hg).trans h.1, h.2⟩
theorem Rw.keep (h : Rw t W g n f) (hb : Below W.heap.size W W') : Rw t W' g n f := h.below hb h.lt
theorem Rw.sl (h : Rw t W g n f) (hn : n ≤ 1000000) : Sl W (some ⟨g, 0, none⟩) n n (tb n f) :=
  ⟨tb_length n f, Nat.le_refl _, by omega, tb_ws h.2, fun _ => ⟨g, 0, rfl, h.lt, fun j u hj => by
    rw [Nat.zero_add]
    have hjn : j < n := by
      have := (List.getElem?_eq_some_iff.1 hj).1
      rw [uvs_length, tb_length] at this
      exact this
    rw [h.cell hjn, ← hj]
    exact (uvs_get (tb_get f hjn)).symm⟩⟩
theorem Rw.made {B : Nat} (h : W.ownsRow B t 1 (.slice (some ⟨g, 0, none⟩) n n) n (madeCells #[Value.int .u64 0] n).toList) : Rw t W g n (fun _ => 0) := by
  have hu : (madeCells #[Value.int .u64 0] n).toList = uvs (List.replicate n 0) := by
    refine List.ext_getElem (by simp [madeCells, uvs]) (fun i h1 h2 => ?_)
    simp [madeCells, uvs, Nat.mod_one]
  rw [hu, tb_zero] at h
  refine ⟨?_, fun i _ => B64_pos⟩
  rcases h.2 with ⟨e, h0⟩ | ⟨g2, cap, cur, e, _, hg, hn, _, hs, ht⟩
  · cases e
  · injection e with e1 e2 e3
    injection e1 with e1
    injection e1 with e1
    subst e1 e3
    rw [Nat.mul_one] at hs ht
    rw [hg, ← ht, List.take_of_length_le (by simp [hs])]
end
/-- block g begins with the row of f i, i below n, of the type t -/
def Rp (t : TypeId) (W : World) (g n : Nat) (f : Nat → Nat) : Prop := ∃ cur : Array Value, W.heap[g]? = some (.cells cur t (0, 0)) ∧ cur.toList.take n = uvs (tb n f) ∧ ∀ i, i < n → f i < B64
section
variable {t : TypeId} {W W' : World} {g n : Nat} {f f' : Nat → Nat}
theorem Rw.pre (h : Rw t W g n f) : Rp t W g n f := ⟨_, h.1, by
  rw [List.take_of_length_le (by simp [uvs_length, tb_length])], h.2⟩
theorem Rp.congr (h : Rp t W g n f) (h' : ∀ i, i < n → f i = f' i) : Rp t W g n f' := by
  obtain ⟨cur, h1, h2, h3⟩ := h
  exact ⟨cur, h1, by rw [← tb_congr h']; exact h2, fun i hi => by rw [← h' i hi]; exact h3 i hi⟩
theorem Rp.lt (h : Rp t W g n f) : g < W.heap.size := by
  obtain ⟨cur, h1, h2⟩ := h
  exact (Array.getElem?_eq_some_iff.1 h1).1
theorem Rp.bound (h : Rp t W g n f) {i : Nat} (hi : i < n) : f i < B64 := by
  obtain ⟨cur, h1, h2, h3⟩ := h
  exact h3 i hi
theorem Rp.cell (h : Rp t W g n f) {i : Nat} (hi : i < n) : W.cell? ⟨g, i, none⟩ = some (.int .u64 (f i : Nat)) := by
  obtain ⟨cur, h1, h2, h3⟩ := h
  rw [cell_of_row W g i _ _ _ h1]
  have e : (cur.toList.take n)[i]? = some (.int .u64 (f i : Nat)) := by rw [h2]; exact uvs_get (tb_get f hi)
  rw [List.getElem?_take_of_lt hi] at e
  simpa using e
theorem Rp.frozen (h : Rp t W g n f) (i : Nat) : W.frozen? ⟨g, i, none⟩ = false := by
  obtain ⟨cur, h1, h2⟩ := h
  simp [World.frozen?, h1]
theorem Rp.set (h : Rp t W g n f) {k : Nat} (hk : k < n) {x : Nat} (hx : x < B64) : Rp t (W.setCell ⟨g, k, none⟩ (.int .u64 (x : Int))) g n (fun i => if i = k then x else f i) := by
  obtain ⟨cur, h1, h2, h3⟩ := h
  refine ⟨cur.setIfInBounds k (.int .u64 (x : Int)), by simp [World.setCell, Array.getElem?_modify, h1], ?_, fun i hi => ?_⟩
  · rw [← tb_set, Array.toList_setIfInBounds, List.take_set, h2]
    simp [uvs]
  · show (if i = k then x else f i) < B64
    split
    · exact hx
    · exact h3 i hi
theorem Rp.far (h : Rp t W g n f) {p : Addr} (hp : g ≠ p.block) (u : Value) : Rp t (W.setCell p u) g n f := by
  obtain ⟨cur, h1, h2⟩ := h
  exact ⟨cur, (Below.heap_setCell W p u g hp).trans h1, h2⟩
theorem Rp.alloc (h : Rp t W g n f) (o : Obj) : Rp t (W.alloc o) g n f := by
  have hl := h.lt
  obtain ⟨cur, h1, h2⟩ := h
  exact ⟨cur, (Below.heap_alloc W o g hl).trans h1, h2⟩
theorem Rp.below (h : Rp t W g n f) {B : Nat} (hb : Below B W W') (hg : g < B) : Rp t W' g n f := by
  obtain ⟨cur, h1, h2⟩ := h
  exact ⟨cur, (hb.block g hg).trans h1, h2⟩
theorem Rp.keep (h : Rp t W g n f) (hb : Below W.heap.size W W') : Rp t W' g n f := h.below hb h.lt
theorem Rp.heap (h : Rp t W g n f) (he : W'.heap[g]? = W.heap[g]?) : Rp t W' g n f := by
  obtain ⟨cur, h1, h2⟩ := h
  exact ⟨cur, he.trans h1, h2⟩
theorem Rp.sl (h : Rp t W g n f) {c : Nat} (hc : n ≤ c) (hc2 : c ≤ 9223372036854775807) : Sl W (some ⟨g, 0, none⟩) n c (tb n f) :=
  ⟨tb_length n f, hc, hc2, tb_ws fun i hi => h.bound hi, fun _ => ⟨g, 0, rfl, h.lt, fun j u hj => by
    rw [Nat.zero_add]
    have hjn : j < n := by
      have := (List.getElem?_eq_some_iff.1 hj).1
      rw [uvs_length, tb_length] at this
      exact this
    rw [h.cell hjn, ← hj]
    exact (uvs_get (tb_get f hjn)).symm⟩⟩
theorem Rp.own {B c : Nat} (h : W.ownsRow B t 1 (.slice (some ⟨g, 0, none⟩) n c) n (uvs (tb n f))) (hf : ∀ i, i < n → f i < B64) : Rp t W g n f := by
  rcases h.2 with ⟨e, h0⟩ | ⟨g2, cap, cur, e, _, hg, hn, _, hs, ht⟩
  · cases e
  · injection e with e1 e2 e3
    injection e1 with e1
    injection e1 with e1
    subst e1 e3
    rw [Nat.mul_one] at ht
    exact ⟨cur, hg, ht, hf⟩
end
end Go.Proofs.YthpgdpkemnhneaaDoor

namespace Go.Proofs.YthpgdpkemnhneaaDoor
open Go.RowKit Go.Shelf
set_option linter.unusedVariables false
set_option linter.unusedSimpArgs false
set_option maxRecDepth 10000

theorem Tryd.info68 : (Tryd.prog.info? 68).map (fun i => (i.zero, i.size, i.bytes)) = some (some (.int .u64 0), 1, 8) := by kernel_rfl
/-- a call that makes a row of the type t: f i for i below n -/
def RwR (t : TypeId) (w w' : World) (e : Ending) (n : Nat) (f : Nat → Nat) : Prop := ∃ g c, e = .returned (.slice (some ⟨g, 0, none⟩) n c) ∧ n ≤ c ∧ c ≤ 9223372036854775807 ∧ Rp t w' g n f ∧ w.heap.size ≤ g ∧ Below w.heap.size w w'

set_option maxHeartbeats 400000 in
theorem powers_ok (x n : Nat) (w : World) (hx : x < PP) (hn : n ≤ 100000) :
    Calls Tryd.prog 71 #[.int .u64 x, .int .i64 n] w fun e w' => RwR 68 w w' e n (fun i => x ^ i % PP) := by
  obtain ⟨i0, hi, hz0, hz1, hz2⟩ := info_parts Tryd.info68
  have Hx := Lib.hid hx
  clear hx
  go_enter Tryd.func71, Tryd.ntmps71
  go_wp2_with (at_make; refine wpList_make_full _ rfl _ _ 51 rfl w.heap.size 68 i0 (.int .u64 0) 1 Tryd.underlying51 hi hz0 hz1 .i64 .i64 _ _ n rfl rfl rfl rfl (by rw [hz2]; omega) (by unfold maxLen; omega) (Nat.le_refl _) ?_)
  intro w1 hown hgrow
  have hb1 := below_of_grown hgrow (Nat.le_refl _)
  have hr := Rw.made hown
  obtain ⟨g, hg⟩ : ∃ g, g = w.heap.size := ⟨_, rfl⟩
  rw [← hg] at hr ⊢
  have H0 : Hid (Below w.heap.size w w1 ∧ Rw 68 w1 g n (fun i => if i < 0 then x ^ i % PP else 0) ∧ w.heap.size ≤ g ∧ 1 = x ^ 0 % PP) := ⟨hb1, hr.congr (fun i _ => by simp), by omega, by rw [Nat.pow_zero]; rfl⟩
  clear hown hgrow hb1 hr hg
  go_wp2_with (fail)
  go_loopw [6, 7, 12] (fun pv _ iv wr => ∃ (k p : Nat), k ≤ n ∧ iv = .int .i64 k ∧ pv = .int .u64 p ∧ Hid (Below w.heap.size w wr ∧ Rw 68 wr g n (fun i => if i < k then x ^ i % PP else 0) ∧ w.heap.size ≤ g ∧ p = x ^ k % PP)) (fun _ _ iv _ => n - (intOf iv).toNat)
  case atStart => exact ⟨0, 1, Nat.zero_le _, rfl, rfl, H0⟩
  case round =>
    clear H0
    obtain ⟨k, p, hk, rfl, rfl, hH⟩ := hrel
    by_cases hlt : k < n
    · have hki : (k : Int) < n := by omega
      have hc := hH.out.2.1.cell hlt
      have hf := hH.out.2.1.frozen k
      have hpP : p < PP := by rw [hH.out.2.2.2]; exact Nat.mod_lt _ PP_pos
      have Hp := Lib.hid hpP
      clear hpP
      go_wp2_with (fail)
      refine (times_ok p x _ Hp.out Hx.out).mono ?_
      rintro e w2 ⟨rfl, rfl⟩
      have HN : Hid (Below w.heap.size w (wr.setCell ⟨g, k, none⟩ (.int .u64 p)) ∧ Rw 68 (wr.setCell ⟨g, k, none⟩ (.int .u64 p)) g n (fun i => if i < k + 1 then x ^ i % PP else 0) ∧ w.heap.size ≤ g ∧ p * x % PP = x ^ (k + 1) % PP) := by
        obtain ⟨h1, h2, h3, h4⟩ := hH.out
        refine ⟨h1.setCell h3 _, (h2.set k (Nat.lt_trans Hp.out PP_lt)).congr fun i hi => ?_, h3, ?_⟩
        · by_cases h5 : i = k
          · subst h5; simp [h4]
          · by_cases h6 : i < k
            · simp [h5, h6, show i < k + 1 by omega]
            · simp [h5, h6, show ¬ i < k + 1 by omega]
        · rw [h4, Nat.pow_succ]
          exact mulmod_congr (Nat.mod_mod _ _) rfl
      clear hH hc hf
      go_wp2_with (fail)
      go_roundw
      case rel => exact ⟨k + 1, p * x % PP, by omega, by go_num, rfl, HN⟩
      case measure => simp [intOf]; omega
    · have hki : ¬ (k : Int) < n := by omega
      obtain rfl : k = n := by omega
      go_wp2_with (fail)
      go_ret
      exact ⟨g, _, rfl, Nat.le_refl _, by omega, (hH.out.2.1.congr (fun i hi => by simp [hi])).pre, hH.out.2.2.1, hH.out.1⟩
end Go.Proofs.YthpgdpkemnhneaaDoor
