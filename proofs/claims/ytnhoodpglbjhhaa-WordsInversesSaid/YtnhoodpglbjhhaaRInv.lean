/- The contracts of reckonerref01.Inverse and reckonerref01.Reciprocal. -/
import Derived.Test.YtnhoodpglbjhhaaRDiv
import Derived.Test.YtnhoodpglbjhhaaInv
import Derived.Test.YtnhoodpglbjhhaaRShift
namespace Go.Proofs.Ytnhoodpglbjhhaa
open Go.RowKit
set_option linter.unusedVariables false

/-- what Inverse keeps, i bits known -/
def II (w i v : Nat) : Prop := v < 2 ^ i ∧ (i = 0 ∨ w * v % 2 ^ i = 1)
theorem shr_mod (a i : Nat) (hi : i < 64) : (a % B64) / 2 ^ i % 2 = a / 2 ^ i % 2 := by
  have e : B64 = 2 ^ i * 2 ^ (64 - i) := by rw [← Nat.pow_add, show i + (64 - i) = 64 by omega]; rfl
  rw [e, Nat.mod_mul_right_div_self, Nat.mod_mod_of_dvd]
  obtain ⟨j, hj⟩ : ∃ j, 64 - i = j + 1 := ⟨63 - i, by omega⟩
  rw [hj, Nat.pow_succ]
  exact Nat.dvd_mul_left _ _
theorem II.step {w i v : Nat} (hw : w % 2 = 1) (h : II w i v) : (w * v / 2 ^ i % 2 = (if i = 0 then 1 else 0) → II w (i + 1) v) ∧ (w * v / 2 ^ i % 2 ≠ (if i = 0 then 1 else 0) → II w (i + 1) (v + 2 ^ i)) := by
  obtain ⟨h1, h2⟩ := h
  have hp : 0 < 2 ^ i := Nat.pow_pos (by decide)
  rcases Nat.eq_zero_or_pos i with h0 | h0
  · subst h0
    have hv : v = 0 := by simpa using h1
    subst hv
    refine ⟨fun h => by simp at h, fun _ => ⟨by simp, .inr ?_⟩⟩
    simpa using hw
  · have h3 : w * v % 2 ^ i = 1 := by omega
    have e := Nat.div_add_mod (w * v) (2 ^ i)
    rw [h3] at e
    rw [if_neg (by omega)]
    have h1' : (1 : Nat) < 2 ^ i := Nat.one_lt_two_pow (by omega)
    have hlt : 1 < 2 ^ (i + 1) := Nat.one_lt_two_pow (by omega)
    have key : ∀ z t, z = 2 ^ i * (2 * t) + 1 → z % 2 ^ (i + 1) = 1 := fun z t hz => by
      rw [hz, ← Nat.mul_assoc, ← Nat.pow_succ, Nat.mul_add_mod, Nat.mod_eq_of_lt hlt]
    refine ⟨fun h => ⟨by rw [Nat.pow_succ]; omega, .inr ?_⟩, fun h => ⟨by rw [Nat.pow_succ]; omega, .inr ?_⟩⟩
    · refine key _ (w * v / 2 ^ i / 2) ?_
      have : 2 * (w * v / 2 ^ i / 2) = w * v / 2 ^ i := by omega
      rw [this]
      exact e.symm
    · refine key _ ((w * v / 2 ^ i + w) / 2) ?_
      have h4 : 2 * ((w * v / 2 ^ i + w) / 2) = w * v / 2 ^ i + w := by omega
      rw [h4, Nat.mul_add, Nat.mul_add, Nat.mul_comm (2 ^ i) w]
      omega

set_option maxRecDepth 100000 in
set_option maxHeartbeats 1000000 in
theorem RInverse_ok (w : Nat) (W : World) (hwB : w < B64) (hw : w % 2 = 1) :
    Calls Try.prog 34 #[.int .u64 w] W fun e W' => ∃ v : Nat, e = .returned (.int .u64 v) ∧ v < B64 ∧ w * v % B64 = 1 ∧ W = W' := by
  have Hw := Lib.hid (And.intro hwB hw)
  clear hwB hw
  go_enter Try.func34, Try.ntmps34
  go_wp2
  go_loop [3, 4] (fun vv iv => ∃ i v : Nat, i ≤ 64 ∧ iv = .int .i64 i ∧ vv = .int .u64 v ∧ Hid (II w i v)) (fun _ iv => 64 - (intOf iv).toNat)
  case atStart => exact ⟨0, 0, by omega, rfl, rfl, by simp, .inl rfl⟩
  case round =>
    obtain ⟨i, v, hi, rfl, rfl, hI⟩ := hrel
    by_cases hlt : i < 64
    · have hpB : 2 ^ i < B64 := pow_lt_B i (by omega)
      obtain ⟨p, hp⟩ : ∃ p, 2 ^ i = p := ⟨_, rfl⟩
      obtain ⟨m, hm1, hm2⟩ : ∃ m : Nat, IntKind.u64.wrap ((w : Int) * v) = (m : Int) ∧ m = w * v % B64 := by
        refine ⟨w * v % B64, ?_, rfl⟩
        rw [show (w : Int) * v = ((w * v : Nat) : Int) by simp, IntKind.wrap_u64]
        simp [B64]
      obtain ⟨q, hq1, hq2⟩ : ∃ q : Nat, (m : Int) / 2 ^ i = (q : Int) ∧ q = m / 2 ^ i := ⟨m / 2 ^ i, by simp, rfl⟩
      obtain ⟨b, hb1, hb2⟩ : ∃ b : Nat, (q : Int) % 2 = (b : Int) ∧ b = q % 2 := ⟨q % 2, by omega, rfl⟩
      have hbit : b = w * v / 2 ^ i % 2 := by rw [hb2, hq2, hm2]; exact shr_mod _ _ hlt
      have hw1 : IntKind.u64.wrap ((1 : Int) * 2 ^ i) = (p : Int) := by
        have := wrap_u64 1 i
        rw [Nat.one_mul, Nat.mod_eq_of_lt hpB, hp] at this
        exact this
      have hw2 : IntKind.u64.wrap ((2 : Int) ^ i) = (p : Int) := by rw [← hw1, Int.one_mul]
      have hst := hI.out.step Hw.out.2
      rw [← hbit, hp] at hst
      have hvp : v < p := by rw [← hp]; exact hI.out.1
      obtain ⟨z, hz1, hz2, hz3, hz4⟩ : ∃ z : Nat, (v : Int) + (p : Int) = (z : Int) ∧ IntKind.u64.wrap ((v : Int) + (p : Int)) = (z : Int) ∧ IntKind.u64.wrap (z : Int) = (z : Int) ∧ z = v + p := by
        have h2 : 2 ^ (i + 1) ≤ 2 ^ 64 := Nat.pow_le_pow_right (by decide) (by omega)
        rw [Nat.pow_succ, hp] at h2
        have h3 : (2 : Nat) ^ 64 = 18446744073709551616 := rfl
        exact ⟨v + p, by omega, by rw [IntKind.wrap_u64]; omega, by rw [IntKind.wrap_u64]; omega, rfl⟩
      rw [← hz4] at hst
      have HV : Hid (i = 0 → v = 0 ∧ z = 1 ∧ b = 0) := fun h0 => by
        subst h0
        have h1 : (2 : Nat) ^ 0 = 1 := rfl
        have h2 : v = 0 := by omega
        refine ⟨h2, by omega, ?_⟩
        rw [hbit, h2, Nat.mul_zero]
      have HS := Lib.hid hst
      have hbb : b ≤ 1 := by omega
      clear hm2 hq2 hb2 hbit hst hpB hp hvp hI hz4
      rcases Nat.eq_zero_or_pos i with h0 | h0
      · subst h0
        obtain ⟨ev, ez, eb⟩ := HV.out rfl
        subst ev
        subst ez
        subst eb
        clear HV hz1 hz2 hz3
        have HN : Hid (II w (0 + 1) 1) := HS.out.2 (by simp)
        have e0 : (((0 : Nat) : Int) != 1) = true := rfl
        go_wp2
        go_round
        case rel => exact ⟨1, 1, by omega, by go_num, by first | rfl | go_num, HN⟩
        case measure => simp [intOf]
      · have hi0 : ¬ (i = 0) := by omega
        rcases Nat.eq_zero_or_pos b with hb | hb
        · subst hb
          have HN : Hid (II w (i + 1) v) := HS.out.1 (by rw [if_neg hi0])
          go_wp2
          go_round
          case rel => exact ⟨i + 1, v, by omega, by go_num, rfl, HN⟩
          case measure => simp [intOf]; omega
        · obtain rfl : b = 1 := by omega
          have HN : Hid (II w (i + 1) z) := HS.out.2 (by rw [if_neg hi0]; decide)
          go_wp2
          go_round
          case rel => exact ⟨i + 1, z, by omega, by go_num, by first | rfl | go_num, HN⟩
          case measure => simp [intOf]; omega
    · have h64 : i = 64 := by omega
      subst h64
      go_wp2
      go_ret
      obtain ⟨h1, h2⟩ := hI.out
      have e : (2 : Nat) ^ 64 = B64 := rfl
      rw [e] at h1 h2
      exact ⟨v, rfl, h1, by omega, rfl⟩

theorem recip_uniq {b d v r v' r' : Nat} (h1 : b * b = (v + b) * d + r + 1) (h2 : r < d) (h3 : b * b = (v' + b) * d + r' + 1) (h4 : r' < d) : v = v' ∧ r = r' := by
  have e : r + (v + b) * d = r' + (v' + b) * d := by omega
  have hm : r = r' := by
    have := congrArg (· % d) e
    simpa [Nat.mod_eq_of_lt h2, Nat.mod_eq_of_lt h4] using this
  subst hm
  have := Nat.eq_of_mul_eq_mul_right (show 0 < d by omega) (show (v + b) * d = (v' + b) * d by omega)
  exact ⟨by omega, rfl⟩

set_option maxHeartbeats 1000000 in
theorem RRecip_ok (d : Nat) (W : World) (h1 : 9223372036854775808 ≤ d) (hd : d < B64) :
    Calls Try.prog 37 #[.int .u64 d] W fun e W' => ∃ v r : Nat, e = .returned (.int .u64 v) ∧ B64 * B64 = (v + B64) * d + r + 1 ∧ r < d ∧ Below W.heap.size W W' := by
  have hB : B64 = 18446744073709551616 := rfl
  have EX := not_word d hd
  have Hd := Lib.hid (And.intro h1 hd)
  have e1 : ∃ c : Nat, B64 - 1 - d = c ∧ c < d := ⟨_, rfl, by omega⟩
  obtain ⟨c, hc, hcd⟩ := e1
  rw [hc] at EX
  have Hc := Lib.hid hc
  clear h1 hd hc hB
  go_enter Try.func37, Try.ntmps37
  go_wp2_with (fail)
  refine (RNarrow_ok c (B64 - 1) d _ hcd (by decide) Hd.out.2).mono ?_
  rintro e w2 ⟨q, r, rfl, he, hr, hb⟩
  have HF := Lib.hid (And.intro he (And.intro hr hb))
  clear he hr hb
  go_wp2_with (fail)
  go_ret
  obtain ⟨h1, h2, h3⟩ := HF.out
  refine ⟨q, r, rfl, recip_eq B64 d q r Hd.out.2 ?_, h2, h3⟩
  rw [Hc.out]
  exact h1.symm
end Go.Proofs.Ytnhoodpglbjhhaa
