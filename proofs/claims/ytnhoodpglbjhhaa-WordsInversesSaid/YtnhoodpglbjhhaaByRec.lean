/- The contracts of words.isReciprocal and words.ByReciprocal. -/
import Derived.Test.YtnhoodpglbjhhaaByRecM
import Derived.Test.YtnhoodpglbjhhaaMem
namespace Go.Proofs.Ytnhoodpglbjhhaa
open Go.RowKit
set_option linter.unusedVariables false

/-- v is the reciprocal of d -/
def IsRec (d v : Nat) : Prop := ∃ r, r < d ∧ B64 * B64 = (v + B64) * d + r + 1
theorem rec_high {B d v h l r : Nat} (hd : d < B) (hl : l < B) (hr : r < d) (e : B * B = (v + B) * d + r + 1) (et : d * v = h * B + l) : h + d = B - 1 ∧ l + r + 1 = B := by
  have e1 : (v + B) * d = (h + d) * B + l := by
    rw [Nat.add_mul, Nat.mul_comm v, et, Nat.add_mul, Nat.mul_comm B]
    omega
  rw [e1] at e
  have h1 : h + d < B := by
    rcases Nat.lt_or_ge (h + d) B with h2 | h2
    · exact h2
    · have := Nat.mul_le_mul_right B h2
      omega
  have h2 : h + d = B - 1 := by
    rcases Nat.lt_or_ge (h + d) (B - 1) with h3 | h3
    · exfalso
      have h4 : (h + d + 2) * B ≤ B * B := Nat.mul_le_mul_right _ (by omega)
      rw [Nat.add_mul] at h4
      omega
    · omega
  refine ⟨h2, ?_⟩
  rw [h2] at e
  have h4 : (B - 1) * B + B = B * B := by
    obtain ⟨b, rfl⟩ : ∃ b, B = b + 1 := ⟨B - 1, by omega⟩
    rw [Nat.add_sub_cancel, Nat.add_mul b 1, Nat.one_mul]
  omega
theorem rec_of {B d v h l : Nat} (hB : 0 < B) (hd : d < B) (hl : l < B) (et : d * v = h * B + l) (h1 : h + d = B - 1) (h2 : B - 1 - l < d) : B * B = (v + B) * d + (B - 1 - l) + 1 := by
  have e1 : (v + B) * d = (h + d) * B + l := by
    rw [Nat.add_mul, Nat.mul_comm v, et, Nat.add_mul, Nat.mul_comm B]
    omega
  have h4 : (B - 1) * B + B = B * B := by
    obtain ⟨b, rfl⟩ : ∃ b, B = b + 1 := ⟨B - 1, by omega⟩
    rw [Nat.add_sub_cancel, Nat.add_mul b 1, Nat.one_mul]
  rw [e1, h1]
  omega

set_option maxRecDepth 100000 in
set_option maxHeartbeats 1000000 in
theorem isRec_any (d v : Nat) (hd : d < B64) (hv : v < B64) : ∃ b : Bool, (b = true ↔ IsRec d v) ∧
    ∀ W, Calls Try.prog 65 #[.int .u64 d, .int .u64 v] W fun e W' => e = .returned (.bool b) ∧ Below W.heap.size W W' := by
  have hB : B64 = 18446744073709551616 := rfl
  obtain ⟨h, l, ⟨et, hl, hh⟩, hcall⟩ := times_any d v hd hv
  obtain ⟨s, c, ⟨es, hs, hc⟩, hadd⟩ := add64_zero h d (by omega) hd
  have H := Lib.hid hcall
  have EX1 := not_word s hs
  have EX2 := not_word l hl
  obtain ⟨s', hs'⟩ : ∃ s', B64 - 1 - s = s' := ⟨_, rfl⟩
  obtain ⟨l', hl'⟩ : ∃ l', B64 - 1 - l = l' := ⟨_, rfl⟩
  rw [hs'] at EX1
  rw [hl'] at EX2
  have no1 : IsRec d v → c = 0 ∧ s' = 0 ∧ l' < d := by
    rintro ⟨r, hrd, er⟩
    obtain ⟨k1, k2⟩ := rec_high hd hl hrd er et
    have : c = 0 := by
      rcases Nat.eq_zero_or_pos c with h0 | h0
      · exact h0
      · have := Nat.mul_le_mul_right B64 h0
        omega
    subst this
    omega
  have yes1 : c = 0 → s' = 0 → l' < d → IsRec d v := by
    intro a1 a2 a3
    subst a1
    have h1 : h + d = B64 - 1 := by omega
    exact ⟨l', a3, by rw [← hl']; exact rec_of (by decide) hd hl et h1 (by omega)⟩
  have hc2 : c = 0 ∨ c = 1 := by omega
  clear hcall es hs et hl hh hc hd hv hs' hl' hB
  by_cases c0 : c = 0
  · subst c0
    by_cases s0 : s' = 0
    · subst s0
      by_cases l0 : l' < d
      · refine ⟨true, by simp [yes1 rfl rfl l0], fun W => ?_⟩
        have l1 : (l' : Int) < d := by omega
        clear no1 yes1 hc2 l0
        go_enter Try.func65, Try.ntmps65
        go_wp2_with (fail)
        refine (H.out _).mono ?_
        rintro e W1 ⟨rfl, hb⟩
        go_wp2_with (fail)
        exact bodyPost_ret (v := .bool true) (by simp [results, Try.results65, go_sem]) rfl ⟨rfl, hb.alloc hb.size _⟩
      · refine ⟨false, by simp; intro h; exact l0 (no1 h).2.2, fun W => ?_⟩
        have l1 : decide ((l' : Int) < d) = false := by simp; omega
        clear no1 yes1 hc2
        go_enter Try.func65, Try.ntmps65
        go_wp2_with (fail)
        refine (H.out _).mono ?_
        rintro e W1 ⟨rfl, hb⟩
        go_wp2_with (fail)
        exact bodyPost_ret (v := .bool false) (by simp [results, Try.results65, go_sem]) rfl ⟨rfl, hb.alloc hb.size _⟩
    · refine ⟨false, by simp; intro h; exact s0 (no1 h).2.1, fun W => ?_⟩
      have s1 : ((s' : Int) == 0) = false := by simp; omega
      clear no1 yes1 hc2 s0
      go_enter Try.func65, Try.ntmps65
      go_wp2_with (fail)
      refine (H.out _).mono ?_
      rintro e W1 ⟨rfl, hb⟩
      go_wp2_with (fail)
      exact bodyPost_ret (v := .bool false) (by simp [results, Try.results65, go_sem]) rfl ⟨rfl, hb.alloc hb.size _⟩
  · refine ⟨false, by simp; intro h; exact c0 (no1 h).1, fun W => ?_⟩
    have c1 : c = 1 := by omega
    subst c1
    clear no1 yes1 hc2 c0
    go_enter Try.func65, Try.ntmps65
    go_wp2_with (fail)
    refine (H.out _).mono ?_
    rintro e W1 ⟨rfl, hb⟩
    go_wp2_with (fail)
    exact bodyPost_ret (v := .bool false) (by simp [results, Try.results65, go_sem]) rfl ⟨rfl, hb.alloc hb.size _⟩

/-- words.ByReciprocal refuses a low d -/
theorem ByRec_low (h l d v : Int) (h1 : d < 9223372036854775808) (W : World) : Calls Try.prog 36 #[.int .u64 h, .int .u64 l, .int .u64 d, .int .u64 v] W fun e W' => e = .returned (.tuple #[.int .u64 0, .int .u64 0, .int .i64 1]) ∧ W = W' := by
  go_enter Try.func36, Try.ntmps36
  go_wp2_with (fail)
  exact bodyPost_ret (v := .tuple #[.int .u64 0, .int .u64 0, .int .i64 1]) (by simp [results, Try.results36, go_sem]) rfl ⟨rfl, rfl⟩

theorem ByRec_not (h l d v : Nat) (e1 : decide ((d : Int) < 9223372036854775808) = false) (hd : d < B64) (hv : v < B64) (hn : ¬ IsRec d v) (W : World) : Calls Try.prog 36 #[.int .u64 h, .int .u64 l, .int .u64 d, .int .u64 v] W fun e W' => e = .returned (.tuple #[.int .u64 0, .int .u64 0, .int .i64 1]) ∧ Below W.heap.size W W' := by
  obtain ⟨b, hb, hcall⟩ := isRec_any d v hd hv
  have b0 : b = false := by
    rcases Bool.eq_false_or_eq_true b with h0 | h0
    · exact absurd (hb.1 h0) hn
    · exact h0
  subst b0
  have H := Lib.hid hcall
  clear hcall hb hn hd hv
  go_enter Try.func36, Try.ntmps36
  go_wp2_with (fail)
  refine (H.out _).mono ?_
  rintro e W1 ⟨rfl, hb⟩
  go_wp2_with (fail)
  exact bodyPost_ret (v := .tuple #[.int .u64 0, .int .u64 0, .int .i64 1]) (by simp [results, Try.results36, go_sem]) rfl ⟨rfl, hb⟩

theorem ByRec_high (h l d v : Nat) (e1 : decide ((d : Int) < 9223372036854775808) = false) (hd : d < B64) (hv : v < B64) (hn : IsRec d v) (hh : d ≤ h) (W : World) : Calls Try.prog 36 #[.int .u64 h, .int .u64 l, .int .u64 d, .int .u64 v] W fun e W' => e = .returned (.tuple #[.int .u64 0, .int .u64 0, .int .i64 1]) ∧ Below W.heap.size W W' := by
  obtain ⟨b, hb, hcall⟩ := isRec_any d v hd hv
  have b0 : b = true := hb.2 hn
  subst b0
  have e2 : (d : Int) ≤ h := by omega
  have H := Lib.hid hcall
  clear hcall hb hn hd hv hh
  go_enter Try.func36, Try.ntmps36
  go_wp2_with (fail)
  refine (H.out _).mono ?_
  rintro e W1 ⟨rfl, hb⟩
  go_wp2_with (fail)
  exact bodyPost_ret (v := .tuple #[.int .u64 0, .int .u64 0, .int .i64 1]) (by simp [results, Try.results36, go_sem]) rfl ⟨rfl, hb⟩
end Go.Proofs.Ytnhoodpglbjhhaa
