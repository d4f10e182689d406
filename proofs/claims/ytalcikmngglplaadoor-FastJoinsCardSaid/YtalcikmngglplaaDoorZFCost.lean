/- The contracts of fast.Products and its parts, and of the reference's. -/
import Derived.Test.YtalcikmngglplaaDoorP8
namespace Go.Proofs.YtalcikmngglplaaDoor
open Go.RowKit Go.Shelf
set_option linter.unusedVariables false
set_option linter.unusedSimpArgs false
set_option maxRecDepth 10000

/-- the products that Karatsuba makes, and Toom -/
def kmF : Nat → Nat → Nat
  | 0, _ => 1
  | f + 1, n => if n ≤ 1 then 1 else 3 * kmF f (n / 2)
def tmF : Nat → Nat → Nat
  | 0, n => n * n
  | f + 1, n => if n ≤ 2 then n * n else 5 * tmF f ((n + 2) / 3)
theorem kmF_le : ∀ f n, kmF f n ≤ 3 ^ f
  | 0, _ => Nat.le_refl _
  | f + 1, n => by
    have h := kmF_le f (n / 2)
    rw [kmF, Nat.pow_succ]
    have := Nat.pow_pos (n := f) (show 0 < 3 by decide)
    split <;> omega
theorem sq_small {n : Nat} (h : n ≤ 2) : n * n ≤ 4 := by
  rcases (show n = 0 ∨ n = 1 ∨ n = 2 by omega) with rfl | rfl | rfl <;> decide
theorem tmF_le : ∀ f n, n ≤ 2 * 3 ^ f → tmF f n ≤ 4 * 5 ^ f
  | 0, n, h => by rw [tmF]; exact sq_small (by simpa using h)
  | f + 1, n, h => by
    have h1 := tmF_le f ((n + 2) / 3) (by rw [Nat.pow_succ] at h; omega)
    rw [tmF, Nat.pow_succ]
    have := Nat.pow_pos (n := f) (show 0 < 5 by decide)
    split
    · rename_i h2; have := sq_small h2; omega
    · omega

theorem schoolP_ok (n m : Nat) (w : World) (hm : n * n = m) (hn : n ≤ 100000) : Calls Tryd.prog 86 #[.int .i64 (n : Int)] w fun e w' => e = .returned (.int .i64 (m : Int)) ∧ w = w' := by
  have hm5 : m ≤ 10000000000 := by rw [← hm]; exact Nat.mul_le_mul hn hn
  have hmi : (n : Int) * (n : Int) = (m : Int) := by rw [← hm]; push_cast; rfl
  have hw : IntKind.i64.wrap (m : Int) = (m : Int) := IntWalk.i64_in _ (by omega)
  clear hm
  go_enter Tryd.func86, Tryd.ntmps86
  go_wp2
  go_ret
  exact ⟨rfl, rfl⟩

set_option maxHeartbeats 400000 in
theorem kara_ok : ∀ (f n : Nat), 1 ≤ n → n < 2 ^ (f + 1) → f ≤ 20 → ∀ w : World, Calls Tryd.prog 87 #[.int .i64 (n : Int)] w fun e w' => e = .returned (.int .i64 (kmF f n : Int)) ∧ w = w'
  | f, n, h1, h2, hf, w => by
    by_cases hn : n = 1
    · subst hn
      have hk : kmF f 1 = 1 := by cases f <;> simp [kmF]
      rw [hk]
      clear h1 h2
      go_enter Tryd.func87, Tryd.ntmps87
      go_wp2
      go_ret
      exact ⟨rfl, rfl⟩
    · obtain ⟨g, rfl⟩ : ∃ g, f = g + 1 := by
        cases f with
        | zero => simp at h2; omega
        | succ g => exact ⟨g, rfl⟩
      obtain ⟨m, hm⟩ : ∃ m, m = n / 2 := ⟨_, rfl⟩
      have ih := Lib.hid (kara_ok g m (by omega) (by rw [Nat.pow_succ] at h2; omega) (by omega) w)
      obtain ⟨k, hk⟩ : ∃ k, kmF g m = k := ⟨_, rfl⟩
      have hk2 : kmF (g + 1) n = 3 * k := by rw [kmF, if_neg (by omega), ← hm, hk]
      rw [hk2]
      rw [hk] at ih
      have hk3 := kmF_le g m
      have hk4 : 3 ^ g ≤ 3 ^ 20 := Nat.pow_le_pow_right (by decide) (by omega)
      have hk5 : k ≤ 3486784401 := by rw [hk] at hk3; exact Nat.le_trans hk3 hk4
      have hd : (n : Int).tdiv 2 = (m : Int) := by rw [Int.tdiv_eq_ediv_of_nonneg (by omega)]; omega
      have hd2 : (n : Int) / 2 = (m : Int) := by omega
      have hn5 : ((n : Int) == 1) = false := by simp; omega
      have hwm : IntKind.i64.wrap (m : Int) = (m : Int) := by
        have : 2 ^ (g + 1 + 1) ≤ 2 ^ 22 := Nat.pow_le_pow_right (by decide) (by omega)
        exact IntWalk.i64_in _ (by omega)
      have hw3 : IntKind.i64.wrap (3 * (k : Int)) = 3 * (k : Int) := IntWalk.i64_in _ (by omega)
      have hc : ((3 * k : Nat) : Int) = 3 * (k : Int) := by omega
      rw [hc]
      clear h1 h2 hm hk hk2 hk3 hk4 hn
      go_enter Tryd.func87, Tryd.ntmps87
      go_wp2_with (fail)
      refine ih.out.mono ?_
      rintro e w1 ⟨rfl, rfl⟩
      go_wp2_with (fail)
      go_ret
      exact ⟨rfl, rfl⟩

set_option maxHeartbeats 400000 in
theorem toomP_ok : ∀ (f n : Nat), n ≤ 2 * 3 ^ f → f ≤ 9 → ∀ w : World, Calls Tryd.prog 88 #[.int .i64 (n : Int)] w fun e w' => e = .returned (.int .i64 (tmF f n : Int)) ∧ w = w'
  | f, n, h2, hf, w => by
    by_cases hn : n ≤ 2
    · obtain ⟨m, hm⟩ : ∃ m, n * n = m := ⟨_, rfl⟩
      have hk : tmF f n = m := by cases f <;> simp [tmF, hm, hn]
      rw [hk]
      have hni : (n : Int) ≤ 2 := by omega
      have hm5 : m ≤ 4 := by rw [← hm]; exact sq_small hn
      have hmi : (n : Int) * (n : Int) = (m : Int) := by rw [← hm]; push_cast; rfl
      clear h2 hk
      go_enter Tryd.func88, Tryd.ntmps88
      go_wp2_with (fail)
      refine (schoolP_ok n m w hm (by omega)).mono ?_
      rintro e w1 ⟨rfl, rfl⟩
      go_wp2_with (fail)
      go_ret
      exact ⟨rfl, rfl⟩
    · obtain ⟨g, rfl⟩ : ∃ g, f = g + 1 := by
        cases f with
        | zero => simp at h2; omega
        | succ g => exact ⟨g, rfl⟩
      obtain ⟨m, hm⟩ : ∃ m, m = (n + 2) / 3 := ⟨_, rfl⟩
      have hm9 : m ≤ 2 * 3 ^ g := by rw [Nat.pow_succ] at h2; omega
      have ih := Lib.hid (toomP_ok g m hm9 (by omega) w)
      obtain ⟨k, hk⟩ : ∃ k, tmF g m = k := ⟨_, rfl⟩
      have hk2 : tmF (g + 1) n = 5 * k := by rw [tmF, if_neg (by omega), ← hm, hk]
      rw [hk2]
      rw [hk] at ih
      have hk3 := tmF_le g m hm9
      have hk4 : 5 ^ g ≤ 5 ^ 9 := Nat.pow_le_pow_right (by decide) (by omega)
      have hk6 : 3 ^ g ≤ 3 ^ 9 := Nat.pow_le_pow_right (by decide) (by omega)
      have hk5 : k ≤ 7812500 := by rw [hk] at hk3; omega
      have hn9 : n ≤ 200000 := by omega
      have hd : ((n : Int) + 2).tdiv 3 = (m : Int) := by rw [Int.tdiv_eq_ediv_of_nonneg (by omega)]; omega
      have hd2 : ((n : Int) + 2) / 3 = (m : Int) := by omega
      have hni : ¬ (n : Int) ≤ 2 := by omega
      have hwm : IntKind.i64.wrap (m : Int) = (m : Int) := IntWalk.i64_in _ (by omega)
      have hw2 : IntKind.i64.wrap ((n : Int) + 2) = (n : Int) + 2 := IntWalk.i64_in _ (by omega)
      have hw3 : IntKind.i64.wrap (5 * (k : Int)) = 5 * (k : Int) := IntWalk.i64_in _ (by omega)
      have hc : ((5 * k : Nat) : Int) = 5 * (k : Int) := by omega
      rw [hc]
      clear h2 hm hk hk2 hk3 hk4 hk6 hn hm9
      go_enter Tryd.func88, Tryd.ntmps88
      go_wp2_with (fail)
      refine ih.out.mono ?_
      rintro e w1 ⟨rfl, rfl⟩
      go_wp2_with (fail)
      go_ret
      exact ⟨rfl, rfl⟩

/-- what three ways take -/
def costV (n : Nat) : List Value := [.int .i64 ((n * n : Nat) : Int), .int .i64 (kmF 14 n : Int), .int .i64 (tmF 9 n : Int)]
end Go.Proofs.YtalcikmngglplaaDoor

