/- The contract of cmp.Compare of words; rows that are compared from above. -/
import Derived.Test.YtalcikmngglplaaDoorP1
namespace Go.Proofs.YtalcikmngglplaaDoor
open Go.RowKit Go.Shelf
set_option linter.unusedVariables false
set_option linter.unusedSimpArgs false
set_option maxRecDepth 10000

theorem isNaNU (a : Nat) (w : World) : Calls Tryd.prog 62 #[.int .u64 a] w fun e w' => e = .returned (.bool false) ∧ w = w' := by
  go_enter Tryd.func62, Tryd.ntmps62
  go_wp2_with (fail)
  go_ret
  exact ⟨rfl, rfl⟩
set_option maxHeartbeats 400000 in
theorem cmpU_ok (a b : Nat) (w : World) : Calls Tryd.prog 31 #[.int .u64 a, .int .u64 b] w fun e w' => e = .returned (.int .i64 (cmpI a b)) ∧ w = w' := by
  rcases Nat.lt_trichotomy a b with h | h | h
  · have h1 : (a : Int) < (b : Int) := by omega
    rw [cmpI_lt h]
    clear h
    go_enter Tryd.func31, Tryd.ntmps31
    go_wp2_with (fail)
    refine (isNaNU _ _).mono ?_
    rintro e w1 ⟨rfl, rfl⟩
    go_wp2_with (fail)
    refine (isNaNU _ _).mono ?_
    rintro e w1 ⟨rfl, rfl⟩
    go_wp2_with (fail)
    go_ret
    exact ⟨rfl, rfl⟩
  · subst h
    rw [cmpI_eq rfl]
    go_enter Tryd.func31, Tryd.ntmps31
    go_wp2_with (fail)
    refine (isNaNU _ _).mono ?_
    rintro e w1 ⟨rfl, rfl⟩
    go_wp2_with (fail)
    refine (isNaNU _ _).mono ?_
    rintro e w1 ⟨rfl, rfl⟩
    go_wp2_with (fail)
    go_ret
    exact ⟨rfl, rfl⟩
  · have h1 : ¬ (a : Int) < (b : Int) := by omega
    have h2 : (b : Int) < (a : Int) := by omega
    rw [cmpI_gt h]
    clear h
    go_enter Tryd.func31, Tryd.ntmps31
    go_wp2_with (fail)
    refine (isNaNU _ _).mono ?_
    rintro e w1 ⟨rfl, rfl⟩
    go_wp2_with (fail)
    refine (isNaNU _ _).mono ?_
    rintro e w1 ⟨rfl, rfl⟩
    go_wp2_with (fail)
    go_ret
    exact ⟨rfl, rfl⟩
/-- the longer one of two canonical rows is greater -/
theorem Cn_shorter {us vs : List Nat} (hu : Ws us) (cv : Cn vs) (h : us.length < vs.length) : V us < V vs := by
  have h1 := V_lt _ hu
  have h2 := V_ge cv (show vs.length = (vs.length - 1) + 1 by omega)
  exact Nat.lt_of_lt_of_le (Nat.lt_of_lt_of_le h1 (Nat.pow_le_pow_right B64_pos (show us.length ≤ vs.length - 1 by omega))) h2
/-- the highest words that differ tell -/
theorem cmp_top {us vs : List Nat} (hu : Ws us) {i x y : Nat} (hx : us[i]? = some x) (hy : vs[i]? = some y) (he : V (us.drop (i + 1)) = V (vs.drop (i + 1))) (h : x < y) : V us < V vs := by
  have hl : i < us.length := by
    rcases Nat.lt_or_ge i us.length with h1 | h1
    · exact h1
    · rw [List.getElem?_eq_none h1] at hx; cases hx
  have hl' : i < vs.length := by
    rcases Nat.lt_or_ge i vs.length with h1 | h1
    · exact h1
    · rw [List.getElem?_eq_none h1] at hy; cases hy
  have h1 := V_split us i (by omega)
  have h2 := V_split vs i (by omega)
  rw [V_drop _ _ _ hx] at h1
  rw [V_drop _ _ _ hy] at h2
  have h3 := V_lt _ (Ws_take hu i)
  rw [List.length_take, Nat.min_eq_left (by omega)] at h3
  rw [he] at h1
  generalize V (vs.drop (i + 1)) = d at *
  generalize V (us.take i) = a at *
  generalize V (vs.take i) = b at *
  have h4 : (x + B64 * d + 1) * B64 ^ i ≤ (y + B64 * d) * B64 ^ i := Nat.mul_le_mul_right _ (by omega)
  rw [Nat.add_mul _ 1, Nat.one_mul] at h4
  omega

end Go.Proofs.YtalcikmngglplaaDoor
