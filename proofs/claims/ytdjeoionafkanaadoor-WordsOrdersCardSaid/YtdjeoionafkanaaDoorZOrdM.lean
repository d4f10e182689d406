/- Both ways to count bits give the same. -/
import Derived.Test.YtdjeoionafkanaaDoorP5
import Derived.Test.YtdjeoionafkanaaDoorZCnt
import Derived.Test.YtdjeoionafkanaaDoorZBacksM
namespace Go.Proofs.YtdjeoionafkanaaDoor
open Go.RowKit
set_option linter.unusedVariables false

theorem cO_pcn (w : Nat) : ∀ k, cO w k = pcn w k
  | 0 => rfl
  | k + 1 => by
    rw [cO, pcn, cO_pcn w k]
    split <;> omega
theorem cL_lzn (w : Nat) : ∀ k, lzn w k + cL w k = k
  | 0 => rfl
  | k + 1 => by
    have h := cL_lzn w k
    rw [cL, lzn]
    split <;> omega
theorem cT_tzn (w : Nat) : ∀ k, k ≤ 64 → (tzn w k = k ∧ cT w k = 64) ∨ (tzn w k < k ∧ cT w k = tzn w k)
  | 0, _ => .inl ⟨rfl, rfl⟩
  | k + 1, hk => by
    have h := cT_tzn w k (by omega)
    rw [cT, tzn]
    rcases h with ⟨h1, h2⟩ | ⟨h1, h2⟩
    · rw [h2, if_pos h1]
      split <;> omega
    · rw [h2, if_neg (show ¬ tzn w k = k by omega)]
      split <;> omega
theorem counts_same (x : Nat) : ((64 : Int) - (cL x 64 : Nat)) = ((lzn x 64 : Nat) : Int) ∧ cT x 64 = tzn x 64 ∧ cO x 64 = pcn x 64 := by
  have h1 := cL_lzn x 64
  have h2 := cT_tzn x 64 (by omega)
  exact ⟨by omega, by omega, cO_pcn x 64⟩
/-- what is negated is known -/
theorem neg_uniq {us vs xs : List Nat} {n d e : Nat} (wu : Ws us) (wv : Ws vs) (lu : us.length = n) (lv : vs.length = n) (h : d * B64 ^ n = V us + V xs) (h' : e * B64 ^ n = V vs + V xs) : us = vs ∧ d = e := by
  have l1 := V_lt us wu
  have l2 := V_lt vs wv
  rw [lu] at l1
  rw [lv] at l2
  obtain ⟨e1, e2⟩ := uniq (x := V us) (y := V vs) (d := e) (e := d) l1 l2 (by omega)
  exact ⟨V_inj us vs wu wv (by omega) e1, e2.symm⟩
end Go.Proofs.YtdjeoionafkanaaDoor
