/- Pieces of the proofs, together: NMany. -/
import Derived.Test.YthpgdpkemnhneaaDoorP1

namespace Go.Proofs.YthpgdpkemnhneaaDoor
open Go.RowKit Go.Shelf
set_option linter.unusedVariables false
set_option maxRecDepth 10000

/-- a slice of numbers, the rows xss -/
def Nl (w : World) (A : Option Addr) (m c : Nat) (ls : List (Option Addr × Nat × Nat)) (xss : List (List Nat)) : Prop :=
  ls.length = m ∧ Rd w w.heap.size A (svs ls) ∧ xss.length = m ∧ ∀ (i : Nat) (s : Option Addr × Nat × Nat) (xs : List Nat), ls[i]? = some s → xss[i]? = some xs → Sl w s.1 s.2.1 s.2.2 xs
theorem Nl.below {w w' : World} {A : Option Addr} {m c : Nat} {ls : List (Option Addr × Nat × Nat)} {xss : List (List Nat)} (h : Nl w A m c ls xss) (hb : Below w.heap.size w w') : Nl w' A m c ls xss :=
  ⟨h.1, (h.2.1.below hb).more hb.size, h.2.2.1, fun i s xs h1 h2 => (h.2.2.2 i s xs h1 h2).below hb⟩
/-- the sum of the first numbers -/
def total (xss : List (List Nat)) : Nat := (xss.map V).sum
theorem total_succ (xss : List (List Nat)) (k : Nat) (h : k < xss.length) : total (xss.take (k + 1)) = total (xss.take k) + V xss[k] := by
  simp only [total]
  rw [List.take_succ_eq_append_getElem h, List.map_append, List.sum_append]; simp
theorem sum_le_of_append (l r : List Nat) : l.sum ≤ (l ++ r).sum := by rw [List.sum_append]; omega
theorem total_le (xss : List (List Nat)) (k : Nat) : total (xss.take k) ≤ total xss := by
  have h := sum_le_of_append ((xss.take k).map V) ((xss.drop k).map V)
  rw [← List.map_append, List.take_append_drop] at h
  exact h

theorem chkS_each {ls : List (Option Addr × Nat × Nat)} (h : chkS ls = 0) (k : Nat) (hk : k < ls.length) : ls[k].2.1 ≤ 4096 := by
  rcases Nat.lt_or_ge 4096 ls[k].2.1 with h1 | h1
  · have := anyS_get (fun s => decide (4096 < s.2.1)) ls k hk (by simpa using h1)
    simp [chkS, this] at h
  · exact h1
end Go.Proofs.YthpgdpkemnhneaaDoor

