/- Rows of zeros. -/
import Derived.Test.YtekikolhnfofeaaMem
namespace Go.Proofs.Ytekikolhnfofeaa
open Go.RowKit
set_option linter.unusedVariables false

theorem V_zeros (n : Nat) : V (List.replicate n 0) = 0 := by
  induction n with
  | zero => rfl
  | succ n ih => rw [List.replicate_succ, V, ih]; rfl
theorem Nw_zeros {w1 : World} {n g B : Nat} (h : w1.ownsRow B 37 1 (.slice (some ⟨g, 0, none⟩) n n) n (madeCells #[Value.int .u64 0] n).toList) (hn : n ≤ 9223372036854775807) :
    Sl w1 (some ⟨g, 0, none⟩) n n (List.replicate n 0) := by
  have hu : (madeCells #[Value.int .u64 0] n).toList = uvs (List.replicate n 0) := by
    refine List.ext_getElem (by simp [madeCells, uvs]) (fun i h1 h2 => ?_)
    simp [madeCells, uvs, Nat.mod_one]
  rw [hu] at h
  obtain ⟨A, c, e, h1, h2, _, h4⟩ := own_form h
  injection e with e1 e2 e3
  subst e1
  exact ⟨by simp, Nat.le_refl _, hn, fun x hx => by rw [List.eq_of_mem_replicate hx]; decide, h4⟩
end Go.Proofs.Ytekikolhnfofeaa
