/- The contract of reckonerref03.Split, and of the law's few. -/
import Derived.Test.YtalcikmngglplaaDoorZFSplit
import Derived.Test.YtalcikmngglplaaDoorP4
import Derived.Test.YtalcikmngglplaaDoorZFKar
namespace Go.Proofs.YtalcikmngglplaaDoor
open Go.RowKit Go.Shelf
set_option linter.unusedVariables false
set_option linter.unusedSimpArgs false
set_option maxRecDepth 10000

theorem V_drop_div {xs : List Nat} (hw : Ws xs) (k : Nat) : V (xs.drop k) = V xs / B64 ^ k := by
  rcases Nat.le_total k xs.length with h | h
  · exact V_dropped hw h
  · rw [List.drop_of_length_le h, Nat.div_eq_of_lt (Nat.lt_of_lt_of_le (V_lt _ hw) (Nat.pow_le_pow_right B64_pos h))]
    rfl
theorem pw_val {xs : List Nat} (hw : Ws xs) (n i : Nat) : V (pw xs n i) = V xs / B64 ^ (i * n) % B64 ^ n := by
  rw [pw, V_low (Ws_drop hw _), V_drop_div hw]
/-- numbers appended so far -/
def NsA (w : World) (f : Nat → Nat) (k : Nat) (v : Value) (ls : List (Option Addr × Nat × Nat)) (W : World) : Prop :=
  W.ownsRow w.heap.size 23 1 v k (svs ls) ∧ ls.length = k ∧ NsL w W ls f ∧ Below w.heap.size w W
theorem NsA.next {w W w3 W2 : World} {f : Nat → Nat} {k : Nat} {v v' : Value} {ls : List (Option Addr × Nat × Nat)} {A : Option Addr} {n c : Nat} {zs : List Nat} (h : NsA w f k v ls W) (hb : Below W.heap.size W w3) (hN : Nw W w3 (.slice A n c) n zs) (hc : Cn zs) (hv : V zs = f k)
    (hown : W2.ownsRow w.heap.size 23 1 v' (k + 1) (svs ls ++ [.slice A n c])) (hgrow : (w3.alloc (.cells #[.slice A n c] 23)).grownBy W2 v.ownBlock) : NsA w f (k + 1) v' (ls ++ [(A, n, c)]) W2 := by
  obtain ⟨h1, h2, h3, h5⟩ := h
  have h1' := own_below h1 hb (Nat.le_refl _)
  have hal : Below w3.heap.size w3 (w3.alloc (.cells #[.slice A n c] 23)) := (Below.refl _ _).alloc (Nat.le_refl _) _
  have e2 : 23 ≠ 24 := by decide
  have hb3 : Below w.heap.size w w3 := h5.trans (hb.mono h5.size)
  have hn3 := ((h3.below hb).add h2 (hN.later h5.size (Below.refl _ _)) hc hv).below hal
  refine ⟨?_, by simp [h2], hn3.grown hgrow (fun r e base v4 n4 vs4 ho => own_ne (own_below h1' hal (Nat.le_refl _)) ho e2 r e), ?_⟩
  · have : svs (ls ++ [(A, n, c)]) = svs ls ++ [.slice A n c] := by simp [svs]
    rw [this]
    exact hown
  · exact (hb3.trans (hal.mono hb3.size)).grown hgrow (by have := hb3.size; have := hal.size; omega) (fun j hj => (h1.lt j hj).1)
theorem NsA.below {w W W' : World} {f : Nat → Nat} {k : Nat} {v : Value} {ls : List (Option Addr × Nat × Nat)} (h : NsA w f k v ls W) (hb : Below W.heap.size W W') : NsA w f k v ls W' :=
  ⟨own_below h.1 hb (Nat.le_refl _), h.2.1, h.2.2.1.below hb, h.2.2.2.trans (hb.mono h.2.2.2.size)⟩
theorem Nu.nw {w w' : World} {A : Option Addr} {n c x : Nat} {zs : List Nat} (h : Nu w w' A n c zs x) : Nw w w' (.slice A n c) n zs := by
  obtain ⟨n', zs', h1, h2, h3⟩ := h.2.2.2.2.1
  obtain ⟨A', c', e, hs⟩ := h1.sl
  injection e with e1 e2 e3
  subst e1 e2 e3
  have e4 : zs' = zs := Cn_inj hs.2.2.2.1 h.1.2.2.2.1 h2 h.2.1 (by rw [h3, h.2.2.1])
  subst e4
  exact h1
theorem len_less {x n k m n' : Nat} {z : List Nat} (hw : Ws z) (hc : Cn z) (hl : z.length = n') (hx : x < B64 ^ m) (hv : V z = x / B64 ^ n) (hn : 1 ≤ n) (hm : 0 < m) : n' < m := by
  have h1 : V z < B64 ^ (m - 1) := by
    rw [hv]
    refine Nat.div_lt_of_lt_mul (Nat.lt_of_lt_of_le hx ?_)
    rw [← Nat.pow_add]
    exact Nat.pow_le_pow_right B64_pos (by omega)
  have := (Cn_len hw hc (m - 1)).2 h1
  omega
def lenOf : Value → Nat
  | .slice _ n _ => n
  | _ => 0
/-- what the reference's Split answers -/
def RSplitR (w w' : World) (z : Ending) (X N n : Nat) : Prop :=
  ∃ A c ls, ls.length = N ∧ z = .returned (.slice A N c) ∧ w'.ownsRow w.heap.size 23 1 (.slice A N c) N (svs ls) ∧ NsL w w' ls (fun i => X / B64 ^ (i * n) % B64 ^ n) ∧ Below w.heap.size w w'
theorem split_more {X q k n : Nat} (h1 : X < B64 ^ q) (h2 : 0 < q → B64 ^ (q - 1) ≤ X) : 0 < X / B64 ^ (k * n) ↔ k * n < q := by
  rw [Nat.div_pos_iff]
  constructor
  · rintro ⟨-, h⟩
    rcases Nat.lt_or_ge (k * n) q with h3 | h3
    · exact h3
    · have := Nat.pow_le_pow_right (n := B64) B64_pos h3
      omega
  · intro h
    exact ⟨Nat.pow_pos B64_pos, Nat.le_trans (Nat.pow_le_pow_right B64_pos (by omega)) (h2 (by omega))⟩

end Go.Proofs.YtalcikmngglplaaDoor

