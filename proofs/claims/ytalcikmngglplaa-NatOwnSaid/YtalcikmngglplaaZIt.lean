/- Numbers as the laws keep them: a row, its value. -/
import Derived.Test.YtalcikmngglplaaP6
import Derived.Test.YtalcikmngglplaaZNCmp
import Derived.Test.YtalcikmngglplaaZLawR
namespace Go.Proofs.Ytalcikmngglplaa
open Go.RowKit
set_option linter.unusedVariables false
set_option linter.unusedSimpArgs false

/-- a row of at most 4096 words, of value x -/
def It (w : World) (A : Option Addr) (n c : Nat) (zs : List Nat) (x : Nat) : Prop := Sl w A n c zs ∧ V zs = x ∧ n ≤ 4096
theorem It.keep {w w' : World} {A : Option Addr} {n c x : Nat} {zs : List Nat} (h : It w A n c zs x) (hb : Below w.heap.size w w') : It w' A n c zs x := ⟨h.1.below hb, h.2⟩
theorem Nu.it {w w' : World} {A : Option Addr} {n c x : Nat} {zs : List Nat} (h : Nu w w' A n c zs x) : It w' A n c zs x := ⟨h.1, h.2.2.1, h.2.2.2.1⟩
theorem cmpI_same (x : Nat) : cmpI x x = 0 := by simp [cmpI]
theorem total3 (a b c : List Nat) : total [a, b, c] = V a + V b + V c := by simp [total]; omega
theorem chkS_3 {A1 A2 A3 : Option Addr} {n1 n2 n3 c1 c2 c3 : Nat} (h1 : n1 ≤ 4096) (h2 : n2 ≤ 4096) (h3 : n3 ≤ 4096) : chkS [(A1, n1, c1), (A2, n2, c2), (A3, n3, c3)] = 0 := by
  simp only [chkS, List.any_cons, List.any_nil, Bool.or_false, Bool.or_eq_true, decide_eq_true_eq]
  rw [if_neg (by omega)]
/-- a list of three numbers -/
theorem nl3 (W : World) {A1 A2 A3 : Option Addr} {n1 n2 n3 c1 c2 c3 : Nat} {x1 x2 x3 : List Nat} (h1 : Sl W A1 n1 c1 x1) (h2 : Sl W A2 n2 c2 x2) (h3 : Sl W A3 n3 c3 x3) :
    Nl (W.alloc (.cells #[.slice A1 n1 c1, .slice A2 n2 c2, .slice A3 n3 c3] 23)) (some ⟨W.heap.size, 0, none⟩) 3 3 [(A1, n1, c1), (A2, n2, c2), (A3, n3, c3)] [x1, x2, x3] := by
  have hb : Below W.heap.size W (W.alloc (.cells #[.slice A1 n1 c1, .slice A2 n2 c2, .slice A3 n3 c3] 23)) := (Below.refl _ _).alloc (Nat.le_refl _) _
  refine ⟨rfl, fun _ => ⟨W.heap.size, 0, rfl, by simp, fun j u hj => ?_⟩, rfl, fun i s xs e1 e2 => ?_⟩
  · match j, hj with
    | 0, hj => simp [svs] at hj; subst hj; simp
    | 1, hj => simp [svs] at hj; subst hj; simp
    | 2, hj => simp [svs] at hj; subst hj; simp
  · match i, e1, e2 with
    | 0, e1, e2 => simp at e1 e2; subst e1 e2; exact h1.below hb
    | 1, e1, e2 => simp at e1 e2; subst e1 e2; exact h2.below hb
    | 2, e1, e2 => simp at e1 e2; subst e1 e2; exact h3.below hb
/-- Sum of a new list: two numbers and a word -/
theorem Sum_3 {w : World} {A1 A2 : Option Addr} {n1 n2 c1 c2 x y z : Nat} {x1 x2 : List Nat} (h1 : It w A1 n1 c1 x1 x) (h2 : It w A2 n2 c2 x2 y) (hz : z < B64) :
    Calls Try.prog 47 #[.slice (some ⟨w.heap.size + 1, 0, none⟩) 3 3] ((w.alloc (.cells #[.int .u64 (z : Int)] 37)).alloc (.cells #[.slice A1 n1 c1, .slice A2 n2 c2, .slice (some ⟨w.heap.size, 0, none⟩) 1 1] 23)) fun e w' => Rs w w' e (x + y + z) := by
  have hW : Below w.heap.size w (w.alloc (.cells #[.int .u64 (z : Int)] 37)) := (Below.refl _ _).alloc (Nat.le_refl _) _
  have hN := nl3 (w.alloc (.cells #[.int .u64 (z : Int)] 37)) (h1.1.below hW) (h2.1.below hW) (Sl_one w z hz)
  have hb : Below w.heap.size w ((w.alloc (.cells #[.int .u64 (z : Int)] 37)).alloc (.cells #[.slice A1 n1 c1, .slice A2 n2 c2, .slice (some ⟨w.heap.size, 0, none⟩) 1 1] 23)) := hW.alloc (by simp) _
  have hs : (w.alloc (.cells #[.int .u64 (z : Int)] 37)).heap.size = w.heap.size + 1 := by simp
  rw [hs] at hN
  refine (Sum_ok _ _ 3 3 _ _ (by omega) (chkS_3 h1.2.2 h2.2.2 (by omega)) hN).mono fun e w' hR => ?_
  rw [total3, h1.2.1, h2.2.1, V_one] at hR
  exact hR.from hb
end Go.Proofs.Ytalcikmngglplaa
