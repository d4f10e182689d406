/- The contracts of reckonerref03.Mul and Add. -/
import Derived.Test.YthpgdpkemnhneaaGreatDoorZRZ
import Derived.Test.YthpgdpkemnhneaaGreatDoorP1
namespace Go.Proofs.YthpgdpkemnhneaaGreatDoor
open Go.RowKit Go.Shelf
set_option linter.unusedVariables false
set_option linter.unusedSimpArgs false
set_option maxRecDepth 10000

/-- the boxes of two integers, and the result's place -/
def Z3 (w W : World) (s s' : Bool) (A A' : Option Addr) (n n' c c' : Nat) : Prop :=
  (W.cell? ⟨w.heap.size, 0, none⟩ = some (.bool s) ∧ W.cell? ⟨w.heap.size, 1, none⟩ = some (.slice A n c) ∧ W.cell? ⟨w.heap.size + 1, 0, none⟩ = some (.bool s') ∧ W.cell? ⟨w.heap.size + 1, 1, none⟩ = some (.slice A' n' c')) ∧
  Bk W (w.heap.size + 1 + 1) [.bool false, .slice none 0 0] ∧ Below w.heap.size w W ∧ w.heap.size + 1 + 1 < W.heap.size
theorem Z3.keep {w W W' : World} {s s' : Bool} {A A' : Option Addr} {n n' c c' : Nat} (h : Z3 w W s s' A A' n n' c c') (hb : Below W.heap.size W W') : Z3 w W' s s' A A' n n' c c' := by
  obtain ⟨⟨h1, h2, h3, h4⟩, h5, h6, h7⟩ := h
  have k : ∀ {p : Addr} {u : Value}, W.cell? p = some u → W'.cell? p = some u := fun {p u} h => (hb.cell (World.block_lt_of_cell? _ _ h)).trans h
  exact ⟨⟨k h1, k h2, k h3, k h4⟩, h5.below hb h7, h6.trans (hb.mono h6.size), Nat.lt_of_lt_of_le h7 hb.size⟩
theorem Z3.new (w : World) (s s' : Bool) (A A' : Option Addr) (n n' c c' : Nat) : Z3 w (((w.alloc (.cells #[.bool s, .slice A n c] 32)).alloc (.cells #[.bool s', .slice A' n' c'] 32)).alloc (.cells #[.bool false, .slice none 0 0] 32)) s s' A A' n n' c c' := by
  have hal : ∀ (W : World) (o : Obj), Below W.heap.size W (W.alloc o) := fun W o => (Below.refl _ _).alloc (Nat.le_refl _) _
  have k0 := ((Bk.new w [.bool s, .slice A n c] 32).below (hal _ (.cells #[.bool s', .slice A' n' c'] 32)) (by simp)).below (hal _ (.cells #[.bool false, .slice none 0 0] 32)) (by simp; omega)
  have k1 := (Bk.new (w.alloc (.cells #[.bool s, .slice A n c] 32)) [.bool s', .slice A' n' c'] 32).below (hal _ (.cells #[.bool false, .slice none 0 0] 32)) (by simp)
  have k2 := Bk.new ((w.alloc (.cells #[.bool s, .slice A n c] 32)).alloc (.cells #[.bool s', .slice A' n' c'] 32)) [.bool false, .slice none 0 0] 32
  simp only [World.size_alloc] at k0 k1 k2
  exact ⟨⟨(k0 0 _ rfl).1, (k0 1 _ rfl).1, (k1 0 _ rfl).1, (k1 1 _ rfl).1⟩, k2, (((Below.refl _ w).alloc (Nat.le_refl _) _).alloc (by simp) _).alloc (by simp; omega) _, by simp⟩
/-- the result, stored -/
theorem Zr.done3 {w W w4 : World} {s s' b : Bool} {A A' A4 : Option Addr} {n n' c c' n4 c4 : Nat} {z : Int} {u v : Value} (hz : Zr W w4 (.returned (.agg #[.bool b, .slice A4 n4 c4])) z) (h : Z3 w W s s' A A' n n' c c') :
    Zr w ((w4.setCell ⟨w.heap.size + 1 + 1, 0, none⟩ u).setCell ⟨w.heap.size + 1 + 1, 1, none⟩ v) (.returned (.agg #[.bool b, .slice A4 n4 c4])) z :=
  hz.put h.2.2.1 (by omega) h.2.2.2
theorem Z3.put {w W : World} {s s' : Bool} {A A' : Option Addr} {n n' c c' : Nat} {u v : Value} (h : Z3 w W s s' A A' n n' c c') :
    ((W.setCell ⟨w.heap.size + 1 + 1, 0, none⟩ u).setCell ⟨w.heap.size + 1 + 1, 1, none⟩ v).cell? ⟨w.heap.size, 0, none⟩ = some (.bool s) ∧ ((W.setCell ⟨w.heap.size + 1 + 1, 0, none⟩ u).setCell ⟨w.heap.size + 1 + 1, 1, none⟩ v).cell? ⟨w.heap.size, 1, none⟩ = some (.slice A n c) ∧
    ((W.setCell ⟨w.heap.size + 1 + 1, 0, none⟩ u).setCell ⟨w.heap.size + 1 + 1, 1, none⟩ v).cell? ⟨w.heap.size + 1, 0, none⟩ = some (.bool s') ∧ ((W.setCell ⟨w.heap.size + 1 + 1, 0, none⟩ u).setCell ⟨w.heap.size + 1 + 1, 1, none⟩ v).cell? ⟨w.heap.size + 1, 1, none⟩ = some (.slice A' n' c') := by
  obtain ⟨⟨h1, h2, h3, h4⟩, -⟩ := h
  refine ⟨?_, ?_, ?_, ?_⟩ <;> (rw [World.cell?_setCell_other _ _ _ _ (by simp; try omega), World.cell?_setCell_other _ _ _ _ (by simp; try omega)]; assumption)
theorem Zr.bel {w w' : World} {e : Ending} {z : Int} (h : Zr w w' e z) : Below w.heap.size w w' := by obtain ⟨_, _, _, _, _, _, _, _, h⟩ := h; exact h

end Go.Proofs.YthpgdpkemnhneaaGreatDoor

