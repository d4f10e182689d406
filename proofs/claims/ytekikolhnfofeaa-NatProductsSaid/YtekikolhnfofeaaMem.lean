/- Small laws on worlds behind calls that make memory. -/
import Derived.Test.YtekikolhnfofeaaNewRow
import Derived.Test.YtekikolhnfofeaaVal
import Derived.Deep.RegionWith
import Derived.Deep.RegionHeld3
namespace Go.Proofs.Ytekikolhnfofeaa
open Go.RowKit
set_option linter.unusedVariables false

theorem below2 {w a b : World} (h1 : Below w.drew.heap.size w.drew a) (h2 : Below a.heap.size a b) : Below w.heap.size w b :=
  (show Below w.heap.size w a from ⟨h1.os, h1.tape, h1.output, h1.size, h1.block⟩).trans (h2.mono h1.size)
theorem belowA {w a : World} (h1 : Below w.drew.heap.size w.drew a) : Below w.heap.size w a := ⟨h1.os, h1.tape, h1.output, h1.size, h1.block⟩
theorem belowB {w a : World} {o : Obj} (h1 : Below (w.alloc o).drew.heap.size (w.alloc o).drew a) : Below w.heap.size w a :=
  ((Below.refl _ w).alloc (Nat.le_refl _) o).trans (Below.mono ⟨h1.os, h1.tape, h1.output, h1.size, h1.block⟩ (by simp))
theorem belowC {w a b : World} {o : Obj} (h1 : Below w.heap.size w a) (h2 : Below (a.alloc o).heap.size (a.alloc o) b) : Below w.heap.size w b :=
  (h1.alloc h1.size o).trans (h2.mono (by have := h1.size; simp; omega))
theorem use_ {p q : Prop} (h : p) (k : p → q) : q := k h
theorem blk2 {W w1 : World} {a b : Value} {t : TypeId} (hb : Below (W.alloc (.cells #[a, b] t)).heap.size (W.alloc (.cells #[a, b] t)) w1) :
    w1.cell? ⟨W.heap.size, 0, none⟩ = some a ∧ w1.cell? ⟨W.heap.size, 1, none⟩ = some b ∧ w1.frozen? ⟨W.heap.size, 0, none⟩ = false ∧ w1.frozen? ⟨W.heap.size, 1, none⟩ = false ∧ W.heap.size < w1.heap.size := by
  refine ⟨(hb.cell (p := ⟨W.heap.size, 0, none⟩) (by simp)).trans ?_, (hb.cell (p := ⟨W.heap.size, 1, none⟩) (by simp)).trans ?_, (hb.frozen (p := ⟨W.heap.size, 0, none⟩) (by simp)).trans ?_, (hb.frozen (p := ⟨W.heap.size, 1, none⟩) (by simp)).trans ?_, ?_⟩
  · simp
  · simp
  · simp
  · simp
  · have := hb.size
    simp at this
    omega
theorem blk2d {W w1 : World} {a b : Value} {t : TypeId} (hb : Below (W.alloc (.cells #[a, b] t)).drew.heap.size (W.alloc (.cells #[a, b] t)).drew w1) :
    w1.cell? ⟨W.heap.size, 0, none⟩ = some a ∧ w1.cell? ⟨W.heap.size, 1, none⟩ = some b ∧ w1.frozen? ⟨W.heap.size, 0, none⟩ = false ∧ w1.frozen? ⟨W.heap.size, 1, none⟩ = false ∧ W.heap.size < w1.heap.size :=
  blk2 (W := W) (a := a) (b := b) (t := t) ⟨hb.os, hb.tape, hb.output, hb.size, hb.block⟩
theorem blk2c {W w1 : World} {g : Nat} {a b : Value} (h1 : W.cell? ⟨g, 0, none⟩ = some a) (h2 : W.cell? ⟨g, 1, none⟩ = some b) (h3 : W.frozen? ⟨g, 0, none⟩ = false) (h4 : W.frozen? ⟨g, 1, none⟩ = false) (hg : g < W.heap.size) (hb : Below W.heap.size W w1) :
    w1.cell? ⟨g, 0, none⟩ = some a ∧ w1.cell? ⟨g, 1, none⟩ = some b ∧ w1.frozen? ⟨g, 0, none⟩ = false ∧ w1.frozen? ⟨g, 1, none⟩ = false ∧ g < w1.heap.size :=
  ⟨(hb.cell (p := ⟨g, 0, none⟩) hg).trans h1, (hb.cell (p := ⟨g, 1, none⟩) hg).trans h2, (hb.frozen (p := ⟨g, 0, none⟩) hg).trans h3, (hb.frozen (p := ⟨g, 1, none⟩) hg).trans h4, Nat.lt_of_lt_of_le hg hb.size⟩
/-- two stores into a new block of two cells -/
theorem Below.set2 {w W : World} (h : Below w.heap.size w W) {g : Nat} (hg : w.heap.size ≤ g) (a b : Value) : Below w.heap.size w ((W.setCell ⟨g, 0, none⟩ a).setCell ⟨g, 1, none⟩ b) :=
  (h.setCell (p := ⟨g, 0, none⟩) hg _).setCell (p := ⟨g, 1, none⟩) hg _
theorem keep4 {a b c d e : Prop} (h : a ∧ b ∧ c ∧ d ∧ e) : a ∧ b ∧ c ∧ d := ⟨h.1, h.2.1, h.2.2.1, h.2.2.2.1⟩
theorem fin_word {w W : World} {g : Nat} {v : Value} (h : Wd w g v) (hg : g < w.heap.size) (hB : Below w.heap.size w W) (u : Value) : Wd (W.setCell ⟨g, 0, none⟩ u) g u ∧ w.grownBy (W.setCell ⟨g, 0, none⟩ u) (some g) :=
  ⟨(h.below hB hg).set u, grown_trans (grown_below (World.grownBy.refl w _) hB) (grown_set _ _ _ _)⟩
end Go.Proofs.Ytekikolhnfofeaa
