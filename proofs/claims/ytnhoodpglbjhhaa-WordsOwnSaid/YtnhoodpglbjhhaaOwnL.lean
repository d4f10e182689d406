/- What WordsOwn's loops keep: rows that may be written, rows that lie below. -/
import Derived.Test.YtnhoodpglbjhhaaEq
import Derived.Test.YtnhoodpglbjhhaaAwake
import Derived.Test.YtnhoodpglbjhhaaAddMul
import Derived.Deep.AppendLies
namespace Go.Proofs.Ytnhoodpglbjhhaa
open Go.RowKit
set_option linter.unusedVariables false

/-- The slice (A, k, _) may be written at each place; it lies in a block from B on, below G. -/
def Free (w : World) (B G : Nat) (A : Option Addr) (k : Nat) : Prop := ∀ j, j < k → ∃ g u, A = some ⟨g, 0, none⟩ ∧ B ≤ g ∧ g < G ∧ w.cell? ⟨g, j, none⟩ = some u ∧ w.frozen? ⟨g, j, none⟩ = false
theorem Free.of_nw {w w' : World} {v : Value} {n : Nat} {zs : List Nat} (h : Nw w w' v n zs) : ∃ A c, v = .slice A n c ∧ Free w' w.heap.size w'.heap.size A n := by
  obtain ⟨A, c, rfl, h1, h2, _, h4⟩ := own_form h.2.2
  refine ⟨A, c, rfl, fun j hj => ?_⟩
  obtain ⟨g, cap, hv, hb, hlt⟩ := World.ownsRow.form h.2.2 (by omega)
  injection hv with hA hn hc
  subst hA
  subst hc
  have hjl : j < zs.length := by rw [h.1]; exact hj
  refine ⟨g, _, rfl, hb, hlt, (World.ownsRow.cellAt h.2.2 j (by omega)).trans (uvs_get (List.getElem?_eq_getElem hjl)), World.ownsRow.frozenAt h.2.2 j⟩
theorem Free.below {w w' : World} {B G B' G' : Nat} {A : Option Addr} {k : Nat} (h : Free w B G A k) (hb : Below w.heap.size w w') (hB : B' ≤ B) (hG : G ≤ G') (hw : G ≤ w.heap.size) : Free w' B' G' A k := fun j hj => by
  obtain ⟨g, u, rfl, h1, h2, h3, h4⟩ := h j hj
  exact ⟨g, u, rfl, by omega, by omega, (hb.cell (p := ⟨g, j, none⟩) (by show g < _; omega)).trans h3, (hb.frozen (p := ⟨g, j, none⟩) (by show g < _; omega)).trans h4⟩
theorem Free.set {w : World} {B G : Nat} {A : Option Addr} {k : Nat} (h : Free w B G A k) (p : Addr) (x : Value) (hp : ∃ y, w.cell? p = some y) : Free (w.setCell p x) B G A k := fun j hj => by
  obtain ⟨g, u, rfl, h1, h2, h3, h4⟩ := h j hj
  by_cases e : (⟨g, j, none⟩ : Addr) = p
  · subst e
    exact ⟨g, x, rfl, h1, h2, World.cell?_setCell_same' _ _ _ (by rw [h3]; rfl), by rw [World.frozen?_setCell]; exact h4⟩
  · exact ⟨g, u, rfl, h1, h2, by rw [World.cell?_setCell_other _ _ _ _ (fun e2 => e e2.symm)]; exact h3, by rw [World.frozen?_setCell]; exact h4⟩

/-- What the loops keep. -/
def OwnI (w0 : World) (B G k : Nat) (Af : Nat → Option Addr) (cf : Nat → Nat) (A A' C C' : Option Addr) (ps qs : List Nat) (w : World) : Prop :=
  w0.heap.size ≤ B ∧ B ≤ G ∧ G < w.heap.size ∧ Below w0.heap.size w0 w ∧ Rd w B A (uvs ps) ∧ Rd w B A' (uvs qs) ∧ Rd w B C (uvs ps) ∧ Rd w B C' (uvs qs) ∧
    (∀ i, i < 5 → w.cell? ⟨G, i, none⟩ = some (.slice (Af i) k (cf i))) ∧ ∀ i, i < 5 → Free w B G (Af i) k
theorem OwnI.set {w0 : World} {B G k : Nat} {Af : Nat → Option Addr} {cf : Nat → Nat} {A A' C C' : Option Addr} {ps qs : List Nat} {w : World} (h : OwnI w0 B G k Af cf A A' C C' ps qs w) {i j g : Nat} (hi : i < 5) (hj : j < k) (hg : Af i = some ⟨g, 0, none⟩) (x : Value) :
    OwnI w0 B G k Af cf A A' C C' ps qs (w.setCell ⟨g, j, none⟩ x) := by
  obtain ⟨h1, h2, h3, h4, h5, h6, h7, h8, h9, h10⟩ := h
  obtain ⟨g', u, e, b1, b2, b3, b4⟩ := h10 i hi j hj
  rw [hg] at e
  injection e with e
  injection e with e _
  subst e
  refine ⟨h1, h2, by simpa [World.setCell] using h3, h4.setCell (p := ⟨g, j, none⟩) (by show _ ≤ g; omega) _, h5.setCell (p := ⟨g, j, none⟩) b1 _, h6.setCell (p := ⟨g, j, none⟩) b1 _, h7.setCell (p := ⟨g, j, none⟩) b1 _, h8.setCell (p := ⟨g, j, none⟩) b1 _, fun i' hi' => ?_, fun i' hi' => (h10 i' hi').set _ _ ⟨u, b3⟩⟩
  rw [World.cell?_setCell_other _ _ _ _ (by intro e; injection e with e _; omega)]
  exact h9 i' hi'
theorem OwnI.drewN {w0 : World} {B G k : Nat} {Af : Nat → Option Addr} {cf : Nat → Nat} {A A' C C' : Option Addr} {ps qs : List Nat} {w : World} (h : OwnI w0 B G k Af cf A A' C C' ps qs w) (m : Nat) : OwnI w0 B G k Af cf A A' C C' ps qs (w.drewN m) := by
  obtain ⟨h1, h2, h3, h4, h5, h6, h7, h8, h9, h10⟩ := h
  exact ⟨h1, h2, h3, below_drewN h4 m, h5, h6, h7, h8, h9, h10⟩
end Go.Proofs.Ytnhoodpglbjhhaa
