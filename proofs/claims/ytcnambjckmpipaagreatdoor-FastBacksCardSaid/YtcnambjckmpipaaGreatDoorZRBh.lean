/- Boxes of the reference's Back; regions of a code. -/
import Derived.Test.YtcnambjckmpipaaGreatDoorZRIv
import Derived.Test.YtcnambjckmpipaaGreatDoorZFFB
import Derived.Test.YtcnambjckmpipaaGreatDoorZRFive
import Derived.Deep.DeepCutAuto
namespace Go.Proofs.YtcnambjckmpipaaGreatDoor
open Go.RowKit Go.Shelf
set_option linter.unusedVariables false
set_option linter.unusedSimpArgs false
set_option maxRecDepth 10000

/-- the boxes of the argument and of the result -/
def Vb (w X : World) (a b c d e : Sn) : Prop := Bk X w.heap.size (snL a b c d e) ∧ Bk X (w.heap.size + 1) zero10 ∧ Below w.heap.size w X ∧ w.heap.size + 2 ≤ X.heap.size
theorem Vb.new (w : World) (a b c d e : Sn) : Vb w ((w.alloc (.cells (snL a b c d e).toArray 27)).alloc (.cells zero10.toArray 27)) a b c d e := by
  have hal : ∀ (W : World) (o : Obj), Below W.heap.size W (W.alloc o) := fun W o => (Below.refl _ _).alloc (Nat.le_refl _) _
  have k0 := (Bk.new w (snL a b c d e) 27).below (hal _ (.cells zero10.toArray 27)) (by simp)
  have k2 := Bk.new (w.alloc (.cells (snL a b c d e).toArray 27)) zero10 27
  rw [World.size_alloc] at k2
  exact ⟨k0, k2, ((Below.refl _ w).alloc (Nat.le_refl _) _).alloc (by simp) _, by simp⟩
theorem Vb.keep {w X W : World} {a b c d e : Sn} (h : Vb w X a b c d e) (hb : Below X.heap.size X W) : Vb w W a b c d e :=
  ⟨h.1.below hb (by have := h.2.2.2; omega), h.2.1.below hb (by have := h.2.2.2; omega), h.2.2.1.trans (hb.mono h.2.2.1.size), Nat.le_trans h.2.2.2 hb.size⟩

theorem cell_be {W W' : World} {p : Addr} {u : Value} (h : W.cell? p = some u) (hb : Below W.heap.size W W') : W'.cell? p = some u := (hb.cell (World.block_lt_of_cell? _ _ h)).trans h
theorem cell_sets {b j g : Nat} {u : Value} (hp : b ≠ g) : ∀ (vs : List Value) (o : Nat) (W : World), W.cell? ⟨b, j, none⟩ = some u → (W.setCells g o vs).cell? ⟨b, j, none⟩ = some u
  | [], _, _, h => h
  | v :: vs, o, W, h => cell_sets hp vs (o + 1) _ (by rw [World.cell?_setCell_other _ _ _ _ (by simp; try omega)]; exact h)
theorem cell_put10 {W : World} {b g j : Nat} {u v0 v1 v2 v3 v4 v5 v6 v7 v8 v9 : Value} (hp : b ≠ g) (h : W.cell? ⟨b, j, none⟩ = some u) : ((((((((((W.setCell ⟨g, 0, none⟩ v0).setCell ⟨g, 1, none⟩ v1).setCell ⟨g, 2, none⟩ v2).setCell ⟨g, 3, none⟩ v3).setCell ⟨g, 4, none⟩ v4).setCell ⟨g, 5, none⟩ v5).setCell ⟨g, 6, none⟩ v6).setCell ⟨g, 7, none⟩ v7).setCell ⟨g, 8, none⟩ v8).setCell ⟨g, 9, none⟩ v9).cell? ⟨b, j, none⟩ = some u :=
  cell_sets hp [v0, v1, v2, v3, v4, v5, v6, v7, v8, v9] 0 W h
theorem sets10 (W : World) (g : Nat) (v0 v1 v2 v3 v4 v5 v6 v7 v8 v9 : Value) : ((((((((((W.setCell ⟨g, 0, none⟩ v0).setCell ⟨g, 1, none⟩ v1).setCell ⟨g, 2, none⟩ v2).setCell ⟨g, 3, none⟩ v3).setCell ⟨g, 4, none⟩ v4).setCell ⟨g, 5, none⟩ v5).setCell ⟨g, 6, none⟩ v6).setCell ⟨g, 7, none⟩ v7).setCell ⟨g, 8, none⟩ v8).setCell ⟨g, 9, none⟩ v9) = W.setCells g 0 [v0, v1, v2, v3, v4, v5, v6, v7, v8, v9] := rfl
theorem zr_set {X W : World} {s : Bool} {A : Option Addr} {n c : Nat} {z : Int} (h : Zr X W (.returned (.agg #[.bool s, .slice A n c])) z) (hz : z.natAbs < IB) {b : Nat} (hb : b < X.heap.size) (o : Nat) (vs : List Value) : Iv (W.setCells b o vs) s A n c z := by
  obtain ⟨xs0, -, -, h3⟩ := zr_n h hz
  obtain ⟨xs, hs⟩ := zr_sn h (Nat.le_refl _)
  have h1 := hs.setCells hb o vs
  obtain ⟨A', c', e, h2⟩ := h1.1.sl
  injection e with e1 e2 e3
  subst e1 e3
  exact ⟨xs, h2, h1.2.2.1.symm, h3⟩
/-- what Back answers -/
def RBk (w' : World) (z : Ending) (va vb vc vd ve : Int) : Prop := ∃ (r0 r1 r2 r3 r4 : Sn) (q9 q11 q13 : Int) (x9 x11 x13 : Nat),
  z = .returned (.tuple #[snV r0 r1 r2 r3 r4, .bool (decide (x9 = 0) && decide (x11 = 0) && decide (x13 = 0))]) ∧ (∀ s ∈ [r0, r1, r2, r3, r4], Sl w' s.A s.n s.c s.xs ∧ s.n ≤ 4000) ∧
  (r0.v = va ∧ r1.v = q11 - q13 ∧ r2.v = q9 ∧ r3.v = q13 ∧ r4.v = ve) ∧ (vb - va - ve + (vc - va - ve) = q9 * 2 + x9 ∧ x9 < 2) ∧ (vb - va - ve - (vc - va - ve) = q11 * 2 + x11 ∧ x11 < 2) ∧ (vd - va - 16 * ve - 4 * q9 - 2 * q11 = q13 * 6 + x13 ∧ x13 < 6)
/-- a region of a code -/
def regAt (n : Nat) : Code → Option Code
  | .region m ops x => if m = n then some (.region m ops x) else none
  | .seq a b => match regAt n a with
    | some c => some c
    | none => regAt n b
  | .block _ c => regAt n c
  | .scope c => regAt n c
  | .loop c => regAt n c
  | .cond _ a b => match regAt n a with
    | some c => some c
    | none => regAt n b
  | _ => none
end Go.Proofs.YtcnambjckmpipaaGreatDoor
