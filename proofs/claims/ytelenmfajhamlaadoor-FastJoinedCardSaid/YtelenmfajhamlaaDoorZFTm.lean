/- Terms that are made, and the contracts of fast.natural, fast.placed. -/
import Derived.Test.YtelenmfajhamlaaDoorZFSg
namespace Go.Proofs.YtelenmfajhamlaaDoor
open Go.RowKit Go.Shelf
set_option linter.unusedVariables false
set_option linter.unusedSimpArgs false
set_option maxRecDepth 10000

theorem field_words (s : Bool) (A : Option Addr) (n c : Nat) (w : World) : (Instr.field 81 (.agg #[.bool s, .slice A n c]) 1).run Tryd.prog w = .ok (.slice A n c) w := by kernel_rfl
theorem field_sign (s : Bool) (A : Option Addr) (n c : Nat) (w : World) : (Instr.field 81 (.agg #[.bool s, .slice A n c]) 0).run Tryd.prog w = .ok (.agg #[.bool s]) w := by kernel_rfl
theorem natural_ok (A : Option Addr) (n c : Nat) (w : World) :
    Calls Tryd.prog 91 #[.slice A n c] w fun e w' => e = .returned (.agg #[.bool false, .slice A n c]) ∧ Below w.heap.size w w' := by
  go_enter Tryd.func91, Tryd.ntmps91
  go_wp2
  exact bodyPost_ret (v := sgV false A n c) (by simp [results, Tryd.results91, go_sem]) rfl ⟨rfl, (Below.refl _ _).alloc (Nat.le_refl _) _⟩
/-- block r holds the values vs, and may be written -/
def Bk (W : World) (r : Nat) (vs : List Value) : Prop := ∀ j v, vs[j]? = some v → W.cell? ⟨r, j, none⟩ = some v ∧ W.frozen? ⟨r, j, none⟩ = false
theorem Bk.below {W W' : World} {r B : Nat} {vs : List Value} (h : Bk W r vs) (hb : Below B W W') (hr : r < B) : Bk W' r vs := fun j v hj =>
  ⟨(hb.cell (p := ⟨r, j, none⟩) hr).trans (h j v hj).1, (hb.frozen (p := ⟨r, j, none⟩) hr).trans (h j v hj).2⟩
theorem Bk.new (w : World) (vs : List Value) (t : TypeId) : Bk (w.alloc (.cells vs.toArray t)) w.heap.size vs := fun j v hj => by
  refine ⟨?_, by simp⟩
  have h := World.news_of_block (cs := vs.toArray) (t := t) (fr := (0, 0)) (heap_alloc_new w (.cells vs.toArray t)) j v (by simpa using hj)
  rwa [Addr.add_lit, Nat.zero_add] at h
theorem placed_ok (A : Option Addr) (n c : Nat) (p : Int) (w : World) :
    Calls Tryd.prog 51 #[.slice A n c, .int .i64 p] w fun e w' => e = .returned (.agg #[.bool false, .slice A n c, .int .i64 1, .int .i64 p]) ∧ Below w.heap.size w w' := by
  go_enter Tryd.func51, Tryd.ntmps51
  go_wp2_with (fail)
  refine (natural_ok A n c _).mono ?_
  rintro e w1 ⟨rfl, hb⟩
  have hk := (Bk.new w [.bool false, .slice none 0 0, .int .i64 0, .int .i64 0] 83).below hb (by simp)
  obtain ⟨p0, f0⟩ := hk 0 _ rfl
  obtain ⟨p1, f1⟩ := hk 1 _ rfl
  obtain ⟨p2, f2⟩ := hk 2 _ rfl
  obtain ⟨p3, f3⟩ := hk 3 _ rfl
  have HB := Lib.hid (show Below w.heap.size w w1 from ((Below.refl _ w).alloc (Nat.le_refl _) _).trans (hb.mono (by simp)))
  clear hb hk
  go_wp2_with (fail)
  exact bodyPost_ret (v := .agg #[.bool false, .slice A n c, .int .i64 1, .int .i64 p]) (by simp [results, Tryd.results51, go_sem, World.cell?_setCell_same', p0, p1, p2, p3]) rfl ⟨rfl, ((((HB.out.setCell (p := ⟨w.heap.size, 0, none⟩) (Nat.le_refl _) _).setCell (p := ⟨w.heap.size, 1, none⟩) (Nat.le_refl _) _).setCell (p := ⟨w.heap.size, 2, none⟩) (Nat.le_refl _) _).setCell (p := ⟨w.heap.size, 3, none⟩) (Nat.le_refl _) _)⟩
end Go.Proofs.YtelenmfajhamlaaDoor
