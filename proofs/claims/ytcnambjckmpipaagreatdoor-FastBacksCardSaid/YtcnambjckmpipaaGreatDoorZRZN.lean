/- The contracts of reckonerref03.Neg and Sub. -/
import Derived.Test.YtcnambjckmpipaaGreatDoorZRZM
namespace Go.Proofs.YtcnambjckmpipaaGreatDoor
open Go.RowKit Go.Shelf
set_option linter.unusedVariables false
set_option linter.unusedSimpArgs false
set_option maxRecDepth 10000

set_option maxHeartbeats 1000000 in
theorem RNegZ_ok (s : Bool) (A : Option Addr) (n c : Nat) (xs : List Nat) (w : World) (hn : n ≤ 4096) (hx : Sl w A n c xs) :
    Calls Tryz.prog 72 #[.agg #[.bool s, .slice A n c]] w fun e w' => Zr w w' e (-sgn s (V xs)) := by
  have Hx := Lib.hid hx
  clear hx
  have hb0 : Below w.heap.size w ((w.alloc (.cells #[.bool s, .slice A n c] 26)).alloc (.cells #[.bool false, .slice none 0 0] 26)) := ((Below.refl _ _).alloc (Nat.le_refl _) _).alloc (by simp) _
  have Hb0 := Lib.hid hb0
  clear hb0
  go_enter Tryz.func72, Tryz.ntmps72
  go_wp2_with (fail)
  refine (RMake_ok (!s) A n c xs _ hn (Hx.out.below Hb0.out)).mono ?_
  rintro e w1 hR
  have hb1 : Below ((w.alloc (.cells #[.bool s, .slice A n c] 26)).alloc (.cells #[.bool false, .slice none 0 0] 26)).heap.size ((w.alloc (.cells #[.bool s, .slice A n c] 26)).alloc (.cells #[.bool false, .slice none 0 0] 26)) w1 := by obtain ⟨_, _, _, _, _, _, _, _, h⟩ := hR; exact h
  obtain ⟨A1, n1, c1, rfl, hz⟩ := hR.val
  obtain ⟨⟨p0, f0⟩, ⟨p1, f1⟩, -⟩ := res2 hb1
  rw [World.size_alloc] at p0 f0 p1 f1
  have HZ := Lib.hid (hz.put Hb0.out (g := w.heap.size + 1) (by omega) (by simp) (u := .bool (decide (sgn (!s) (V xs) < 0))) (v := .slice A1 n1 c1))
  clear hR hb1 hz
  obtain ⟨d, hd⟩ : ∃ d, decide (sgn (!s) (V xs) < 0) = d := ⟨_, rfl⟩
  rw [hd] at HZ ⊢
  clear hd
  go_wp2_with (fail)
  have hz := HZ.out
  rw [sgn_neg] at hz
  exact bodyPost_ret (v := .agg #[.bool d, .slice A1 n1 c1]) (by simp [results, Tryz.results72, go_sem, World.cell?_setCell_same', p0, p1]) rfl hz
set_option maxHeartbeats 2000000 in
theorem RSubZ_ok (s s' : Bool) (A A' : Option Addr) (n n' c c' : Nat) (xs ys : List Nat) (w : World) (hn : n ≤ 4096) (hn' : n' ≤ 4096) (hx : Sl w A n c xs) (hy : Sl w A' n' c' ys) (hB : V xs + V ys < Big) :
    Calls Tryz.prog 29 #[.agg #[.bool s, .slice A n c], .agg #[.bool s', .slice A' n' c']] w fun e w' => Zr w w' e (sgn s (V xs) - sgn s' (V ys)) := by
  have Hx := Lib.hid (And.intro hx (And.intro hy hB))
  have HB := Lib.hid (show (-sgn s' (V ys)).natAbs < Big by rw [Int.natAbs_neg, sgn_abs]; omega)
  clear hx hy hB
  obtain ⟨X, hX⟩ : ∃ X, ((w.alloc (.cells #[.bool s, .slice A n c] 26)).alloc (.cells #[.bool s', .slice A' n' c'] 26)).alloc (.cells #[.bool false, .slice none 0 0] 26) = X := ⟨_, rfl⟩
  have HX : Hid (Z3 w X s s' A A' n n' c c') := by rw [← hX]; exact Z3.new w s s' A A' n n' c c'
  obtain ⟨q0, q1, q2, q3⟩ := HX.out.1
  go_enter Tryz.func29, Tryz.ntmps29
  go_wp2_with (fail)
  clear hX
  go_region_held3 (fun w' => w'.cell? ⟨w.heap.size, 0, none⟩ = some (.bool s) ∧ w'.cell? ⟨w.heap.size, 1, none⟩ = some (.slice A n c) ∧ w'.cell? ⟨w.heap.size + 1, 0, none⟩ = some (.bool s') ∧ w'.cell? ⟨w.heap.size + 1, 1, none⟩ = some (.slice A' n' c')) (first | exact ⟨q0, q1, q2, q3⟩ | exact S1.out.1 | exact S2.out.1 | exact S2.out.put | go_keep)
    (first
      | (go_at_call 72; refine (RNegZ_ok s' A' n' c' ys X.drew hn' (show Sl X A' n' c' ys from Hx.out.2.1.below HX.out.2.2.1)).mono ?_; rintro e w3 hR; obtain ⟨A3, n3, c3, z3, hEq, h3⟩ := hR.open HB.out; subst hEq; have S1 := Lib.hid (HX.out.keep (show Below X.heap.size X w3 from belowA h3.bel)); have H3 := Lib.hid h3; obtain ⟨g3, hg3⟩ : ∃ g3, decide (-sgn s' (V ys) < 0) = g3 := ⟨_, rfl⟩; have HG := Lib.hid hg3; rw [hg3]; clear hR h3 hg3)
      | (go_at_call 33; refine (RAddZ_ok s g3 A A3 n n3 c c3 xs z3 w3 hn H3.out.2.2.2.1 (show Sl w3 A n c xs from Hx.out.1.below (HX.out.2.2.1.trans ((show Below X.heap.size X w3 from belowA H3.out.bel).mono HX.out.2.2.1.size))) H3.out.1 (by have h := H3.out.2.2.1; rw [Int.natAbs_neg, sgn_abs] at h; rw [h]; exact Hx.out.2.2)).mono ?_; rintro e w4 hR; obtain ⟨A4, n4, c4, hEq, hz⟩ := hR.val; subst hEq; have S2 := Lib.hid (S1.out.keep hz.bel); have HZ := Lib.hid (hz.done3 S1.out (u := .bool (decide (sgn s (V xs) + sgn g3 (V z3) < 0))) (v := .slice A4 n4 c4)); obtain ⟨p0, f0⟩ := S2.out.2.1 0 _ rfl; obtain ⟨p1, f1⟩ := S2.out.2.1 1 _ rfl; obtain ⟨d, hd⟩ : ∃ d, decide (sgn s (V xs) + sgn g3 (V z3) < 0) = d := ⟨_, rfl⟩; rw [hd] at HZ ⊢; clear hR hz hd))
  all_goals
    go_wp2_with (fail)
    have hz := HZ.out
    rw [H3.out.2.2.1, ← HG.out, sgn_can, ← Int.sub_eq_add_neg] at hz
    exact bodyPost_ret (v := .agg #[.bool d, .slice A4 n4 c4]) (by simp [results, Tryz.results29, go_sem, World.cell?_setCell_same', p0, p1]) rfl hz
end Go.Proofs.YtcnambjckmpipaaGreatDoor
