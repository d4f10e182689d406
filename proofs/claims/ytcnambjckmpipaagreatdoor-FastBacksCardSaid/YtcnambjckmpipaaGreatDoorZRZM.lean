/- The contracts of reckonerref03.Mul and Add. -/
import Derived.Test.YtcnambjckmpipaaGreatDoorZRZ
import Derived.Test.YtcnambjckmpipaaGreatDoorP1
namespace Go.Proofs.YtcnambjckmpipaaGreatDoor
open Go.RowKit Go.Shelf
set_option linter.unusedVariables false
set_option linter.unusedSimpArgs false
set_option maxRecDepth 10000

/-- the boxes of two integers, and the result's place -/
def Z3 (w W : World) (s s' : Bool) (A A' : Option Addr) (n n' c c' : Nat) : Prop :=
  (W.cell? ⟨w.heap.size, 0, none⟩ = some (.bool s) ∧ W.cell? ⟨w.heap.size, 1, none⟩ = some (.slice A n c) ∧ W.cell? ⟨w.heap.size + 1, 0, none⟩ = some (.bool s') ∧ W.cell? ⟨w.heap.size + 1, 1, none⟩ = some (.slice A' n' c')) ∧
  Bk W (w.heap.size + 1 + 1) [.bool false, .slice none 0 0] ∧ Below w.heap.size w W ∧ w.heap.size + 1 + 1 < W.heap.size
theorem Z3.keep {w W W' : World} {s s' : Bool} {A A' : Option Addr} {n n' c c' : Nat} (h : Z3 w W s s' A A' n n' c c') (hb : Below W.heap.size W W') : Z3 w W' s s' A A' n n' c c' := by
  obtain ⟨⟨h1, h2, h3, h4⟩, h5, h6, h7⟩ := h
  have k : ∀ {p : Addr} {u : Value}, W.cell? p = some u → W'.cell? p = some u := fun {p u} h => (hb.cell (World.block_lt_of_cell? _ _ h)).trans h
  exact ⟨⟨k h1, k h2, k h3, k h4⟩, h5.below hb h7, h6.trans (hb.mono h6.size), Nat.lt_of_lt_of_le h7 hb.size⟩
theorem Z3.new (w : World) (s s' : Bool) (A A' : Option Addr) (n n' c c' : Nat) : Z3 w (((w.alloc (.cells #[.bool s, .slice A n c] 26)).alloc (.cells #[.bool s', .slice A' n' c'] 26)).alloc (.cells #[.bool false, .slice none 0 0] 26)) s s' A A' n n' c c' := by
  have hal : ∀ (W : World) (o : Obj), Below W.heap.size W (W.alloc o) := fun W o => (Below.refl _ _).alloc (Nat.le_refl _) _
  have k0 := ((Bk.new w [.bool s, .slice A n c] 26).below (hal _ (.cells #[.bool s', .slice A' n' c'] 26)) (by simp)).below (hal _ (.cells #[.bool false, .slice none 0 0] 26)) (by simp; omega)
  have k1 := (Bk.new (w.alloc (.cells #[.bool s, .slice A n c] 26)) [.bool s', .slice A' n' c'] 26).below (hal _ (.cells #[.bool false, .slice none 0 0] 26)) (by simp)
  have k2 := Bk.new ((w.alloc (.cells #[.bool s, .slice A n c] 26)).alloc (.cells #[.bool s', .slice A' n' c'] 26)) [.bool false, .slice none 0 0] 26
  simp only [World.size_alloc] at k0 k1 k2
  exact ⟨⟨(k0 0 _ rfl).1, (k0 1 _ rfl).1, (k1 0 _ rfl).1, (k1 1 _ rfl).1⟩, k2, (((Below.refl _ w).alloc (Nat.le_refl _) _).alloc (by simp) _).alloc (by simp; omega) _, by simp⟩
/-- the result, stored -/
theorem Zr.done3 {w W w4 : World} {s s' b : Bool} {A A' A4 : Option Addr} {n n' c c' n4 c4 : Nat} {z : Int} {u v : Value} (hz : Zr W w4 (.returned (.agg #[.bool b, .slice A4 n4 c4])) z) (h : Z3 w W s s' A A' n n' c c') :
    Zr w ((w4.setCell ⟨w.heap.size + 1 + 1, 0, none⟩ u).setCell ⟨w.heap.size + 1 + 1, 1, none⟩ v) (.returned (.agg #[.bool b, .slice A4 n4 c4])) z :=
  hz.put h.2.2.1 (by omega) h.2.2.2
theorem Z3.put {w W : World} {s s' : Bool} {A A' : Option Addr} {n n' c c' : Nat} {u v : Value} (h : Z3 w W s s' A A' n n' c c') :
    ((W.setCell ⟨w.heap.size + 1 + 1, 0, none⟩ u).setCell ⟨w.heap.size + 1 + 1, 1, none⟩ v).cell? ⟨w.heap.size, 0, none⟩ = some (.bool s) ∧ ((W.setCell ⟨w.heap.size + 1 + 1, 0, none⟩ u).setCell ⟨w.heap.size + 1 + 1, 1, none⟩ v).cell? ⟨w.heap.size, 1, none⟩ = some (.slice A n c) ∧
    ((W.setCell ⟨w.heap.size + 1 + 1, 0, none⟩ u).setCell ⟨w.heap.size + 1 + 1, 1, none⟩ v).cell? ⟨w.heap.size + 1, 0, none⟩ = some (.bool s') ∧ ((W.setCell ⟨w.heap.size + 1 + 1, 0, none⟩ u).setCell ⟨w.heap.size + 1 + 1, 1, none⟩ v).cell? ⟨w.heap.size + 1, 1, none⟩ = some (.slice A' n' c') := by
  obtain ⟨⟨h1, h2, h3, h4⟩, -⟩ := h
  refine ⟨?_, ?_, ?_, ?_⟩ <;> (rw [World.cell?_setCell_other _ _ _ _ (by simp; try omega), World.cell?_setCell_other _ _ _ _ (by simp; try omega)]; assumption)
theorem Zr.bel {w w' : World} {e : Ending} {z : Int} (h : Zr w w' e z) : Below w.heap.size w w' := by obtain ⟨_, _, _, _, _, _, _, _, h⟩ := h; exact h

set_option maxHeartbeats 2000000 in
theorem RMulZ_ok (s s' : Bool) (A A' : Option Addr) (n n' c c' : Nat) (xs ys : List Nat) (w : World) (hn : n ≤ 4096) (hn' : n' ≤ 4096) (hx : Sl w A n c xs) (hy : Sl w A' n' c' ys) (hB : V xs * V ys < Big) :
    Calls Tryz.prog 30 #[.agg #[.bool s, .slice A n c], .agg #[.bool s', .slice A' n' c']] w fun e w' => Zr w w' e (sgn s (V xs) * sgn s' (V ys)) := by
  have Hx := Lib.hid (And.intro hx (And.intro hy hB))
  clear hx hy hB
  obtain ⟨X, hX⟩ : ∃ X, ((w.alloc (.cells #[.bool s, .slice A n c] 26)).alloc (.cells #[.bool s', .slice A' n' c'] 26)).alloc (.cells #[.bool false, .slice none 0 0] 26) = X := ⟨_, rfl⟩
  have HX : Hid (Z3 w X s s' A A' n n' c c') := by rw [← hX]; exact Z3.new w s s' A A' n n' c c'
  obtain ⟨q0, q1, q2, q3⟩ := HX.out.1
  go_enter Tryz.func30, Tryz.ntmps30
  go_wp2_with (fail)
  clear hX
  go_region_held3 (fun w' => w'.cell? ⟨w.heap.size, 0, none⟩ = some (.bool s) ∧ w'.cell? ⟨w.heap.size, 1, none⟩ = some (.slice A n c) ∧ w'.cell? ⟨w.heap.size + 1, 0, none⟩ = some (.bool s') ∧ w'.cell? ⟨w.heap.size + 1, 1, none⟩ = some (.slice A' n' c')) (first | exact ⟨q0, q1, q2, q3⟩ | exact S1.out.1 | exact S2.out.1 | exact S2.out.put | go_keep)
    (first
      | (go_at_call 40; refine (RNMul_ok A A' n n' c c' xs ys X.drew hn hn' (show Sl X A n c xs from Hx.out.1.below HX.out.2.2.1) (show Sl X A' n' c' ys from Hx.out.2.1.below HX.out.2.2.1)).mono ?_; rintro e w3 hR; obtain ⟨A3, n3, c3, z3, hEq, h3⟩ := hR.open Hx.out.2.2; subst hEq; have S1 := Lib.hid (HX.out.keep (show Below X.heap.size X w3 from belowA h3.bel)); have H3 := Lib.hid h3; clear hR h3)
      | (go_at_call 73; refine (RMake_ok (s != s') A3 n3 c3 z3 w3 H3.out.2.2.2.1 H3.out.1).mono ?_; rintro e w4 hR; obtain ⟨A4, n4, c4, hEq, hz⟩ := hR.val; subst hEq; have S2 := Lib.hid (S1.out.keep hz.bel); have HZ := Lib.hid (hz.done3 S1.out (u := .bool (decide (sgn (s != s') (V z3) < 0))) (v := .slice A4 n4 c4)); obtain ⟨p0, f0⟩ := S2.out.2.1 0 _ rfl; obtain ⟨p1, f1⟩ := S2.out.2.1 1 _ rfl; obtain ⟨d, hd⟩ : ∃ d, decide (sgn (s != s') (V z3) < 0) = d := ⟨_, rfl⟩; rw [hd] at HZ ⊢; clear hR hz hd))
  all_goals
    go_wp2_with (fail)
    have hz := HZ.out
    rw [H3.out.2.2.1, sgn_prod] at hz
    exact bodyPost_ret (v := .agg #[.bool d, .slice A4 n4 c4]) (by simp [results, Tryz.results30, go_sem, World.cell?_setCell_same', p0, p1]) rfl hz
set_option maxHeartbeats 4000000 in
theorem RAddZ_ok (s s' : Bool) (A A' : Option Addr) (n n' c c' : Nat) (xs ys : List Nat) (w : World) (hn : n ≤ 4096) (hn' : n' ≤ 4096) (hx : Sl w A n c xs) (hy : Sl w A' n' c' ys) (hB : V xs + V ys < Big) :
    Calls Tryz.prog 33 #[.agg #[.bool s, .slice A n c], .agg #[.bool s', .slice A' n' c']] w fun e w' => Zr w w' e (sgn s (V xs) + sgn s' (V ys)) := by
  have Hx := Lib.hid (And.intro hx (And.intro hy hB))
  clear hx hy hB
  by_cases hs : s = s'
  · subst hs
    have HB := Lib.hid Hx.out.2.2
    have hss : (s == s) = true := by simp
    obtain ⟨X, hX⟩ : ∃ X, ((w.alloc (.cells #[.bool s, .slice A n c] 26)).alloc (.cells #[.bool s, .slice A' n' c'] 26)).alloc (.cells #[.bool false, .slice none 0 0] 26) = X := ⟨_, rfl⟩
    have HX : Hid (Z3 w X s s A A' n n' c c') := by rw [← hX]; exact Z3.new w s s A A' n n' c c'
    obtain ⟨q0, q1, q2, q3⟩ := HX.out.1
    go_enter Tryz.func33, Tryz.ntmps33
    go_wp2_with (fail)
    clear hX
    go_region_held3 (fun w' => w'.cell? ⟨w.heap.size, 0, none⟩ = some (.bool s) ∧ w'.cell? ⟨w.heap.size, 1, none⟩ = some (.slice A n c) ∧ w'.cell? ⟨w.heap.size + 1, 0, none⟩ = some (.bool s) ∧ w'.cell? ⟨w.heap.size + 1, 1, none⟩ = some (.slice A' n' c')) (first | exact ⟨q0, q1, q2, q3⟩ | exact HX.out.1 | exact S1.out.1 | exact S2.out.1 | exact S2.out.put | go_keep)
      (first
        | (go_at_call 77; refine (RNAdd_ok A A' n n' c c' xs ys X.drew hn hn' (show Sl X A n c xs from Hx.out.1.below HX.out.2.2.1) (show Sl X A' n' c' ys from Hx.out.2.1.below HX.out.2.2.1)).mono ?_; rintro e w3 hR; obtain ⟨A3, n3, c3, z3, hEq, h3⟩ := hR.open HB.out; subst hEq; have S1 := Lib.hid (HX.out.keep (show Below X.heap.size X w3 from belowA h3.bel)); have H3 := Lib.hid h3; clear hR h3)
        | (go_at_call 73; refine (RMake_ok s A3 n3 c3 z3 w3 H3.out.2.2.2.1 H3.out.1).mono ?_; rintro e w4 hR; obtain ⟨A4, n4, c4, hEq, hz⟩ := hR.val; subst hEq; have S2 := Lib.hid (S1.out.keep hz.bel); have HZ := Lib.hid (hz.done3 S1.out (u := .bool (decide (sgn s (V z3) < 0))) (v := .slice A4 n4 c4)); obtain ⟨p0, f0⟩ := S2.out.2.1 0 _ rfl; obtain ⟨p1, f1⟩ := S2.out.2.1 1 _ rfl; obtain ⟨d, hd⟩ : ∃ d, decide (sgn s (V z3) < 0) = d := ⟨_, rfl⟩; rw [hd] at HZ ⊢; clear hR hz hd))
    all_goals
      go_wp2_with (fail)
      have hz := HZ.out
      rw [H3.out.2.2.1, sgn_same] at hz
      exact bodyPost_ret (v := .agg #[.bool d, .slice A4 n4 c4]) (by simp [results, Tryz.results33, go_sem, World.cell?_setCell_same', p0, p1]) rfl hz
  · have hss : (s == s') = false := by simpa using hs
    have Hs := Lib.hid hs
    clear hs
    obtain ⟨X, hX⟩ : ∃ X, ((w.alloc (.cells #[.bool s, .slice A n c] 26)).alloc (.cells #[.bool s', .slice A' n' c'] 26)).alloc (.cells #[.bool false, .slice none 0 0] 26) = X := ⟨_, rfl⟩
    have HX : Hid (Z3 w X s s' A A' n n' c c') := by rw [← hX]; exact Z3.new w s s' A A' n n' c c'
    obtain ⟨q0, q1, q2, q3⟩ := HX.out.1
    go_enter Tryz.func33, Tryz.ntmps33
    go_wp2_with (fail)
    clear hX
    refine (RCmp_ok A A' n n' c c' xs ys X hn hn' (Hx.out.1.below HX.out.2.2.1) (Hx.out.2.1.below HX.out.2.2.1)).mono ?_
    rintro e X2 ⟨rfl, hb2⟩
    have HX2 := Lib.hid (HX.out.keep hb2)
    clear hb2 q0 q1 q2 q3 HX
    obtain ⟨q0, q1, q2, q3⟩ := HX2.out.1
    obtain ⟨cc, hcc⟩ : ∃ cc, cmpI (V xs) (V ys) = cc := ⟨_, rfl⟩
    rw [hcc]
    by_cases hle : V ys ≤ V xs
    · have hge : ¬ cc < 0 := by rw [← hcc]; unfold cmpI; split <;> (try split) <;> omega
      have hge2 : 0 ≤ cc := by omega
      have HB := Lib.hid (show V xs - V ys < Big from Nat.lt_of_le_of_lt (Nat.sub_le _ _) (Nat.lt_of_le_of_lt (Nat.le_add_right _ _) Hx.out.2.2))
      have HL := Lib.hid hle
      clear hle hcc
      go_wp2_with (fail)
      go_region_held3 (fun w' => w'.cell? ⟨w.heap.size, 0, none⟩ = some (.bool s) ∧ w'.cell? ⟨w.heap.size, 1, none⟩ = some (.slice A n c) ∧ w'.cell? ⟨w.heap.size + 1, 0, none⟩ = some (.bool s') ∧ w'.cell? ⟨w.heap.size + 1, 1, none⟩ = some (.slice A' n' c')) (first | exact ⟨q0, q1, q2, q3⟩ | exact S1.out.1 | exact S2.out.1 | exact S2.out.put | go_keep)
        (first
          | (go_at_call 23; refine (RNSub_ok A A' n n' c c' xs ys X2.drew hn hn' (show Sl X2 A n c xs from Hx.out.1.below HX2.out.2.2.1) (show Sl X2 A' n' c' ys from Hx.out.2.1.below HX2.out.2.2.1) HL.out).mono ?_; rintro e w3 hR; obtain ⟨A3, n3, c3, z3, hEq, h3⟩ := hR.open HB.out; subst hEq; have S1 := Lib.hid (HX2.out.keep (show Below X2.heap.size X2 w3 from belowA h3.bel)); have H3 := Lib.hid h3; clear hR h3)
          | (go_at_call 73; refine (RMake_ok s A3 n3 c3 z3 w3 H3.out.2.2.2.1 H3.out.1).mono ?_; rintro e w4 hR; obtain ⟨A4, n4, c4, hEq, hz⟩ := hR.val; subst hEq; have S2 := Lib.hid (S1.out.keep hz.bel); have HZ := Lib.hid (hz.done3 S1.out (u := .bool (decide (sgn s (V z3) < 0))) (v := .slice A4 n4 c4)); obtain ⟨p0, f0⟩ := S2.out.2.1 0 _ rfl; obtain ⟨p1, f1⟩ := S2.out.2.1 1 _ rfl; obtain ⟨d, hd⟩ : ∃ d, decide (sgn s (V z3) < 0) = d := ⟨_, rfl⟩; rw [hd] at HZ ⊢; clear hR hz hd))
      all_goals
        go_wp2_with (fail)
        have hz := HZ.out
        rw [H3.out.2.2.1, sgn_big Hs.out HL.out] at hz
        exact bodyPost_ret (v := .agg #[.bool d, .slice A4 n4 c4]) (by simp [results, Tryz.results33, go_sem, World.cell?_setCell_same', p0, p1]) rfl hz
    · have hge : cc < 0 := by rw [← hcc]; unfold cmpI; split <;> (try split) <;> omega
      have hge2 : ¬ 0 ≤ cc := by omega
      have HB := Lib.hid (show V ys - V xs < Big from Nat.lt_of_le_of_lt (Nat.sub_le _ _) (Nat.lt_of_le_of_lt (Nat.le_add_left _ _) Hx.out.2.2))
      have HL := Lib.hid (show V xs ≤ V ys by omega)
      clear hle hcc
      go_wp2_with (fail)
      go_region_held3 (fun w' => w'.cell? ⟨w.heap.size, 0, none⟩ = some (.bool s) ∧ w'.cell? ⟨w.heap.size, 1, none⟩ = some (.slice A n c) ∧ w'.cell? ⟨w.heap.size + 1, 0, none⟩ = some (.bool s') ∧ w'.cell? ⟨w.heap.size + 1, 1, none⟩ = some (.slice A' n' c')) (first | exact ⟨q0, q1, q2, q3⟩ | exact S1.out.1 | exact S2.out.1 | exact S2.out.put | go_keep)
        (first
          | (go_at_call 23; refine (RNSub_ok A' A n' n c' c ys xs X2.drew hn' hn (show Sl X2 A' n' c' ys from Hx.out.2.1.below HX2.out.2.2.1) (show Sl X2 A n c xs from Hx.out.1.below HX2.out.2.2.1) HL.out).mono ?_; rintro e w3 hR; obtain ⟨A3, n3, c3, z3, hEq, h3⟩ := hR.open HB.out; subst hEq; have S1 := Lib.hid (HX2.out.keep (show Below X2.heap.size X2 w3 from belowA h3.bel)); have H3 := Lib.hid h3; clear hR h3)
          | (go_at_call 73; refine (RMake_ok s' A3 n3 c3 z3 w3 H3.out.2.2.2.1 H3.out.1).mono ?_; rintro e w4 hR; obtain ⟨A4, n4, c4, hEq, hz⟩ := hR.val; subst hEq; have S2 := Lib.hid (S1.out.keep hz.bel); have HZ := Lib.hid (hz.done3 S1.out (u := .bool (decide (sgn s' (V z3) < 0))) (v := .slice A4 n4 c4)); obtain ⟨p0, f0⟩ := S2.out.2.1 0 _ rfl; obtain ⟨p1, f1⟩ := S2.out.2.1 1 _ rfl; obtain ⟨d, hd⟩ : ∃ d, decide (sgn s' (V z3) < 0) = d := ⟨_, rfl⟩; rw [hd] at HZ ⊢; clear hR hz hd))
      all_goals
        go_wp2_with (fail)
        have hz := HZ.out
        rw [H3.out.2.2.1, sgn_small Hs.out HL.out] at hz
        exact bodyPost_ret (v := .agg #[.bool d, .slice A4 n4 c4]) (by simp [results, Tryz.results33, go_sem, World.cell?_setCell_same', p0, p1]) rfl hz
end Go.Proofs.YtcnambjckmpipaaGreatDoor
