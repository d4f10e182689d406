/- The contract of reckonerref03.half. -/
import Derived.Test.YtcnambjckmpipaaGreatDoorZRFloor
namespace Go.Proofs.YtcnambjckmpipaaGreatDoor
open Go.RowKit Go.Shelf
set_option linter.unusedVariables false
set_option linter.unusedSimpArgs false
set_option maxRecDepth 10000

theorem belDA {X W : World} {o : Obj} (h : Below ((X.alloc o).drew).heap.size ((X.alloc o).drew) W) : Below X.heap.size X W :=
  ((Below.refl _ X).alloc (Nat.le_refl _) o).trans ((belowA h).mono (by simp))
theorem belAL {X W : World} {o : Obj} (h : Below (X.alloc o).heap.size (X.alloc o) W) : Below X.heap.size X W :=
  ((Below.refl _ X).alloc (Nat.le_refl _) o).trans (h.mono (by simp))
/-- a new box, still empty -/
def Bx0 (W : World) (p : Nat) : Prop := Bk W p [.bool false, .slice none 0 0] ∧ p < W.heap.size
theorem Bx0.keep {W W' : World} {p : Nat} (h : Bx0 W p) (hb : Below W.heap.size W W') : Bx0 W' p := ⟨h.1.below hb h.2, Nat.lt_of_lt_of_le h.2 hb.size⟩
theorem Bx0.al {X W : World} (h : Below (X.alloc (.cells #[.bool false, .slice none 0 0] 26)).heap.size (X.alloc (.cells #[.bool false, .slice none 0 0] 26)) W) : Bx0 W X.heap.size :=
  Bx0.keep ⟨Bk.new X [.bool false, .slice none 0 0] 26, by simp⟩ h
theorem Bx0.da {X W : World} (h : Below ((X.alloc (.cells #[.bool false, .slice none 0 0] 26)).drew).heap.size ((X.alloc (.cells #[.bool false, .slice none 0 0] 26)).drew) W) : Bx0 W X.heap.size := Bx0.al (belowA h)
theorem Zr.later {w w1 w2 : World} {e : Ending} {z : Int} (h : Zr w w1 e z) (hb : Below w1.heap.size w1 w2) : Zr w w2 e z := by
  obtain ⟨A, n, c, zs, h0, h1, h2, h3, h4⟩ := h
  exact ⟨A, n, c, zs, h0, h1.later (Nat.le_refl _) hb, h2, h3, h4.trans (hb.mono h4.size)⟩
theorem cell_al {W : World} {o : Obj} {a : Addr} {u : Value} (h : W.cell? a = some u) : (W.alloc o).cell? a = some u :=
  (((Below.refl _ W).alloc (Nat.le_refl _) o).cell (World.block_lt_of_cell? _ _ h)).trans h
theorem cell_put2 {W : World} {b p j : Nat} {u x y : Value} (h : W.cell? ⟨b, j, none⟩ = some u) (hp : b ≠ p) : ((W.setCell ⟨p, 0, none⟩ x).setCell ⟨p, 1, none⟩ y).cell? ⟨b, j, none⟩ = some u := by
  rw [World.cell?_setCell_other _ _ _ _ (by simp; try omega), World.cell?_setCell_other _ _ _ _ (by simp; try omega)]; assumption
/-- a box that holds an integer which is new behind X, and (from a call) a remainder -/
def HfP (X W : World) (p : Nat) (d : Bool) (A : Option Addr) (n c : Nat) (z : Int) : Prop :=
  (W.cell? ⟨p, 0, none⟩ = some (.bool d) ∧ W.cell? ⟨p, 1, none⟩ = some (.slice A n c)) ∧ Zr X W (.returned (.agg #[.bool d, .slice A n c])) z ∧ X.heap.size ≤ p ∧ p < W.heap.size
theorem HfP.old {X Y W : World} {p : Nat} {d : Bool} {A : Option Addr} {n c : Nat} {z : Int} (hb : Below X.heap.size X Y) (hp : X.heap.size ≤ p) (h0 : Bx0 Y p) (hz : Zr Y W (.returned (.agg #[.bool d, .slice A n c])) z) :
    HfP X ((W.setCell ⟨p, 0, none⟩ (.bool d)).setCell ⟨p, 1, none⟩ (.slice A n c)) p d A n c z := by
  have h1 := h0.keep hz.bel
  obtain ⟨p0, f0⟩ := h1.1 0 _ rfl
  obtain ⟨p1, f1⟩ := h1.1 1 _ rfl
  exact ⟨⟨by simp [go_sem, World.cell?_setCell_same', p0, p1], by simp [go_sem, World.cell?_setCell_same', p0, p1]⟩, hz.put hb hp h0.2, hp, by simpa [World.setCell] using h1.2⟩
theorem HfP.new {X Y W : World} {d : Bool} {A : Option Addr} {n c : Nat} {z : Int} (hb : Below X.heap.size X Y) (hz : Zr Y W (.returned (.agg #[.bool d, .slice A n c])) z) :
    HfP X (W.alloc (.cells #[.bool d, .slice A n c] 26)) W.heap.size d A n c z := by
  have hk := Bk.new W [.bool d, .slice A n c] 26
  exact ⟨⟨(hk 0 _ rfl).1, (hk 1 _ rfl).1⟩, (hz.from hb).later ((Below.refl _ _).alloc (Nat.le_refl _) _), (hb.trans (hz.bel.mono hb.size)).size, by simp⟩
theorem below_put2 {X W : World} {p : Nat} {u v : Value} (h : Below X.heap.size X W) (hp : X.heap.size ≤ p) : Below X.heap.size X ((W.setCell ⟨p, 0, none⟩ u).setCell ⟨p, 1, none⟩ v) :=
  (h.setCell (p := ⟨p, 0, none⟩) hp _).setCell (p := ⟨p, 1, none⟩) hp _

/-- what half holds behind Floor -/
def HfQ (w X W : World) (p : Nat) (d : Bool) (A : Option Addr) (n c : Nat) (z : Int) (v : Value) (r : Nat) : Prop :=
  HfP X W p d A n c z ∧ Nt X W v r ∧ Bk W (w.heap.size + 1) [.bool false, .slice none 0 0] ∧ Below w.heap.size w X ∧ Below X.heap.size X W ∧ w.heap.size + 1 < X.heap.size
theorem HfQ.new {w X Y W : World} {d : Bool} {A A' : Option Addr} {n c n' c' : Nat} {z : Int} {v : Value} {r : Nat} (hX : Z1 w X d A' n' c') (hb : Below X.heap.size X Y) {d' : Bool} (hz : Zr Y W (.returned (.agg #[.bool d', .slice A n c])) z) (hr : Nt Y W v r) :
    HfQ w X (W.alloc (.cells #[.bool d', .slice A n c] 26)) W.heap.size d' A n c z v r := by
  have h1 := hb.trans (hz.bel.mono hb.size)
  have h2 := h1.trans (((Below.refl _ W).alloc (Nat.le_refl _) (.cells #[.bool d', .slice A n c] 26)).mono h1.size)
  exact ⟨HfP.new hb hz, hr.later hb.size ((Below.refl _ _).alloc (Nat.le_refl _) _), hX.2.1.below h2 hX.2.2.2, hX.2.2.1, h2, hX.2.2.2⟩
theorem HfQ.old {w X Y W : World} {d : Bool} {A A' : Option Addr} {n c n' c' : Nat} {z : Int} {v : Value} {r p : Nat} (hX : Z1 w X d A' n' c') (hb : Below X.heap.size X Y) (hp : X.heap.size ≤ p) (h0 : Bx0 Y p) {d' : Bool} (hz : Zr Y W (.returned (.agg #[.bool d', .slice A n c])) z) (hr : Nt Y W v r) :
    HfQ w X ((W.setCell ⟨p, 0, none⟩ (.bool d')).setCell ⟨p, 1, none⟩ (.slice A n c)) p d' A n c z v r := by
  have h1 := hb.trans (hz.bel.mono hb.size)
  have h2 := below_put2 (u := .bool d') (v := .slice A n c) h1 hp
  exact ⟨HfP.old hb hp h0 hz, hr.put2 hb.size h0.2, hX.2.1.below h2 hX.2.2.2, hX.2.2.1, h2, hX.2.2.2⟩
set_option maxHeartbeats 4000000 in
theorem RHalfZ_ok (s : Bool) (A : Option Addr) (n c k : Nat) (xs : List Nat) (w : World) (hn : n < 4096) (hx : Sl w A n c xs) (hk : 0 < k) (hk2 : k < B64) :
    Calls Tryz.prog 32 #[.agg #[.bool s, .slice A n c], .int .u64 k] w fun e w' => ∃ (u : Value) (z : Int) (r : Nat), e = .returned (.tuple #[u, .bool (decide (r = 0))]) ∧ sgn s (V xs) = z * k + r ∧ r < k ∧ Zr w w' (.returned u) z := by
  have hkb : k < Big := Big_of (k := 1) (by rw [Nat.pow_one]; exact hk2) (by omega)
  have Hx := Lib.hid (And.intro hx (And.intro hk (And.intro hk2 (And.intro hkb hn))))
  clear hx hk hk2 hkb hn
  obtain ⟨X, hX⟩ : ∃ X, (w.alloc (.cells #[.bool s, .slice A n c] 26)).alloc (.cells #[.bool false, .slice none 0 0] 26) = X := ⟨_, rfl⟩
  have HX : Hid (Z1 w X s A n c) := by rw [← hX]; exact Z1.new w s A n c
  obtain ⟨q0, q1⟩ := HX.out.1
  go_enter Tryz.func32, Tryz.ntmps32
  go_wp2_with (fail)
  clear hX
  go_region_held3 (fun w' => w'.cell? ⟨w.heap.size, 0, none⟩ = some (.bool s) ∧ w'.cell? ⟨w.heap.size, 1, none⟩ = some (.slice A n c)) (first | exact ⟨q0, q1⟩ | exact S1.out.1 | exact S2.out.1 | exact ⟨cell_al S2.out.1.1, cell_al S2.out.1.2⟩ | exact ⟨cell_put2 S2.out.1.1 (by have h1 := HX.out.2.2.2; have h2 := HB3.out.size; omega), cell_put2 S2.out.1.2 (by have h1 := HX.out.2.2.2; have h2 := HB3.out.size; omega)⟩ | go_keep)
    (first
      | (go_at_call 74; refine (RFromWord_ok k _ Hx.out.2.2.1).mono ?_; rintro e w3 hR; obtain ⟨A3, n3, c3, z3, hEq, h3⟩ := hR.open Hx.out.2.2.2.1; subst hEq; have HB3 := Lib.hid (show Below X.heap.size X w3 from (by first | exact belowA h3.bel | exact belDA h3.bel)); have S1 := Lib.hid (HX.out.keep HB3.out); have H3 := Lib.hid (And.intro h3.1 (And.intro h3.2.2.2.1 h3.2.2.1)); (first | (have HA := Lib.hid (And.intro (Bx0.da h3.bel) (Nat.le_refl X.heap.size))) | skip); clear hR h3)
      | (go_at_call 75; refine (RFloorZ_ok s A A3 n n3 c c3 xs z3 _ Hx.out.2.2.2.2 H3.out.2.1 (by first | exact Hx.out.1.below S1.out.2.2.1 | exact (Hx.out.1.below S1.out.2.2.1).alloc_ _) (by first | exact H3.out.1 | exact H3.out.1.alloc_ _) (by rw [H3.out.2.2]; exact Hx.out.2.1)).mono ?_; rintro e w4 ⟨u, v, z, r, hEq, hsum, hrk, hz, hr⟩; subst hEq; obtain ⟨A4, n4, c4, hE4, hz4⟩ := hz.val; injection hE4 with hE4; subst hE4; have hb4 := hz4.bel; rw [H3.out.2.2] at hrk hsum; obtain ⟨A5, n5, c5, rs, hE5, h5⟩ := Nu.of hr hb4 (Nat.lt_trans hrk Hx.out.2.2.2.1); subst hE5; have HB4 := Lib.hid (show Below w3.heap.size w3 w4 from (by first | exact hb4 | exact belAL hb4)); have S2 := Lib.hid (S1.out.keep HB4.out); (first | (have HP := Lib.hid (Bx0.al hb4)) | (have HP := Lib.hid (HA.out.1.keep HB4.out)) | skip); (first | (obtain ⟨p0, f0⟩ := HP.out.1 0 _ rfl; obtain ⟨p1, f1⟩ := HP.out.1 1 _ rfl) | skip); have HZ := Lib.hid hz4; have HR := Lib.hid h5; have HV := Lib.hid (And.intro hsum hrk); obtain ⟨d, hd⟩ : ∃ d, decide (z < 0) = d := ⟨_, rfl⟩; rw [hd] at HZ ⊢; clear hz hz4 hb4 h5 hr hsum hrk hd))
  all_goals
    first
    | (have HE := Lib.hid (HfQ.new HX.out HB3.out HZ.out HR.out.2.2.2.2.1); obtain ⟨W, hW⟩ : ∃ W, w4.alloc (.cells #[.bool d, .slice A4 n4 c4] 26) = W := ⟨_, rfl⟩; obtain ⟨p, hp⟩ : ∃ p, w4.heap.size = p := ⟨_, rfl⟩; rw [hW] at HE ⊢; rw [hp] at HE ⊢; clear hW hp)
    | (have HE := Lib.hid (HfQ.old HX.out HB3.out HA.out.2 HA.out.1 HZ.out HR.out.2.2.2.2.1); obtain ⟨W, hW⟩ : ∃ W, (w4.setCell ⟨X.heap.size, 0, none⟩ (.bool d)).setCell ⟨X.heap.size, 1, none⟩ (.slice A4 n4 c4) = W := ⟨_, rfl⟩; obtain ⟨p, hp⟩ : ∃ p, X.heap.size = p := ⟨_, rfl⟩; rw [hW] at HE ⊢; rw [hp] at HE ⊢; clear hW hp p0 f0 p1 f1 HP)
    | (have HE := Lib.hid (HfQ.old HX.out (HB3.out.trans (((Below.refl _ w3).alloc (Nat.le_refl _) (.cells #[.bool false, .slice none 0 0] 26)).mono HB3.out.size)) HB3.out.size (Bx0.al (Below.refl _ _)) HZ.out HR.out.2.2.2.2.1); obtain ⟨W, hW⟩ : ∃ W, (w4.setCell ⟨w3.heap.size, 0, none⟩ (.bool d)).setCell ⟨w3.heap.size, 1, none⟩ (.slice A4 n4 c4) = W := ⟨_, rfl⟩; obtain ⟨p, hp⟩ : ∃ p, w3.heap.size = p := ⟨_, rfl⟩; rw [hW] at HE ⊢; rw [hp] at HE ⊢; clear hW hp p0 f0 p1 f1 HP)
  all_goals
    obtain ⟨hc0, hc1⟩ := HE.out.1.1
    obtain ⟨g0, e0⟩ := HE.out.2.2.1 0 _ rfl
    obtain ⟨g1, e1⟩ := HE.out.2.2.1 1 _ rfl
    have hpw : p ≠ w.heap.size + 1 := by have h1 := HE.out.2.2.2.2.2; have h2 := HE.out.1.2.2.1; omega
    obtain ⟨A6, n6, c6, rs6, hE6, h6⟩ := Nu.of HE.out.2.1 HE.out.2.2.2.2.1 (Nat.lt_trans HV.out.2 Hx.out.2.2.2.1)
    injection hE6 with hE6 hE7 hE8
    subst hE6 hE7 hE8
    have H6 := Lib.hid (And.intro h6 hpw)
    clear h6 hpw HR HZ S2 S1 HB4 H3 q0 q1
    go_wp2_with (fail)
    go_region_held3 (fun w' => w'.cell? ⟨p, 0, none⟩ = some (.bool d) ∧ w'.cell? ⟨p, 1, none⟩ = some (.slice A4 n4 c4)) (first | exact ⟨hc0, hc1⟩ | exact ⟨cell_put2 hc0 H6.out.2, cell_put2 hc1 H6.out.2⟩ | go_keep)
      (first
        | (go_at_call 76; refine (R2IsZ_ok A5 n5 c5 rs6 W.drew (by have := H6.out.1.2.2.2.1; omega) H6.out.1.1).mono ?_; rintro e w5 ⟨rfl, rfl⟩; rw [H6.out.1.2.2.1]))
    all_goals
      go_wp2_with (fail)
      exact bodyPost_ret (v := .tuple #[.agg #[.bool d, .slice A4 n4 c4], .bool (decide (r = 0))]) (by simp [results, Tryz.results32, go_sem, World.cell?_setCell_same', g0, g1]) rfl ⟨_, z, r, rfl, HV.out.1, HV.out.2, (HE.out.1.2.1.put (g := w.heap.size + 1) HE.out.2.2.2.1 (Nat.le_succ _) HE.out.2.2.2.2.2).later (Below.refl _ _).drew⟩
end Go.Proofs.YtcnambjckmpipaaGreatDoor
