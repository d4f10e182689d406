/- The contracts of reckonerref03.Make, Trim, Is, From. -/
import Derived.Test.YthpgdpkemnhneaaGreatDoorP9
import Derived.Test.YthpgdpkemnhneaaGreatDoorZFKar
import Derived.Test.YthpgdpkemnhneaaGreatDoorP1
import Derived.Deep.RegionHeld3
namespace Go.Proofs.YthpgdpkemnhneaaGreatDoor
open Go.RowKit Go.Shelf
set_option linter.unusedVariables false
set_option linter.unusedSimpArgs false
set_option maxRecDepth 10000

/-- the result's place behind a call -/
theorem res2 {w w1 : World} {x y : Value} {t : TypeId} (hb : Below (w.alloc (.cells #[x, y] t)).heap.size (w.alloc (.cells #[x, y] t)) w1) :
    (w1.cell? ⟨w.heap.size, 0, none⟩ = some x ∧ w1.frozen? ⟨w.heap.size, 0, none⟩ = false) ∧ (w1.cell? ⟨w.heap.size, 1, none⟩ = some y ∧ w1.frozen? ⟨w.heap.size, 1, none⟩ = false) ∧ Below w.heap.size w w1 := by
  have k0 := (Bk.new w [x, y] t).below hb (by simp)
  exact ⟨k0 0 _ rfl, k0 1 _ rfl, ((Below.refl _ w).alloc (Nat.le_refl _) _).trans (hb.mono (by simp))⟩
theorem Nu.put2 {w w1 : World} {A : Option Addr} {n c x : Nat} {zs : List Nat} {u v : Value} (h : Nu (w.alloc (.cells #[.bool false, .slice none 0 0] 32)) w1 A n c zs x) : Nu w ((w1.setCell ⟨w.heap.size, 0, none⟩ u).setCell ⟨w.heap.size, 1, none⟩ v) A n c zs x := by
  obtain ⟨n', zs', h1, h2, h3⟩ := h.2.2.2.2.1
  obtain ⟨A', c', e, hs⟩ := h1.sl
  injection e with e1 e2 e3
  subst e1 e2 e3
  have e4 : zs' = zs := Cn_inj hs.2.2.2.1 h.1.2.2.2.1 h2 h.2.1 (by rw [h3, h.2.2.1])
  subst e4
  have h5 := h1.put2 (b := w.heap.size) (u := u) (v := v) (by simp)
  have h6 : Nw w ((w1.setCell ⟨w.heap.size, 0, none⟩ u).setCell ⟨w.heap.size, 1, none⟩ v) (.slice A n c) n zs' := ⟨h5.1, h5.2.1, own_base h5.2.2 (by simp)⟩
  have hb : Below w.heap.size w w1 := ((Below.refl _ w).alloc (Nat.le_refl _) _).trans (h.bel.mono (by simp))
  exact ⟨(h6.sc h2).1, h.2.1, h.2.2.1, h.2.2.2.1, ⟨n, zs', h6, h2, h3⟩, (hb.setCell (p := ⟨w.heap.size, 0, none⟩) (Nat.le_refl _) _).setCell (p := ⟨w.heap.size, 1, none⟩) (Nat.le_refl _) _⟩

set_option maxHeartbeats 1000000 in
theorem RMake_ok (g : Bool) (A : Option Addr) (n c : Nat) (xs : List Nat) (w : World) (hn : n ≤ 4096) (hx : Sl w A n c xs) :
    Calls Tryz.prog 84 #[.bool g, .slice A n c] w fun e w' => Zr w w' e (sgn g (V xs)) := by
  have Hx := Lib.hid hx
  have HB := Lib.hid (show V xs < Big from Big_of hx.lt hn)
  clear hx
  go_enter Tryz.func84, Tryz.ntmps84
  go_wp2_with (fail)
  refine (RTrim_ok A n c xs _ hn (Hx.out.alloc_ _)).mono ?_
  rintro e w1 hR
  obtain ⟨A1, n1, c1, zs, rfl, h1⟩ := hR.open HB.out
  obtain ⟨⟨p0, f0⟩, ⟨p1, f1⟩, hb⟩ := res2 h1.bel
  have H1 := Lib.hid h1
  have hms := mk_sign (g := g) h1
  clear h1 hR hb
  cases g
  · have HP := Lib.hid hms
    clear hms
    go_wp2_with (fail)
    exact bodyPost_ret (v := .agg #[.bool false, .slice A1 n1 c1]) (by simp [results, Tryz.results84, go_sem, World.cell?_setCell_same', p0, p1]) rfl (Zr.of (g := false) H1.out.put2 HP.out (sgn_nat _ _))
  · have HP := Lib.hid hms
    clear hms
    by_cases h0 : 0 < n1
    · have hi : (0 : Int) < (n1 : Int) := by omega
      have e : decide (0 < n1) = true := decide_eq_true h0
      rw [e] at HP
      clear h0
      go_wp2_with (fail)
      have hz := Zr.of (g := true) (z := sgn true (V xs)) (H1.out.put2 (u := .bool true) (v := .slice A1 n1 c1)) (by rw [e]; exact HP.out) (sgn_nat _ _)
      rw [e] at hz
      exact bodyPost_ret (v := .agg #[.bool true, .slice A1 n1 c1]) (by simp [results, Tryz.results84, go_sem, World.cell?_setCell_same', p0, p1]) rfl hz
    · have hi : ¬ (0 : Int) < (n1 : Int) := by omega
      have e : decide (0 < n1) = false := decide_eq_false h0
      obtain rfl : n1 = 0 := by omega
      rw [e] at HP
      clear h0
      go_wp2_with (fail)
      have hz := Zr.of (g := true) (z := sgn true (V xs)) (H1.out.put2 (u := .bool false) (v := .slice A1 0 c1)) (by rw [e]; exact HP.out) (sgn_nat _ _)
      rw [e] at hz
      exact bodyPost_ret (v := .agg #[.bool false, .slice A1 0 c1]) (by simp [results, Tryz.results84, go_sem, World.cell?_setCell_same', p0, p1]) rfl hz

theorem Zr.put {w W2 w1 : World} {b : Bool} {A : Option Addr} {n c g : Nat} {z : Int} {u v : Value} (h : Zr W2 w1 (.returned (.agg #[.bool b, .slice A n c])) z) (h0 : Below w.heap.size w W2) (hg : w.heap.size ≤ g) (hg2 : g < W2.heap.size) :
    Zr w ((w1.setCell ⟨g, 0, none⟩ u).setCell ⟨g, 1, none⟩ v) (.returned (.agg #[.bool b, .slice A n c])) z := by
  obtain ⟨A', n', c', zs, e, h1, h2, h3, h4⟩ := h
  have h5 := h1.put2 (b := g) (u := u) (v := v) hg2
  exact ⟨A', n', c', zs, e, ⟨h5.1, h5.2.1, own_base h5.2.2 h0.size⟩, h2, h3, ((h0.trans (h4.mono h0.size)).setCell (p := ⟨g, 0, none⟩) hg _).setCell (p := ⟨g, 1, none⟩) hg _⟩
theorem Zr.val {w w' : World} {e : Ending} {z : Int} (h : Zr w w' e z) : ∃ A n c, e = .returned (.agg #[.bool (decide (z < 0)), .slice A n c]) ∧ Zr w w' (.returned (.agg #[.bool (decide (z < 0)), .slice A n c])) z := by
  obtain ⟨A, n, c, zs, e, h1⟩ := h
  exact ⟨A, n, c, e, A, n, c, zs, rfl, h1⟩
theorem field_neg (s : Bool) (A : Option Addr) (n c : Nat) (w : World) : (Instr.field 32 (.agg #[.bool s, .slice A n c]) 0).run Tryz.prog w = .ok (.bool s) w := by kernel_rfl
set_option maxHeartbeats 1000000 in
theorem RTrimZ_ok (s : Bool) (A : Option Addr) (n c : Nat) (xs : List Nat) (w : World) (hn : n ≤ 4096) (hx : Sl w A n c xs) :
    Calls Tryz.prog 102 #[.agg #[.bool s, .slice A n c]] w fun e w' => Zr w w' e (sgn s (V xs)) := by
  have Hx := Lib.hid hx
  clear hx
  have hb0 : Below w.heap.size w ((w.alloc (.cells #[.bool s, .slice A n c] 32)).alloc (.cells #[.bool false, .slice none 0 0] 32)) := ((Below.refl _ _).alloc (Nat.le_refl _) _).alloc (by simp) _
  have Hb0 := Lib.hid hb0
  clear hb0
  go_enter Tryz.func102, Tryz.ntmps102
  go_wp2_with (fail)
  refine (RMake_ok s A n c xs _ hn (Hx.out.below Hb0.out)).mono ?_
  rintro e w1 hR
  have hb1 : Below ((w.alloc (.cells #[.bool s, .slice A n c] 32)).alloc (.cells #[.bool false, .slice none 0 0] 32)).heap.size ((w.alloc (.cells #[.bool s, .slice A n c] 32)).alloc (.cells #[.bool false, .slice none 0 0] 32)) w1 := by obtain ⟨_, _, _, _, _, _, _, _, h⟩ := hR; exact h
  obtain ⟨A1, n1, c1, rfl, hz⟩ := hR.val
  obtain ⟨⟨p0, f0⟩, ⟨p1, f1⟩, -⟩ := res2 hb1
  rw [World.size_alloc] at p0 f0 p1 f1
  have HZ := Lib.hid (hz.put Hb0.out (g := w.heap.size + 1) (by omega) (by simp) (u := .bool (decide (sgn s (V xs) < 0))) (v := .slice A1 n1 c1))
  clear hR hb1 hz
  obtain ⟨d, hd⟩ : ∃ d, decide (sgn s (V xs) < 0) = d := ⟨_, rfl⟩
  rw [hd] at HZ ⊢
  clear hd
  go_wp2_with (fail)
  exact bodyPost_ret (v := .agg #[.bool d, .slice A1 n1 c1]) (by simp [results, Tryz.results102, go_sem, World.cell?_setCell_same', p0, p1]) rfl HZ.out
set_option maxHeartbeats 2000000 in
/-- Is, where it is true -/
theorem RIsZ_ok (s s' : Bool) (A A' : Option Addr) (n n' c c' : Nat) (xs ys : List Nat) (w : World) (hn : n ≤ 4096) (hn' : n' ≤ 4096) (hx : Sl w A n c xs) (hy : Sl w A' n' c' ys) (hc : Cn xs) (hz : s = decide (sgn s (V xs) < 0)) (hv : sgn s (V xs) = sgn s' (V ys)) :
    Calls Tryz.prog 89 #[.agg #[.bool s, .slice A n c], .agg #[.bool s', .slice A' n' c']] w fun e w' => e = .returned (.bool true) ∧ Below w.heap.size w w' := by
  have Hx := Lib.hid (And.intro hx (And.intro hy hc))
  have HV := Lib.hid (show V xs = V ys by have := congrArg Int.natAbs hv; rwa [sgn_abs, sgn_abs] at this)
  have HD := Lib.hid (show decide (sgn s' (V ys) < 0) = s by rw [← hv, ← hz])
  clear hx hy hc hz hv
  obtain ⟨X, hX⟩ : ∃ X, (w.alloc (.cells #[.bool s, .slice A n c] 32)).alloc (.cells #[.bool s', .slice A' n' c'] 32) = X := ⟨_, rfl⟩
  have hb : Below w.heap.size w X := by rw [← hX]; exact ((Below.refl _ _).alloc (Nat.le_refl _) _).alloc (by simp) _
  have k0 : Bk X w.heap.size [.bool s, .slice A n c] := by
    rw [← hX]; exact (Bk.new w _ _).below ((Below.refl _ _).alloc (Nat.le_refl _) _) (by simp)
  have k1 : Bk X (w.heap.size + 1) [.bool s', .slice A' n' c'] := by
    have := Bk.new (w.alloc (.cells #[.bool s, .slice A n c] 32)) [.bool s', .slice A' n' c'] 32
    rw [World.size_alloc] at this
    rw [← hX]; exact this
  obtain ⟨p0, -⟩ := k0 0 _ rfl
  obtain ⟨p1, -⟩ := k0 1 _ rfl
  obtain ⟨q0, -⟩ := k1 0 _ rfl
  obtain ⟨q1, -⟩ := k1 1 _ rfl
  have HX := Lib.hid hb
  go_enter Tryz.func89, Tryz.ntmps89
  go_wp2_with (fail)
  clear hX hb k0 k1
  go_region_held3 (fun w' => w'.cell? ⟨w.heap.size, 0, none⟩ = some (.bool s) ∧ w'.cell? ⟨w.heap.size, 1, none⟩ = some (.slice A n c) ∧ w'.cell? ⟨w.heap.size + 1, 0, none⟩ = some (.bool s') ∧ w'.cell? ⟨w.heap.size + 1, 1, none⟩ = some (.slice A' n' c')) (first | exact ⟨p0, p1, q0, q1⟩ | exact S1.out | exact S2.out | go_keep)
    (first
      | (go_at_call 18; refine (Is_ok A A' n n' c c' xs ys X.drew hn hn' (show Sl X A n c xs from Hx.out.1.below HX.out) (show Sl X A' n' c' ys from Hx.out.2.1.below HX.out) Hx.out.2.2 HV.out).mono ?_; rintro e w3 ⟨rfl, hb3⟩; have HB3 := Lib.hid (show Below X.heap.size X w3 from belowA hb3); have S1 := Lib.hid (show w3.cell? ⟨w.heap.size, 0, none⟩ = some (.bool s) ∧ w3.cell? ⟨w.heap.size, 1, none⟩ = some (.slice A n c) ∧ w3.cell? ⟨w.heap.size + 1, 0, none⟩ = some (.bool s') ∧ w3.cell? ⟨w.heap.size + 1, 1, none⟩ = some (.slice A' n' c') from ⟨(HB3.out.cell (World.block_lt_of_cell? _ _ p0)).trans p0, (HB3.out.cell (World.block_lt_of_cell? _ _ p1)).trans p1, (HB3.out.cell (World.block_lt_of_cell? _ _ q0)).trans q0, (HB3.out.cell (World.block_lt_of_cell? _ _ q1)).trans q1⟩); clear hb3)
      | (go_at_call 102; refine (RTrimZ_ok s' A' n' c' ys w3 hn' ((Hx.out.2.1.below HX.out).below HB3.out)).mono ?_; rintro e w4 hR; have hb4 : Below w3.heap.size w3 w4 := (by obtain ⟨_, _, _, _, _, _, _, _, h⟩ := hR; exact h); obtain ⟨A4, n4, c4, rfl, -⟩ := hR.val; rw [HD.out]; have hfn := field_neg s A4 n4 c4; have S2 := Lib.hid (show w4.cell? ⟨w.heap.size, 0, none⟩ = some (.bool s) ∧ w4.cell? ⟨w.heap.size, 1, none⟩ = some (.slice A n c) ∧ w4.cell? ⟨w.heap.size + 1, 0, none⟩ = some (.bool s') ∧ w4.cell? ⟨w.heap.size + 1, 1, none⟩ = some (.slice A' n' c') from ⟨(hb4.cell (World.block_lt_of_cell? _ _ S1.out.1)).trans S1.out.1, (hb4.cell (World.block_lt_of_cell? _ _ S1.out.2.1)).trans S1.out.2.1, (hb4.cell (World.block_lt_of_cell? _ _ S1.out.2.2.1)).trans S1.out.2.2.1, (hb4.cell (World.block_lt_of_cell? _ _ S1.out.2.2.2)).trans S1.out.2.2.2⟩); have HB4 := Lib.hid (HB3.out.trans (hb4.mono HB3.out.size)); clear hR hb4))
  all_goals
    go_wp2_with (fail)
    go_ret
    exact ⟨rfl, HX.out.trans (HB4.out.mono HX.out.size)⟩
set_option maxHeartbeats 1000000 in
theorem RFrom_ok (z : Int) (w : World) (h1 : -1000000 ≤ z) (h2 : z ≤ 1000000) :
    Calls Tryz.prog 54 #[.int .i64 z] w fun e w' => Zr w w' e z := by
  have hb0 : Below w.heap.size w (w.alloc (.cells #[.bool false, .slice none 0 0] 32)) := (Below.refl _ _).alloc (Nat.le_refl _) _
  have Hb0 := Lib.hid hb0
  clear hb0
  obtain ⟨x, hx⟩ : ∃ x, z.natAbs = x := ⟨_, rfl⟩
  have hxB : x < B64 := by have : B64 = 18446744073709551616 := rfl; omega
  have hBig : x < Big := Big_of (k := 1) (by rw [Nat.pow_one]; exact hxB) (by omega)
  have HB := Lib.hid (And.intro hxB hBig)
  clear hxB hBig
  by_cases h0 : z < 0
  · have e1 : IntKind.u64.wrap z = 18446744073709551616 - (x : Int) := by rw [IntKind.wrap_u64]; omega
    obtain ⟨y, hy⟩ : ∃ y : Int, 18446744073709551616 - (x : Int) = y := ⟨_, rfl⟩
    have e3 : IntKind.u64.wrap (-y) = (x : Int) := by rw [IntKind.wrap_u64]; omega
    have HS := Lib.hid (show sgn true x = z by simp [sgn]; omega)
    rw [hy] at e1
    clear hx hy
    go_enter Tryz.func54, Tryz.ntmps54
    go_wp2_with (fail)
    refine (RFromWord_ok x _ HB.out.1).mono ?_
    rintro e w1 hR
    obtain ⟨A1, n1, c1, zs, rfl, h3⟩ := hR.open HB.out.2
    have H1 := Lib.hid h3
    clear h3 hR
    go_wp2_with (fail)
    refine (RMake_ok true A1 n1 c1 zs w1 H1.out.2.2.2.1 H1.out.1).mono ?_
    rintro e w2 hR
    rw [H1.out.2.2.1, HS.out] at hR
    have hz := hR.from H1.out.bel
    have hb2 : Below (w.alloc (.cells #[.bool false, .slice none 0 0] 32)).heap.size (w.alloc (.cells #[.bool false, .slice none 0 0] 32)) w2 := by obtain ⟨_, _, _, _, _, _, _, _, h⟩ := hz; exact h
    obtain ⟨A2, n2, c2, rfl, hz2⟩ := hz.val
    obtain ⟨⟨p0, f0⟩, ⟨p1, f1⟩, -⟩ := res2 hb2
    have HZ := Lib.hid (hz2.put Hb0.out (g := w.heap.size) (Nat.le_refl _) (by simp) (u := .bool (decide (z < 0))) (v := .slice A2 n2 c2))
    obtain ⟨d, hd⟩ : ∃ d, decide (z < 0) = d := ⟨_, rfl⟩
    rw [hd] at HZ ⊢
    clear hR hz hb2 hz2 hd H1 HB
    go_wp2_with (fail)
    exact bodyPost_ret (v := .agg #[.bool d, .slice A2 n2 c2]) (by simp [results, Tryz.results54, go_sem, World.cell?_setCell_same', p0, p1]) rfl HZ.out
  · have e1 : IntKind.u64.wrap z = z := by rw [IntKind.wrap_u64]; omega
    obtain rfl : z = (x : Int) := by omega
    have HS := Lib.hid (show sgn false x = (x : Int) by simp [sgn])
    clear hx
    go_enter Tryz.func54, Tryz.ntmps54
    go_wp2_with (fail)
    refine (RFromWord_ok x _ HB.out.1).mono ?_
    rintro e w1 hR
    obtain ⟨A1, n1, c1, zs, rfl, h3⟩ := hR.open HB.out.2
    have H1 := Lib.hid h3
    clear h3 hR
    go_wp2_with (fail)
    refine (RMake_ok false A1 n1 c1 zs w1 H1.out.2.2.2.1 H1.out.1).mono ?_
    rintro e w2 hR
    rw [H1.out.2.2.1, HS.out] at hR
    have hz := hR.from H1.out.bel
    have hb2 : Below (w.alloc (.cells #[.bool false, .slice none 0 0] 32)).heap.size (w.alloc (.cells #[.bool false, .slice none 0 0] 32)) w2 := by obtain ⟨_, _, _, _, _, _, _, _, h⟩ := hz; exact h
    obtain ⟨A2, n2, c2, rfl, hz2⟩ := hz.val
    obtain ⟨⟨p0, f0⟩, ⟨p1, f1⟩, -⟩ := res2 hb2
    have HZ := Lib.hid (hz2.put Hb0.out (g := w.heap.size) (Nat.le_refl _) (by simp) (u := .bool (decide ((x : Int) < 0))) (v := .slice A2 n2 c2))
    obtain ⟨d, hd⟩ : ∃ d, decide ((x : Int) < 0) = d := ⟨_, rfl⟩
    rw [hd] at HZ ⊢
    clear hR hz hb2 hz2 hd H1 HB
    go_wp2_with (fail)
    exact bodyPost_ret (v := .agg #[.bool d, .slice A2 n2 c2]) (by simp [results, Tryz.results54, go_sem, World.cell?_setCell_same', p0, p1]) rfl HZ.out
end Go.Proofs.YthpgdpkemnhneaaGreatDoor
