/- The contracts of reckonerref03.Floor and half. -/
import Derived.Test.YtcnambjckmpipaaGreatDoorZRZN
import Derived.Test.YtcnambjckmpipaaGreatDoorP11
import Derived.Test.YtcnambjckmpipaaGreatDoorP5
namespace Go.Proofs.YtcnambjckmpipaaGreatDoor
open Go.RowKit Go.Shelf
set_option linter.unusedVariables false
set_option linter.unusedSimpArgs false
set_option maxRecDepth 10000

theorem R2IsZ_ok (A : Option Addr) (n c : Nat) (xs : List Nat) (w : World) (hn : n ≤ 100000) (hx : Sl w A n c xs) :
    Calls Tryz.prog 76 #[.slice A n c] w fun e w' => e = .returned (.bool (decide (V xs = 0))) ∧ w = w' := by
  have Hx := Lib.hid hx
  clear hx
  go_enter Tryz.func76, Tryz.ntmps76
  go_wp2_with (fail)
  refine (RLen_ok A n c xs w hn Hx.out).mono ?_
  rintro e w1 ⟨l, rfl, hl, hB, rfl⟩
  by_cases h0 : V xs = 0
  · obtain rfl : l = 0 := hB.2.2 h0
    have HD := Lib.hid (decide_eq_true h0)
    clear hB h0
    go_wp2_with (fail)
    go_ret
    rw [HD.out]
    exact ⟨rfl, rfl⟩
  · have hl0 : ((l : Int) == 0) = false := by have := (hB.2.1 (Nat.pos_of_ne_zero h0)).1; simp; omega
    have HD := Lib.hid (decide_eq_false h0)
    clear hB h0
    go_wp2_with (fail)
    go_ret
    rw [HD.out]
    exact ⟨rfl, rfl⟩
/-- the box of an integer, and the result's place -/
def Z1 (w W : World) (s : Bool) (A : Option Addr) (n c : Nat) : Prop :=
  (W.cell? ⟨w.heap.size, 0, none⟩ = some (.bool s) ∧ W.cell? ⟨w.heap.size, 1, none⟩ = some (.slice A n c)) ∧
  Bk W (w.heap.size + 1) [.bool false, .slice none 0 0] ∧ Below w.heap.size w W ∧ w.heap.size + 1 < W.heap.size
theorem Z1.keep {w W W' : World} {s : Bool} {A : Option Addr} {n c : Nat} (h : Z1 w W s A n c) (hb : Below W.heap.size W W') : Z1 w W' s A n c := by
  obtain ⟨⟨h1, h2⟩, h5, h6, h7⟩ := h
  have k : ∀ {p : Addr} {u : Value}, W.cell? p = some u → W'.cell? p = some u := fun {p u} h => (hb.cell (World.block_lt_of_cell? _ _ h)).trans h
  exact ⟨⟨k h1, k h2⟩, h5.below hb h7, h6.trans (hb.mono h6.size), Nat.lt_of_lt_of_le h7 hb.size⟩
theorem Z1.new (w : World) (s : Bool) (A : Option Addr) (n c : Nat) : Z1 w ((w.alloc (.cells #[.bool s, .slice A n c] 26)).alloc (.cells #[.bool false, .slice none 0 0] 26)) s A n c := by
  have hal : ∀ (W : World) (o : Obj), Below W.heap.size W (W.alloc o) := fun W o => (Below.refl _ _).alloc (Nat.le_refl _) _
  have k0 := (Bk.new w [.bool s, .slice A n c] 26).below (hal _ (.cells #[.bool false, .slice none 0 0] 26)) (by simp)
  have k2 := Bk.new (w.alloc (.cells #[.bool s, .slice A n c] 26)) [.bool false, .slice none 0 0] 26
  simp only [World.size_alloc] at k0 k2
  exact ⟨⟨(k0 0 _ rfl).1, (k0 1 _ rfl).1⟩, k2, ((Below.refl _ w).alloc (Nat.le_refl _) _).alloc (by simp) _, by simp⟩
theorem Nt.put2 {w W w1 : World} {v : Value} {x g : Nat} {u u' : Value} (h : Nt W w1 v x) (h0 : w.heap.size ≤ W.heap.size) (hg2 : g < W.heap.size) : Nt w ((w1.setCell ⟨g, 0, none⟩ u).setCell ⟨g, 1, none⟩ u') v x := by
  obtain ⟨A, n, c, zs, rfl, -, h2, h3, h1⟩ := h.sl
  have h5 := h1.put2 (b := g) (u := u) (v := u') hg2
  exact ⟨n, zs, ⟨h5.1, h5.2.1, own_base h5.2.2 h0⟩, h2, h3⟩
/-- what Floor answers: a quotient and a remainder -/
def FlR (w w' : World) (e : Ending) (X : Int) (k : Nat) : Prop := ∃ (u v : Value) (z : Int) (r : Nat), e = .returned (.tuple #[u, v]) ∧ X = z * k + r ∧ r < k ∧ Zr w w' (.returned u) z ∧ Nt w w' v r
theorem fl_pos {s : Bool} {a k : Nat} (hk : 0 < k) (h : ¬ sgn s a < 0) : sgn s a = sgn false (a / k) * k + (a % k : Nat) := by
  have h1 := Nat.div_add_mod a k
  have h2 : sgn s a = (a : Int) := by cases s <;> simp [sgn] at h ⊢; omega
  rw [h2]
  simp only [sgn]
  rw [if_neg (by decide)]
  have : ((a / k : Nat) : Int) * (k : Int) = ((k * (a / k) : Nat) : Int) := by rw [Int.natCast_mul, Int.mul_comm]
  rw [this]; omega
theorem fl_neg {s : Bool} {a k : Nat} (hk : 0 < k) (h : sgn s a < 0) (h0 : a % k = 0) : sgn s a = sgn true (a / k) * k + (a % k : Nat) := by
  have h1 := Nat.div_add_mod a k
  have h2 : sgn s a = -(a : Int) := by cases s <;> simp [sgn] at h ⊢; omega
  rw [h2]
  simp only [sgn, if_pos]
  have : -((a / k : Nat) : Int) * (k : Int) = -((k * (a / k) : Nat) : Int) := by rw [Int.natCast_mul, Int.neg_mul, Int.mul_comm]
  rw [this]; omega
theorem fl_neg2 {s : Bool} {a k : Nat} (hk : 0 < k) (h : sgn s a < 0) : sgn s a = sgn true (a / k + 1) * k + (k - a % k : Nat) := by
  have h1 := Nat.div_add_mod a k
  have h3 := Nat.mod_lt a hk
  have h2 : sgn s a = -(a : Int) := by cases s <;> simp [sgn] at h ⊢; omega
  rw [h2]
  simp only [sgn, if_pos]
  have : -((a / k + 1 : Nat) : Int) * (k : Int) = -((k * (a / k) : Nat) : Int) - k := by
    rw [Int.natCast_mul, Int.neg_mul, Int.natCast_add, Int.add_mul, Int.mul_comm (k : Int)]; simp; omega
  rw [this]; omega

set_option maxHeartbeats 4000000 in
theorem RFloorZ_ok (s : Bool) (A A' : Option Addr) (n n' c c' : Nat) (xs ys : List Nat) (w : World) (hn : n < 4096) (hn' : n' ≤ 4096) (hx : Sl w A n c xs) (hy : Sl w A' n' c' ys) (h0 : 0 < V ys) :
    Calls Tryz.prog 75 #[.agg #[.bool s, .slice A n c], .slice A' n' c'] w fun e w' => FlR w w' e (sgn s (V xs)) (V ys) := by
  have hxb : V xs + 1 < Big := by
    have h1 := hx.lt
    have h2 : B64 ^ n < B64 ^ Most := Nat.pow_lt_pow_right (by decide) (show n < Most from hn)
    unfold Big
    omega
  have hyb : V ys < Big := Big_of hy.lt hn'
  have Hx := Lib.hid (And.intro hx (And.intro hy (And.intro h0 (And.intro hxb hyb))))
  have hn4 : n ≤ 4096 := by omega
  clear hx hy h0 hxb hyb hn
  obtain ⟨X, hX⟩ : ∃ X, (w.alloc (.cells #[.bool s, .slice A n c] 26)).alloc (.cells #[.bool false, .slice none 0 0] 26) = X := ⟨_, rfl⟩
  have HX : Hid (Z1 w X s A n c) := by rw [← hX]; exact Z1.new w s A n c
  obtain ⟨q0, q1⟩ := HX.out.1
  go_enter Tryz.func75, Tryz.ntmps75
  go_wp2_with (fail)
  clear hX
  refine (RDivMod_ok A A' n n' c c' xs ys X hn4 hn' (Hx.out.1.below HX.out.2.2.1) (Hx.out.2.1.below HX.out.2.2.1) Hx.out.2.2.1).mono ?_
  rintro e w1 ⟨v1, v2, rfl, hq, hr, hb1⟩
  have hdl : V xs / V ys ≤ V xs := Nat.div_le_self _ _
  have hml := Nat.mod_lt (V xs) Hx.out.2.2.1
  have hB := Hx.out.2.2.2
  obtain ⟨A1, n1, c1, zs, rfl, h1⟩ := Nu.of hq hb1 (by omega)
  obtain ⟨A2, n2, c2, rs, rfl, h2⟩ := Nu.of hr hb1 (by omega)
  have S1 := Lib.hid (HX.out.keep hb1)
  have H1 := Lib.hid (And.intro h1 (And.intro h2 (And.intro hb1 (And.intro hdl hml))))
  clear hq hr hb1 h1 h2 hdl hml hB q0 q1
  obtain ⟨q0, q1⟩ := S1.out.1
  go_wp2_with (fail)
  refine (RTrimZ_ok s A n c xs w1 hn4 (Hx.out.1.below S1.out.2.2.1)).mono ?_
  rintro e w2 hR
  have hb2 := hR.bel
  obtain ⟨A3, n3, c3, rfl, -⟩ := hR.val
  have S2 := Lib.hid (S1.out.keep hb2)
  have H2 := Lib.hid (And.intro (H1.out.1.keep hb2) (And.intro (H1.out.2.1.keep hb2) (And.intro (H1.out.2.2.1.trans (hb2.mono H1.out.2.2.1.size)) H1.out.2.2.2)))
  clear hR hb2 H1 S1 q0 q1
  by_cases hs : sgn s (V xs) < 0
  · have HS := Lib.hid hs
    rw [decide_eq_true hs]
    clear hs
    have hfn := field_neg true A3 n3 c3
    go_wp2_with (fail)
    refine (R2IsZ_ok A2 n2 c2 rs w2 (by have := H2.out.2.1.2.2.2.1; omega) H2.out.2.1.1).mono ?_
    rintro e w3 ⟨rfl, rfl⟩
    rw [H2.out.2.1.2.2.1]
    by_cases hz : V xs % V ys = 0
    · have HZ0 := Lib.hid hz
      rw [decide_eq_true hz]
      clear hz
      go_wp2_with (fail)
      refine (RMake_ok true A1 n1 c1 zs w2 H2.out.1.2.2.2.1 H2.out.1.1).mono ?_
      rintro e w4 hR
      obtain ⟨A4, n4, c4, rfl, hz⟩ := hR.val
      have S4 := Lib.hid (S2.out.keep hz.bel)
      have HZ := Lib.hid (hz.put S2.out.2.2.1 (g := w.heap.size + 1) (by omega) S2.out.2.2.2 (u := .bool (decide (sgn true (V zs) < 0))) (v := .slice A4 n4 c4))
      have HR := Lib.hid ((H2.out.2.1.2.2.2.2.1.later (Nat.le_refl _) hz.bel).put2 (w := w) HX.out.2.2.1.size HX.out.2.2.2 (u := .bool (decide (sgn true (V zs) < 0))) (u' := .slice A4 n4 c4))
      obtain ⟨p0, f0⟩ := S4.out.2.1 0 _ rfl
      obtain ⟨p1, f1⟩ := S4.out.2.1 1 _ rfl
      obtain ⟨d, hd⟩ : ∃ d, decide (sgn true (V zs) < 0) = d := ⟨_, rfl⟩
      rw [hd] at HZ HR ⊢
      clear hR hz hd
      go_wp2_with (fail)
      refine bodyPost_ret (v := .tuple #[.agg #[.bool d, .slice A4 n4 c4], .slice A2 n2 c2]) (by simp [results, Tryz.results75, go_sem, World.cell?_setCell_same', p0, p1]) rfl ⟨_, _, _, _, rfl, ?_, H2.out.2.2.2.2, HZ.out, HR.out⟩
      rw [H2.out.1.2.2.1]
      exact fl_neg Hx.out.2.2.1 HS.out HZ0.out
    · have HZ0 := Lib.hid hz
      rw [decide_eq_false hz]
      clear hz
      go_wp2_with (fail)
      refine (RFromWord_ok 1 w2 (by decide)).mono ?_
      rintro e w3 hR3
      obtain ⟨A5, n5, c5, us, rfl, h5⟩ := hR3.open (by have := Hx.out.2.2.2.1; omega)
      have S3 := Lib.hid (S2.out.keep h5.bel)
      have H3 := Lib.hid (And.intro (H2.out.1.keep h5.bel) (And.intro (H2.out.2.1.keep h5.bel) (And.intro h5 (H2.out.2.2.1.trans (h5.bel.mono H2.out.2.2.1.size)))))
      clear hR3 h5
      go_wp2_with (fail)
      refine (RNAdd_ok A1 A5 n1 n5 c1 c5 zs us w3 H3.out.1.2.2.2.1 H3.out.2.2.1.2.2.2.1 H3.out.1.1 H3.out.2.2.1.1).mono ?_
      rintro e w4 hR4
      rw [H3.out.1.2.2.1, H3.out.2.2.1.2.2.1] at hR4
      obtain ⟨A6, n6, c6, ts, rfl, h6⟩ := hR4.open (by have := Hx.out.2.2.2.1; have := H2.out.2.2.2.1; omega)
      have S4 := Lib.hid (S3.out.keep h6.bel)
      have H4 := Lib.hid (And.intro h6 (And.intro (H3.out.2.1.keep h6.bel) (H3.out.2.2.2.trans (h6.bel.mono H3.out.2.2.2.size))))
      clear hR4 h6
      go_wp2_with (fail)
      refine (RMake_ok true A6 n6 c6 ts w4 H4.out.1.2.2.2.1 H4.out.1.1).mono ?_
      rintro e w5 hR
      obtain ⟨A4, n4, c4, rfl, hz⟩ := hR.val
      have S5 := Lib.hid (S4.out.keep hz.bel)
      have H5 := Lib.hid (And.intro hz (And.intro (H4.out.2.1.keep hz.bel) (H4.out.2.2.trans (hz.bel.mono H4.out.2.2.size))))
      obtain ⟨d, hd⟩ : ∃ d, decide (sgn true (V ts) < 0) = d := ⟨_, rfl⟩
      rw [hd] at H5 ⊢
      clear hR hz hd
      go_wp2_with (fail)
      refine (RNSub_ok A' A2 n' n2 c' c2 ys rs w5 hn' H5.out.2.1.2.2.2.1 (Hx.out.2.1.below S5.out.2.2.1) H5.out.2.1.1 (by rw [H5.out.2.1.2.2.1]; exact Nat.le_of_lt H2.out.2.2.2.2)).mono ?_
      rintro e w6 hR6
      rw [H5.out.2.1.2.2.1] at hR6
      obtain ⟨A7, n7, c7, ms, rfl, h7⟩ := hR6.open (by have := Hx.out.2.2.2.2; omega)
      have S6 := Lib.hid (S5.out.keep h7.bel)
      obtain ⟨A8, n8, c8, xs8, e8, k1, k2, k3, k4⟩ := H5.out.1
      have hz6 : Zr w4 w6 (.returned (.agg #[.bool d, .slice A4 n4 c4])) (sgn true (V ts)) := ⟨A8, n8, c8, xs8, e8, k1.later (Nat.le_refl _) h7.bel, k2, k3, k4.trans (h7.bel.mono k4.size)⟩
      have HZ := Lib.hid (hz6.put S4.out.2.2.1 (g := w.heap.size + 1) (by omega) S4.out.2.2.2 (u := .bool d) (v := .slice A4 n4 c4))
      have HR := Lib.hid (h7.2.2.2.2.1.put2 (w := w) S5.out.2.2.1.size S5.out.2.2.2 (u := .bool d) (u' := .slice A4 n4 c4))
      obtain ⟨p0, f0⟩ := S6.out.2.1 0 _ rfl
      obtain ⟨p1, f1⟩ := S6.out.2.1 1 _ rfl
      clear hR6 h7 hz6 e8 k1 k2 k3 k4
      go_wp2_with (fail)
      refine bodyPost_ret (v := .tuple #[.agg #[.bool d, .slice A4 n4 c4], .slice A7 n7 c7]) (by simp [results, Tryz.results75, go_sem, World.cell?_setCell_same', p0, p1]) rfl ⟨_, _, _, _, rfl, ?_, ?_, HZ.out, HR.out⟩
      · rw [H4.out.1.2.2.1]
        exact fl_neg2 Hx.out.2.2.1 HS.out
      · have := HZ0.out
        have := Hx.out.2.2.1
        omega
  · have HS := Lib.hid hs
    rw [decide_eq_false hs]
    clear hs
    have hfn := field_neg false A3 n3 c3
    go_wp2_with (fail)
    refine (RMake_ok false A1 n1 c1 zs w2 H2.out.1.2.2.2.1 H2.out.1.1).mono ?_
    rintro e w4 hR
    obtain ⟨A4, n4, c4, rfl, hz⟩ := hR.val
    have S4 := Lib.hid (S2.out.keep hz.bel)
    have HZ := Lib.hid (hz.put S2.out.2.2.1 (g := w.heap.size + 1) (by omega) S2.out.2.2.2 (u := .bool (decide (sgn false (V zs) < 0))) (v := .slice A4 n4 c4))
    have HR := Lib.hid ((H2.out.2.1.2.2.2.2.1.later (Nat.le_refl _) hz.bel).put2 (w := w) HX.out.2.2.1.size HX.out.2.2.2 (u := .bool (decide (sgn false (V zs) < 0))) (u' := .slice A4 n4 c4))
    obtain ⟨p0, f0⟩ := S4.out.2.1 0 _ rfl
    obtain ⟨p1, f1⟩ := S4.out.2.1 1 _ rfl
    obtain ⟨d, hd⟩ : ∃ d, decide (sgn false (V zs) < 0) = d := ⟨_, rfl⟩
    rw [hd] at HZ HR ⊢
    clear hR hz hd
    go_wp2_with (fail)
    refine bodyPost_ret (v := .tuple #[.agg #[.bool d, .slice A4 n4 c4], .slice A2 n2 c2]) (by simp [results, Tryz.results75, go_sem, World.cell?_setCell_same', p0, p1]) rfl ⟨_, _, _, _, rfl, ?_, H2.out.2.2.2.2, HZ.out, HR.out⟩
    rw [H2.out.1.2.2.1]
    exact fl_pos Hx.out.2.2.1 (Int.not_lt.2 HS.out)
end Go.Proofs.YtcnambjckmpipaaGreatDoor
