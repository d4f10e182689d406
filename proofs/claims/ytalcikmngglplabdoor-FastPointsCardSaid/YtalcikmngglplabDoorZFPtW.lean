/- The walk of the law FastPoints. -/
import Derived.Test.YtalcikmngglplabDoorZFPtM
import Derived.Test.YtalcikmngglplabDoorZFAwake
import Derived.Test.YtalcikmngglplabDoorZRVal
import Derived.Test.YtalcikmngglplabDoorP8
import Derived.OpenShut
namespace Go.Proofs.YtalcikmngglplabDoor
open Go.RowKit Go.Shelf
set_option linter.unusedVariables false
set_option linter.unusedSimpArgs false
set_option maxRecDepth 10000

/-- what integers hands back, of at most 6 words -/
def ZK (w W : World) (A : Option Addr) (k d : Nat) (al : List Sn) : Prop := Zl W A k d al ∧ al.length = k ∧ (∀ a ∈ al, Sl W a.A a.n a.c a.xs ∧ a.n ≤ 6) ∧ (∀ a ∈ al, a.v.natAbs < B64 ^ 6) ∧ Below w.heap.size w W
theorem ZK.below {w W W' : World} {A : Option Addr} {k d : Nat} {al : List Sn} (h : ZK w W A k d al) (hb : Below W.heap.size W W') : ZK w W' A k d al :=
  ⟨h.1.below hb, h.2.1, fun a ha => ⟨(h.2.2.1 a ha).1.below hb, (h.2.2.1 a ha).2⟩, h.2.2.2.1, h.2.2.2.2.trans (hb.mono h.2.2.2.2.size)⟩
theorem ig_ZK {w w' : World} {A : Option Addr} {k c : Nat} {al bl : List Sn} (hl : bl.length = k) (hz : Zl w' A k c bl) (hp : IgP w w' al bl 6) (hb : Below w.heap.size w w') : ZK w w' A k c bl := by
  have key : ∀ b ∈ bl, Sl w' b.A b.n b.c b.xs ∧ b.n ≤ 6 := fun b hb' => by
    obtain ⟨i, hi⟩ := List.getElem?_of_mem hb'
    obtain ⟨a, -, -, f3, f4⟩ := hp i b hi
    have hs := hz.2.2.2.2 b hb'
    refine ⟨hs, ?_⟩
    rw [← hs.1, f3, List.length_take]
    omega
  exact ⟨hz, hl, key, fun b hb' => by
    rw [Sn.v, sgn_abs]
    exact Nat.lt_of_lt_of_le (key b hb').1.lt (Nat.pow_le_pow_right B64_pos (key b hb').2), hb⟩
theorem igs_ok (al : List Sn) (A : Option Addr) (m c : Nat) (w : World) (hx : Zl w A m c al) :
    Calls Tryd.prog 5 #[.slice A m c, .int .i64 3, .int .i64 6] w fun e w' => ∃ A' k c' bl, e = .returned (.slice A' k c') ∧ k ≤ 3 ∧ ZK w w' A' k c' bl := by
  refine (integers_ok al A m c 3 6 w (by omega) (by omega) hx).mono ?_
  rintro e w' ⟨A', k, c', bl, rfl, hl, hk, -, hz, hp, hb⟩
  exact ⟨A', k, c', bl, rfl, hk, ig_ZK hl hz hp hb⟩
theorem big8 {x : Int} {k : Nat} (h : x.natAbs < B64 ^ k) (hk : k ≤ 20) : x.natAbs < Big := Big_of h (by omega)
/-- the five values of a list of at most three integers -/
def v3 (al : List Sn) : List Int := val3 (cf al 0) (cf al 1) (cf al 2)
theorem v3_lt {al : List Sn} (h : ∀ a ∈ al, a.v.natAbs < B64 ^ 6) : ∀ s ∈ v3 al, s.natAbs < B64 ^ 7 := val3_lt (cfv_lt h 0) (cfv_lt h 1) (cfv_lt h 2)
theorem Five3 (al : List Sn) (A : Option Addr) (k c : Nat) (w0 w : World) (hk : k ≤ 3) (hz : ZK w0 w A k c al) (hT : TabF w) :
    Calls Tryd.prog 9 #[.slice A k c] w fun z w' => ∃ a b c d e : Sn, z = .returned (.tuple #[snV a b c d e, .int .i64 0]) ∧ ZsR w w' a b c d e (v3 al) ∧ Below w.heap.size w w' := by
  have h5 : fiveS (valZ al) = v3 al := by rw [valZ3 (by have := hz.2.1; omega)]; rfl
  refine (FFive_ok al A k c w (by omega) hz.1 (fun a ha => by have := (hz.2.2.1 a ha).2; omega) hT (fun i s hi hs => ?_)).mono ?_
  · rw [h5] at hs
    exact big8 (v3_lt hz.2.2.2.1 s (List.mem_of_getElem? hs)) (by omega)
  · rintro e w' h
    rw [h5] at h
    exact h
/-- an array of five that came out of a call: its block -/
theorem fvk_put {w W : World} {a b c d e : Sn} {S : List Int} (h : ZsR w W a b c d e S) (hB : ∀ s ∈ S, s.natAbs < Big) : FvK (W.alloc (.cells (snL a b c d e).toArray 34)) W.heap.size [a, b, c, d, e] S :=
  FvK.of (h.later (Nat.le_refl _) ((Below.refl _ _).alloc (Nat.le_refl _) _)) (Bk.new W _ _) (by simp) hB
/-- Back of values of a polynomial -/
theorem Back5 (a b c d e : Sn) (p q r s t : Int) (w : World) (ha : ∀ s ∈ [a, b, c, d, e], Sl w s.A s.n s.c s.xs ∧ s.n ≤ 4096) (hv : [a.v, b.v, c.v, d.v, e.v] = valS p q r s t) (hT : TabF w) (hB : ∀ x ∈ [p, q, r, s, t], x.natAbs < Big) :
    Calls Tryd.prog 13 #[snV a b c d e] w fun z w' => ∃ a b c d e : Sn, z = .returned (.tuple #[snV a b c d e, .int .i64 0]) ∧ ZsR w w' a b c d e [p, q, r, s, t] ∧ Below w.heap.size w w' := by
  have key : ∀ Q : List Int, Q.length = 5 → (∀ i, i < 5 → QtI [a.v, b.v, c.v, d.v, e.v] Q i) → Q = [p, q, r, s, t] := fun Q hl hq => by
    rw [hv] at hq
    exact back_coef hl hq
  refine (FBack_ok a b c d e w ha hT (fun Q hl hq x hx => ?_)).mono ?_
  · rw [key Q hl hq] at hx
    exact hB x hx
  · rintro z w' ⟨⟨a2, b2, c2, d2, e2, Q, rfl, hq, hz⟩ | ⟨⟨i, u, h1, h2⟩, -⟩, hb⟩
    · have := key Q hz.1 hq
      subst this
      exact ⟨a2, b2, c2, d2, e2, rfl, hz, hb⟩
    · rw [hv] at h1
      exact absurd (back_dvd h1) h2
theorem cf5_big {al : List Sn} (h : ∀ a ∈ al, a.v.natAbs < B64 ^ 6) : ∀ x ∈ [cf al 0, cf al 1, cf al 2, 0, 0], x.natAbs < Big := fun x hx => by
  have h0 := cfv_lt h
  refine big8 (k := 6) ?_ (by omega)
  simp only [List.mem_cons, List.not_mem_nil, or_false] at hx
  rcases hx with rfl | rfl | rfl | rfl | rfl
  · exact h0 0
  · exact h0 1
  · exact h0 2
  · exact Nat.pow_pos B64_pos
  · exact Nat.pow_pos B64_pos
theorem FvK.bk {W : World} {b : Nat} {a b' c d e : Sn} {S : List Int} (h : FvK W b [a, b', c, d, e] S) : W.rangeAt b 0 (snL a b' c d e) := fun j v hj => by
  obtain ⟨b0, o, e0, -, hc⟩ := h.1.2.2.2.1 (by simp [sncs])
  injection e0 with e0
  injection e0 with e1 e2
  subst e1 e2
  exact hc j v hj
/-- what the law holds behind its first calls -/
def Pt1 (w W : World) (A1 A2 : Option Addr) (k1 k2 d1 d2 : Nat) (al bl : List Sn) : Prop := ZK w W A1 k1 d1 al ∧ ZK w W A2 k2 d2 bl ∧ TabF W
theorem Pt1.below {w W W' : World} {A1 A2 : Option Addr} {k1 k2 d1 d2 : Nat} {al bl : List Sn} (h : Pt1 w W A1 A2 k1 k2 d1 d2 al bl) (hb : Below W.heap.size W W') : Pt1 w W' A1 A2 k1 k2 d1 d2 al bl := ⟨h.1.below hb, h.2.1.below hb, h.2.2.below hb⟩
theorem Arr.far {w0 W : World} {b g : Nat} {R : List Sn} {S : List Int} (h : Arr w0 W b R S) (hne : b ≠ g) (hg : g < w0.heap.size) (j : Nat) (u : Value) : Arr w0 (W.setCell ⟨g, j, none⟩ u) b R S :=
  ⟨h.1.far hne j u, h.2.1, h.2.2.1, h.2.2.2.1, by simp [World.setCell]; exact h.2.2.2.2.1, fun i r s hi hs => by
    have h0 := h.2.2.2.2.2 i r s hi hs
    exact ⟨⟨h0.1.1, h0.1.2.1, own_kept h0.1.2.2 (grown_set W g j u) hg⟩, h0.2⟩⟩
theorem zr_sg {w0 w w' : World} {b : Bool} {A : Option Addr} {n c : Nat} {z : Int} (h : Zr w w' (.returned (.agg #[.bool b, .slice A n c])) z) (h0 : w0.heap.size ≤ w.heap.size) : ∃ zs, Sg w0 w' b A n c zs z := by
  obtain ⟨A', n', c', zs, e, h1, h2, h3, h4⟩ := h
  injection e with e
  obtain ⟨e1, rfl, rfl, rfl⟩ := va_inj e
  refine ⟨zs, ⟨h1.1, h1.2.1, own_base h1.2.2 h0⟩, h2, by rw [h3, e1]; exact (sgn_can z).symm, fun hb => ?_⟩
  rw [e1] at hb
  have := of_decide_eq_true hb
  rw [h3]
  omega
/-- the products of the first i values -/
def mulS (P Q : List Int) (i : Nat) : List Int := (List.range 5).map fun j => if j < i then P.getD j 0 * Q.getD j 0 else 0
theorem mulS_succ (P Q : List Int) (i : Nat) (hi : i < 5) : mulS P Q (i + 1) = (mulS P Q i).set i (P.getD i 0 * Q.getD i 0) := by
  rcases (show i = 0 ∨ i = 1 ∨ i = 2 ∨ i = 3 ∨ i = 4 by omega) with rfl | rfl | rfl | rfl | rfl <;> simp [mulS, List.range_succ_eq_map]
theorem FvK.at {W : World} {b : Nat} {l : List Sn} {S : List Int} (h : FvK W b l S) {i : Nat} (hi : i < 5) : ∃ a : Sn, W.cell? ⟨b, i * 2, none⟩ = some (.bool a.s) ∧ W.cell? ⟨b, i * 2 + 1, none⟩ = some (.slice a.A a.n a.c) ∧ Sl W a.A a.n a.c a.xs ∧ Cn a.xs ∧ a.n ≤ 4096 ∧ a.s = decide (a.v < 0) ∧ a.v = S.getD i 0 := by
  have hl : i < l.length := by rw [h.1.1]; exact hi
  have hg := List.getElem?_eq_getElem hl
  obtain ⟨b0, o, e0, -, h1, h2⟩ := h.1.at hg
  injection e0 with e0
  injection e0 with e1 e2
  subst e1 e2
  rw [Nat.zero_add] at h1 h2
  have h3 := h.2.1 _ (List.getElem_mem hl)
  refine ⟨l[i], h1, h2, h3.1, h3.2.1, h3.2.2.1, h3.2.2.2, ?_⟩
  rw [← h.2.2, List.getD_eq_getElem?_getD, List.getElem?_map, hg]
  rfl
theorem ZK.at {w W : World} {A : Option Addr} {k d : Nat} {al : List Sn} (h : ZK w W A k d al) {i : Nat} (hi : i < k) : ∃ b o, ∃ a : Sn, A = some ⟨b, o, none⟩ ∧ W.cell? ⟨b, o + i * 2, none⟩ = some (.bool a.s) ∧ W.cell? ⟨b, o + i * 2 + 1, none⟩ = some (.slice a.A a.n a.c) ∧ Sl W a.A a.n a.c a.xs ∧ a.n ≤ 6 ∧ a.v = cf al i := by
  have hl : i < al.length := by rw [h.2.1]; exact hi
  have hg := List.getElem?_eq_getElem hl
  obtain ⟨b0, o, e0, -, h1, h2⟩ := h.1.at hg
  have h3 := h.2.2.1 _ (List.getElem_mem hl)
  exact ⟨b0, o, al[i], e0, h1, h2, h3.1, h3.2, (cf_get hg).symm⟩
theorem ZK.lt {w W : World} {b o k d : Nat} {al : List Sn} (h : ZK w W (some ⟨b, o, none⟩) k d al) {i : Nat} (hi : i < k) : b < W.heap.size := by
  obtain ⟨b', o', a, e, c0, -⟩ := h.at hi
  injection e with e
  injection e with e1 e2
  subst e1 e2
  exact World.block_lt_of_cell? _ _ c0
/-- the lists, their values and the coefficients that came back -/
def Pt2 (w W : World) (A1 A2 : Option Addr) (k1 k2 d1 d2 : Nat) (al bl : List Sn) (bp bq bb : Nat) (lp lq lb : List Sn) : Prop :=
  Pt1 w W A1 A2 k1 k2 d1 d2 al bl ∧ FvK W bp lp (v3 al) ∧ FvK W bq lq (v3 bl) ∧ FvK W bb lb [cf al 0, cf al 1, cf al 2, 0, 0]
theorem Pt2.below {w W W' : World} {A1 A2 : Option Addr} {k1 k2 d1 d2 : Nat} {al bl : List Sn} {bp bq bb : Nat} {lp lq lb : List Sn} (h : Pt2 w W A1 A2 k1 k2 d1 d2 al bl bp bq bb lp lq lb) (hb : Below W.heap.size W W') : Pt2 w W' A1 A2 k1 k2 d1 d2 al bl bp bq bb lp lq lb :=
  ⟨h.1.below hb, h.2.1.below hb, h.2.2.1.below hb, h.2.2.2.below hb⟩
theorem cf_getD {al : List Sn} (h : al.length ≤ 3) {i : Nat} (hi : i < 5) : [cf al 0, cf al 1, cf al 2, 0, 0].getD i 0 = cf al i := by
  have h3 : cf al 3 = 0 := cf_out h
  have h4 : cf al 4 = 0 := cf_out (by omega)
  rcases (show i = 0 ∨ i = 1 ∨ i = 2 ∨ i = 3 ∨ i = 4 by omega) with rfl | rfl | rfl | rfl | rfl <;> simp [h3, h4]
def Z5 : List Sn := [Sn.zero, Sn.zero, Sn.zero, Sn.zero, Sn.zero]
/-- both arrays, and all that was there before them -/
def Ar2 (g : Nat) (W5 X W : World) (P S : List Int) : Prop := (∃ R, Arr X W g R P) ∧ (∃ R, Arr X W (g + 1) R S) ∧ Below W5.heap.size W5 W ∧ X.heap.size = g + 2 ∧ W5.heap.size = g
theorem Ar2.below {g : Nat} {W5 X W W' : World} {P S : List Int} (h : Ar2 g W5 X W P S) (hb : Below W.heap.size W W') : Ar2 g W5 X W' P S := by
  obtain ⟨⟨R, h1⟩, ⟨R', h2⟩, h3, h4⟩ := h
  exact ⟨⟨R, h1.below hb⟩, ⟨R', h2.below hb⟩, h3.trans (hb.mono h3.size), h4⟩
theorem Ar2.big {g : Nat} {W5 X W : World} {P S : List Int} (h : Ar2 g W5 X W P S) : g + 2 ≤ W.heap.size := by
  obtain ⟨⟨R, h1⟩, -, -, h4⟩ := h
  have := h1.2.2.2.2.1
  omega
/-- element i of the second array is stored -/
theorem Ar2.set2 {g : Nat} {W5 X W W' : World} {P S : List Int} {A : Option Addr} {n c i : Nat} {b : Bool} {z : Int} (h : Ar2 g W5 X W P S) (hi : i < 5) (hz : Zr W W' (.returned (.agg #[.bool b, .slice A n c])) z) :
    Ar2 g W5 X ((W'.setCell ⟨g + 1, i * 2, none⟩ (.bool b)).setCell ⟨g + 1, i * 2 + 1, none⟩ (.slice A n c)) P (S.set i z) ∧
    (∃ x, W'.cell? ⟨g + 1, i * 2, none⟩ = some x) ∧ (∃ x, W'.cell? ⟨g + 1, i * 2 + 1, none⟩ = some x) ∧ W'.frozen? ⟨g + 1, i * 2, none⟩ = false ∧ W'.frozen? ⟨g + 1, i * 2 + 1, none⟩ = false := by
  have hbig := h.big
  obtain ⟨⟨R, h1⟩, ⟨R', h2⟩, h3, h4⟩ := h.below hz.bel
  obtain ⟨zs, hs⟩ := zr_sg hz (w0 := X) (by omega)
  obtain ⟨x0, x1, e0, e1⟩ := sncs_get2' R' i (by rw [h2.2.1]; exact hi)
  have g0 := h2.1 _ _ e0
  have g1 := h2.1 _ _ e1
  have hset := h2.set i ⟨b, A, n, c, zs⟩ z hi hs
  rw [Nat.mul_comm 2 i] at hset g0 g1
  refine ⟨⟨⟨R, (h1.far (by omega) (by omega) _ _).far (by omega) (by omega) _ _⟩, ⟨_, hset⟩, (h3.setCell (p := ⟨g + 1, i * 2, none⟩) (by show W5.heap.size ≤ g + 1; omega) _).setCell (p := ⟨g + 1, i * 2 + 1, none⟩) (by show W5.heap.size ≤ g + 1; omega) _, h4⟩, ⟨_, g0.1⟩, ⟨_, g1.1⟩, g0.2, g1.2⟩
/-- element i of the first array is stored -/
theorem Ar2.set1 {g : Nat} {W5 X W W' : World} {P S : List Int} {A : Option Addr} {n c i : Nat} {b : Bool} {z : Int} (h : Ar2 g W5 X W P S) (hi : i < 5) (hz : Zr W W' (.returned (.agg #[.bool b, .slice A n c])) z) :
    Ar2 g W5 X ((W'.setCell ⟨g, i * 2, none⟩ (.bool b)).setCell ⟨g, i * 2 + 1, none⟩ (.slice A n c)) (P.set i z) S ∧
    (∃ x, W'.cell? ⟨g, i * 2, none⟩ = some x) ∧ (∃ x, W'.cell? ⟨g, i * 2 + 1, none⟩ = some x) ∧ W'.frozen? ⟨g, i * 2, none⟩ = false ∧ W'.frozen? ⟨g, i * 2 + 1, none⟩ = false := by
  have hbig := h.big
  obtain ⟨⟨R, h1⟩, ⟨R', h2⟩, h3, h4⟩ := h.below hz.bel
  obtain ⟨zs, hs⟩ := zr_sg hz (w0 := X) (by omega)
  obtain ⟨x0, x1, e0, e1⟩ := sncs_get2' R i (by rw [h1.2.1]; exact hi)
  have g0 := h1.1 _ _ e0
  have g1 := h1.1 _ _ e1
  have hset := h1.set i ⟨b, A, n, c, zs⟩ z hi hs
  rw [Nat.mul_comm 2 i] at hset g0 g1
  refine ⟨⟨⟨_, hset⟩, ⟨R', (h2.far (by omega) (by omega) _ _).far (by omega) (by omega) _ _⟩, (h3.setCell (p := ⟨g, i * 2, none⟩) (by show W5.heap.size ≤ g; omega) _).setCell (p := ⟨g, i * 2 + 1, none⟩) (by show W5.heap.size ≤ g; omega) _, h4⟩, ⟨_, g0.1⟩, ⟨_, g1.1⟩, g0.2, g1.2⟩
theorem put4 {W : World} {b1 b2 o1 o2 o3 o4 g j j' : Nat} {x1 x2 x3 x4 u v : Value} (h : W.cell? ⟨b1, o1, none⟩ = some x1 ∧ W.cell? ⟨b1, o2, none⟩ = some x2 ∧ W.cell? ⟨b2, o3, none⟩ = some x3 ∧ W.cell? ⟨b2, o4, none⟩ = some x4) (h1 : b1 ≠ g) (h2 : b2 ≠ g) :
    ((W.setCell ⟨g, j, none⟩ u).setCell ⟨g, j', none⟩ v).cell? ⟨b1, o1, none⟩ = some x1 ∧ ((W.setCell ⟨g, j, none⟩ u).setCell ⟨g, j', none⟩ v).cell? ⟨b1, o2, none⟩ = some x2 ∧ ((W.setCell ⟨g, j, none⟩ u).setCell ⟨g, j', none⟩ v).cell? ⟨b2, o3, none⟩ = some x3 ∧ ((W.setCell ⟨g, j, none⟩ u).setCell ⟨g, j', none⟩ v).cell? ⟨b2, o4, none⟩ = some x4 := by
  obtain ⟨e1, e2, e3, e4⟩ := h
  refine ⟨?_, ?_, ?_, ?_⟩ <;> (rw [World.cell?_setCell_other _ _ _ _ (by intro e; injection e; omega), World.cell?_setCell_other _ _ _ _ (by intro e; injection e; omega)]; assumption)
theorem zr_undrew {w w' : World} {e : Ending} {z : Int} (h : Zr w.drew w' e z) : Zr w w' e z := by
  obtain ⟨A, n, c, zs, e, h1, h2, h3, h4⟩ := h
  exact ⟨A, n, c, zs, e, h1, h2, h3, belowA h4⟩
def C4 (W : World) (b1 b2 o1 o2 o3 o4 : Nat) (x1 x2 x3 x4 : Value) : Prop := W.cell? ⟨b1, o1, none⟩ = some x1 ∧ W.cell? ⟨b1, o2, none⟩ = some x2 ∧ W.cell? ⟨b2, o3, none⟩ = some x3 ∧ W.cell? ⟨b2, o4, none⟩ = some x4
theorem C4.below {W W' : World} {b1 b2 o1 o2 o3 o4 : Nat} {x1 x2 x3 x4 : Value} (h : C4 W b1 b2 o1 o2 o3 o4 x1 x2 x3 x4) (hb : Below W.heap.size W W') : C4 W' b1 b2 o1 o2 o3 o4 x1 x2 x3 x4 :=
  ⟨(hb.cell (World.block_lt_of_cell? _ _ h.1)).trans h.1, (hb.cell (World.block_lt_of_cell? _ _ h.2.1)).trans h.2.1, (hb.cell (World.block_lt_of_cell? _ _ h.2.2.1)).trans h.2.2.1, (hb.cell (World.block_lt_of_cell? _ _ h.2.2.2)).trans h.2.2.2⟩
theorem C4.lt {W : World} {b1 b2 o1 o2 o3 o4 : Nat} {x1 x2 x3 x4 : Value} (h : C4 W b1 b2 o1 o2 o3 o4 x1 x2 x3 x4) : b1 < W.heap.size ∧ b2 < W.heap.size := ⟨World.block_lt_of_cell? _ _ h.1, World.block_lt_of_cell? _ _ h.2.2.1⟩
theorem mulV {x y : Int} {a b : Sn} {j k : Nat} (ha : a.v = x) (hb : b.v = y) (hx : x.natAbs < B64 ^ j) (hy : y.natAbs < B64 ^ k) (h : j + k ≤ 4096) : V a.xs * V b.xs < Big := by
  subst ha hb
  rw [Sn.v, sgn_abs] at hx hy
  exact Big_of (k := j + k) (by rw [Nat.pow_add]; exact Nat.mul_lt_mul'' hx hy) h
theorem getD_lt {S : List Int} {k : Nat} (h : ∀ s ∈ S, s.natAbs < B64 ^ k) (i : Nat) : (S.getD i 0).natAbs < B64 ^ k := by
  rw [List.getD_eq_getElem?_getD]
  cases e : S[i]? with
  | none => exact Nat.pow_pos B64_pos
  | some x => exact h x (List.mem_of_getElem? e)
theorem belA (W : World) (o : Obj) : Below W.heap.size W (W.alloc o) := (Below.refl _ _).alloc (Nat.le_refl _) _
/-- what is compared in a round -/
def WtK (W : World) (g : Nat) (a : Sn) (z : Int) : Prop := W.cell? ⟨g, 0, none⟩ = some (.bool a.s) ∧ W.cell? ⟨g, 1, none⟩ = some (.slice a.A a.n a.c) ∧ Sl W a.A a.n a.c a.xs ∧ a.n ≤ 4096 ∧ a.v = z
theorem WtK.new {W : World} {a : Sn} {z : Int} (hs : Sl W a.A a.n a.c a.xs) (hn : a.n ≤ 4096) (hv : a.v = z) : WtK (W.alloc (.cells #[.bool a.s, .slice a.A a.n a.c] 27)) W.heap.size a z := by
  have k := Bk.new W [.bool a.s, .slice a.A a.n a.c] 27
  exact ⟨(k 0 _ rfl).1, (k 1 _ rfl).1, hs.below ((Below.refl _ _).alloc (Nat.le_refl _) _), hn, hv⟩
/-- the products of the values, with the fifth one in its place -/
def finS (al bl : List Sn) : List Int := ((mulS (v3 al) (v3 bl) 5).set 4 0).set 4 (cf al 2 * cf bl 2)
theorem cf_mul0 {al bl : List Sn} (h : al.length ≤ 2 ∨ bl.length ≤ 2) : cf al 2 * cf bl 2 = 0 := by
  rcases h with h | h
  · rw [cf_out h, Int.zero_mul]
  · rw [cf_out h, Int.mul_zero]
theorem finS_zero {al bl : List Sn} (h : cf al 2 * cf bl 2 = 0) : (mulS (v3 al) (v3 bl) 5).set 4 0 = finS al bl := by rw [finS, h, List.set_set]
theorem finS_lt {al bl : List Sn} (ha : ∀ a ∈ al, a.v.natAbs < B64 ^ 6) (hb : ∀ a ∈ bl, a.v.natAbs < B64 ^ 6) : ∀ s ∈ finS al bl, s.natAbs < Big := fun s hs => by
  refine big8 (k := 14) ?_ (by omega)
  have h0 : (0 : Int).natAbs < B64 ^ 14 := Nat.pow_pos B64_pos
  rcases List.mem_or_eq_of_mem_set hs with h | rfl
  · rcases List.mem_or_eq_of_mem_set h with h | rfl
    · rw [mulS, List.mem_map] at h
      obtain ⟨i, -, rfl⟩ := h
      split
      · exact mulI_lt (getD_lt (v3_lt ha) i) (getD_lt (v3_lt hb) i)
      · exact h0
    · exact h0
  · exact Nat.lt_of_lt_of_le (mulI_lt (cfv_lt ha 2) (cfv_lt hb 2)) (Nat.pow_le_pow_right B64_pos (by omega))
theorem finS_val (al bl : List Sn) : finS al bl = valS (cf al 0 * cf bl 0) (cf al 0 * cf bl 1 + cf al 1 * cf bl 0) (cf al 0 * cf bl 2 + cf al 1 * cf bl 1 + cf al 2 * cf bl 0) (cf al 1 * cf bl 2 + cf al 2 * cf bl 1) (cf al 2 * cf bl 2) := by
  rw [← val_mul]
  simp [finS, mulS, v3, val3, valS, List.range_succ_eq_map]
theorem Ar2.at1 {g : Nat} {W5 X W : World} {P S : List Int} (h : Ar2 g W5 X W P S) {j : Nat} (hj : j < 5) (hB : ∀ s ∈ P, s.natAbs < B64 ^ 13) : ∃ a : Sn, W.cell? ⟨g, j * 2, none⟩ = some (.bool a.s) ∧ W.cell? ⟨g, j * 2 + 1, none⟩ = some (.slice a.A a.n a.c) ∧ Sl W a.A a.n a.c a.xs ∧ a.n ≤ 13 ∧ a.v = P.getD j 0 := by
  obtain ⟨⟨R, h1⟩, -⟩ := h
  have hR : j < R.length := by rw [h1.2.1]; exact hj
  have hP : j < P.length := by rw [h1.2.2.1]; exact hj
  obtain ⟨r, hr⟩ : ∃ r, R[j]? = some r := ⟨_, List.getElem?_eq_getElem hR⟩
  obtain ⟨s, hs⟩ : ∃ s, P[j]? = some s := ⟨_, List.getElem?_eq_getElem hP⟩
  have hg := sncs_get2 R j hr
  have hsg := h1.2.2.2.2.2 j _ _ hr hs
  have g0 := (h1.1 _ _ hg.1).1
  have g1 := (h1.1 _ _ hg.2).1
  rw [Nat.mul_comm 2 j] at g0 g1
  have hv : r.v = s := hsg.2.2.1.symm
  refine ⟨r, g0, g1, hsg.sl.1, sn_len hsg.sl (by rw [hv]; exact hB _ (List.mem_of_getElem? hs)), ?_⟩
  rw [hv, List.getD_eq_getElem?_getD, hs]
  rfl
theorem arr_fvk {X W : World} {b : Nat} {R : List Sn} {S : List Int} (h : Arr X W b R S) (hB : ∀ s ∈ S, s.natAbs < Big) : FvK W b R S := by
  obtain ⟨r0, r1, r2, r3, r4, rfl⟩ := list5 h.2.1
  exact FvK.of (w := X) ⟨h.2.2.1, h.2.2.2.2.2⟩ h.1 (by have := h.2.2.2.1; have := h.2.2.2.2.1; omega) hB
def C6 (W : World) (b1 o1 b2 o2 b3 i k j : Nat) (x1 x2 x3 x4 x5 x6 : Value) : Prop := W.cell? ⟨b1, o1 + i * 2, none⟩ = some x1 ∧ W.cell? ⟨b1, o1 + i * 2 + 1, none⟩ = some x2 ∧ W.cell? ⟨b2, o2 + k * 2, none⟩ = some x3 ∧ W.cell? ⟨b2, o2 + k * 2 + 1, none⟩ = some x4 ∧ W.cell? ⟨b3, j * 2, none⟩ = some x5 ∧ W.cell? ⟨b3, j * 2 + 1, none⟩ = some x6
theorem C6.below {W W' : World} {b1 o1 b2 o2 b3 i k j : Nat} {x1 x2 x3 x4 x5 x6 : Value} (h : C6 W b1 o1 b2 o2 b3 i k j x1 x2 x3 x4 x5 x6) (hb : Below W.heap.size W W') : C6 W' b1 o1 b2 o2 b3 i k j x1 x2 x3 x4 x5 x6 := by
  obtain ⟨h1, h2, h3, h4, h5, h6⟩ := h
  have key : ∀ {p : Addr} {u : Value}, W.cell? p = some u → W'.cell? p = some u := fun {p u} h => (hb.cell (World.block_lt_of_cell? _ _ h)).trans h
  exact ⟨key h1, key h2, key h3, key h4, key h5, key h6⟩
theorem zr_add {w w' : World} {e : Ending} {a b : Sn} {x y : Int} (h : Zr w w' e (sgn a.s (V a.xs) + sgn b.s (V b.xs))) (ha : a.v = x) (hb : b.v = y) : Zr w w' e (x + y) := by subst ha hb; exact h
theorem addV {w : World} {a b : Sn} {x y : Int} (ha : a.v = x) (hb : b.v = y) (hx : x.natAbs < B64 ^ 13) (hy : y.natAbs < B64 ^ 13) : V a.xs + V b.xs < Big := by
  subst ha hb
  rw [Sn.v, sgn_abs] at hx hy
  refine Big_of (k := 14) ?_ (by omega)
  have h3 : B64 ^ 13 + B64 ^ 13 < B64 ^ 14 := by decide
  omega
end Go.Proofs.YtalcikmngglplabDoor
namespace Go.Proofs.YtalcikmngglplabDoor.fastPoints
open Go.ChangeShapes Go.RowKit
set_option linter.unusedVariables false

set_option maxRecDepth 100000 in
set_option maxHeartbeats 8000000 in
theorem walk (w : World) (a0 : Option Addr) (n0 c0 : Nat) (al0 : List Sn) (hx : Zl w a0 n0 c0 al0) (a1 : Option Addr) (n1 c1 : Nat) (bl0 : List Sn) (hy : Zl w a1 n1 c1 bl0) (hT : TabF w) :
    Calls Tryd.prog 4 #[.slice a0 n0 c0, .slice a1 n1 c1] w fun e w' => e = .returned (.bool true) ∧ Below w.heap.size w w' := by
  have Hx := Lib.hid (And.intro hx (And.intro hy hT))
  have hmix : Tryd.prog.follows Departure.mixedOrders = true := by kernel_rfl
  clear hx hy hT
  go_enter Tryd.func4, Tryd.ntmps4
  go_wp2_with (fail)
  refine (igs_ok al0 a0 n0 c0 _ Hx.out.1).mono ?_
  rintro e w1 ⟨A1, k1, d1, al, rfl, hk1, hz1⟩
  have H1 := Lib.hid (And.intro hz1 (And.intro (Hx.out.2.1.below hz1.2.2.2.2) (Hx.out.2.2.below hz1.2.2.2.2)))
  clear hz1
  go_wp2_with (fail)
  refine (igs_ok bl0 a1 n1 c1 _ H1.out.2.1).mono ?_
  rintro e w2 ⟨A2, k2, d2, bl, rfl, hk2, hz2⟩
  have hbw := H1.out.1.2.2.2.2.trans (hz2.2.2.2.2.mono H1.out.1.2.2.2.2.size)
  have H2 : Hid (Pt1 w w2 A1 A2 k1 k2 d1 d2 al bl) := ⟨H1.out.1.below hz2.2.2.2.2, ⟨hz2.1, hz2.2.1, hz2.2.2.1, hz2.2.2.2.1, hbw⟩, H1.out.2.2.below hz2.2.2.2.2⟩
  clear hz2 hbw H1
  go_wp2_with (fail)
  refine (Five3 al A1 k1 d1 w w2 hk1 H2.out.1 H2.out.2.2).mono ?_
  rintro z w3 ⟨a3, b3, c3, d3, e3, rfl, hz, hb⟩
  have hbA : Below w3.heap.size w3 (w3.alloc (.cells (snL a3 b3 c3 d3 e3).toArray 34)) := (Below.refl _ _).alloc (Nat.le_refl _) _
  have H3 := Lib.hid (And.intro (H2.out.below (hb.trans (hbA.mono hb.size))) (fvk_put hz fun s hs => big8 (v3_lt H2.out.1.2.2.2.1 s hs) (by omega)))
  clear hz hb hbA H2
  go_wp2_with (fail)
  obtain ⟨W3, hW3⟩ : ∃ W3, w3.alloc (.cells (snL a3 b3 c3 d3 e3).toArray 34) = W3 := ⟨_, rfl⟩
  obtain ⟨bp, hbp⟩ : ∃ bp, w3.heap.size = bp := ⟨_, rfl⟩
  rw [hW3, hbp] at H3 ⊢
  clear hW3 hbp
  go_wp2_with (fail)
  refine (Five3 bl A2 k2 d2 w W3 hk2 H3.out.1.2.1 H3.out.1.2.2).mono ?_
  rintro z w4 ⟨a4, b4, c4, d4, e4, rfl, hz, hb⟩
  have hbA : Below w4.heap.size w4 (w4.alloc (.cells (snL a4 b4 c4 d4 e4).toArray 34)) := (Below.refl _ _).alloc (Nat.le_refl _) _
  have hbb := hb.trans (hbA.mono hb.size)
  have H4 := Lib.hid (And.intro (H3.out.1.below hbb) (And.intro (H3.out.2.below hbb) (fvk_put hz fun s hs => big8 (v3_lt H3.out.1.2.1.2.2.2.1 s hs) (by omega))))
  clear hz hb hbA hbb H3
  have HR := Lib.hid (FvK.bk H4.out.2.1)
  go_wp2_with (first | (refine wpList_load_mid rfl 34 _ rfl bp 0 rfl (snL a3 b3 c3 d3 e3) _ HR.out Tryd.underlying34 rfl (by kernel_rfl) ?_))
  clear HR
  obtain ⟨W4, hW4⟩ : ∃ W4, w4.alloc (.cells (snL a4 b4 c4 d4 e4).toArray 34) = W4 := ⟨_, rfl⟩
  obtain ⟨bq, hbq⟩ : ∃ bq, w4.heap.size = bq := ⟨_, rfl⟩
  rw [hW4, hbq] at H4 ⊢
  clear hW4 hbq
  refine (Back5 a3 b3 c3 d3 e3 _ _ _ _ _ W4 (fun s hs => ⟨(H4.out.2.1.2.1 s hs).1, (H4.out.2.1.2.1 s hs).2.2.1⟩) H4.out.2.1.2.2 H4.out.1.2.2 (cf5_big H4.out.1.1.2.2.2.1)).mono ?_
  rintro z w5 ⟨a5, b5, c5, d5, e5, rfl, hz, hb⟩
  have hbA : Below w5.heap.size w5 (w5.alloc (.cells (snL a5 b5 c5 d5 e5).toArray 34)) := (Below.refl _ _).alloc (Nat.le_refl _) _
  have hbb := hb.trans (hbA.mono hb.size)
  have H5 := Lib.hid (And.intro (H4.out.1.below hbb) (And.intro (H4.out.2.1.below hbb) (And.intro (H4.out.2.2.below hbb) (fvk_put hz (cf5_big H4.out.1.1.2.2.2.1)))))
  clear hz hb hbA hbb H4
  go_wp2_with (fail)
  obtain ⟨W5, hW5⟩ : ∃ W5, w5.alloc (.cells (snL a5 b5 c5 d5 e5).toArray 34) = W5 := ⟨_, rfl⟩
  obtain ⟨bb, hbb⟩ : ∃ bb, w5.heap.size = bb := ⟨_, rfl⟩
  rw [hW5, hbb] at H5 ⊢
  have hs5 : W5.heap.size = bb + 1 := by rw [← hW5, ← hbb]; simp
  clear hW5 hbb
  have HP : Hid (Pt2 w W5 A1 A2 k1 k2 d1 d2 al bl bp bq bb [a3, b3, c3, d3, e3] [a4, b4, c4, d4, e4] [a5, b5, c5, d5, e5]) := H5.out
  clear H5
  generalize [a3, b3, c3, d3, e3] = lp at HP
  generalize [a4, b4, c4, d4, e4] = lq at HP
  generalize [a5, b5, c5, d5, e5] = lb at HP
  have hne1 : bp ≠ bb + 1 + 1 := by obtain ⟨x, y, -⟩ := HP.out.2.1.at (i := 0) (by omega); have := World.block_lt_of_cell? _ _ y; simp at this; omega
  have hne2 : bq ≠ bb + 1 + 1 := by obtain ⟨x, y, -⟩ := HP.out.2.2.1.at (i := 0) (by omega); have := World.block_lt_of_cell? _ _ y; simp at this; omega
  obtain ⟨X, hX⟩ : ∃ X, ((W5.alloc (.cells zero10.toArray 34)).alloc (.cells zero10.toArray 34)) = X := ⟨_, rfl⟩
  have HA0 : Hid (Ar2 (bb + 1) W5 X X [0, 0, 0, 0, 0] (mulS (v3 al) (v3 bl) 0)) := by
    have hs : X.heap.size = W5.heap.size + 2 := by rw [← hX]; simp
    have g0 := (Bk.new W5 zero10 34).below ((Below.refl _ _).alloc (Nat.le_refl _) (.cells zero10.toArray 34)) (by simp)
    have g1 := Bk.new (W5.alloc (.cells zero10.toArray 34)) zero10 34
    rw [hX] at g0 g1
    rw [World.size_alloc] at g1
    rw [hs5] at g0 g1
    exact ⟨⟨_, Arr.start X X _ g0 (by omega) (Nat.le_refl _)⟩, ⟨_, Arr.start X X _ g1 (by omega) (Nat.le_refl _)⟩, by rw [← hX]; exact ((Below.refl _ _).alloc (Nat.le_refl _) _).alloc (by simp) _, by omega, hs5⟩
  go_wp2_with (fail)
  rw [show ((W5.alloc (.cells #[.bool false, .slice none 0 0, .bool false, .slice none 0 0, .bool false, .slice none 0 0, .bool false, .slice none 0 0, .bool false, .slice none 0 0] 34)).alloc (.cells #[.bool false, .slice none 0 0, .bool false, .slice none 0 0, .bool false, .slice none 0 0, .bool false, .slice none 0 0, .bool false, .slice none 0 0] 34)) = X from hX]
  clear hX
  go_loopw [15, 16] (fun iv _ wr => ∃ i : Nat, i ≤ 5 ∧ iv = .int .i64 i ∧ Hid (Ar2 (bb + 1) W5 X wr [0, 0, 0, 0, 0] (mulS (v3 al) (v3 bl) i))) (fun iv _ _ => 5 - (intOf iv).toNat)
  case atStart => exact ⟨0, by omega, rfl, HA0⟩
  case round =>
    clear HA0
    obtain ⟨i, hi5, rfl, HI⟩ := hrel
    by_cases hlt : i < 5
    · have hii : (i : Int) < 5 := by omega
      go_wp2_with (fail)
      refine (RFrom_ok 0 _ (by decide) (by decide)).mono ?_
      rintro e w6 hR
      obtain ⟨⟨s6, A6, n6, c6, x6⟩, rfl, hv, hzn, hb⟩ := hR.sn
      have h6 := sn_one hzn hv (by decide)
      have H6 := Lib.hid (HI.out.below hb)
      have HQ := Lib.hid (HP.out.below H6.out.2.2.1)
      simp only at h6
      rcases Nat.lt_or_ge i k1 with h3 | h3
      obtain ⟨b, o, ⟨ws, wA, wn, wc, wx⟩, hA1, c0, c1, hsl, hn6, hva⟩ := HQ.out.1.1.at h3
      simp only at c0 c1 hsl hn6
      subst hA1
      have hal : Below w6.heap.size w6 (w6.alloc (.cells #[.bool s6, .slice A6 n6 c6] 27)) := (Below.refl _ _).alloc (Nat.le_refl _) _
      have c0' := (hal.cell (World.block_lt_of_cell? _ _ c0)).trans c0
      have c1' := (hal.cell (World.block_lt_of_cell? _ _ c1)).trans c1
      have HW := Lib.hid (WtK.new (W := w6) (a := ⟨ws, wA, wn, wc, wx⟩) (z := cf al i) hsl (by show wn ≤ 4096; omega) hva)
      have hik : (i : Int) < (k1 : Int) := by omega
      clear c0 c1 hsl hn6 hva hR hv hzn h6
      go_wp2_with (fail)
      clear c0' c1'
      have HL := Lib.hid (And.intro (H6.out.below (belA w6 (.cells #[.bool ws, .slice wA wn wc] 27))) (HQ.out.below (belA w6 (.cells #[.bool ws, .slice wA wn wc] 27))))
      obtain ⟨W6, hW6⟩ : ∃ W6, w6.alloc (.cells #[.bool ws, .slice wA wn wc] 27) = W6 := ⟨_, rfl⟩
      obtain ⟨g6, hg6⟩ : ∃ g6, w6.heap.size = g6 := ⟨_, rfl⟩
      rw [hW6, hg6] at HW ⊢
      rw [hW6] at HL
      clear hW6 hg6 hal H6 HQ
      obtain ⟨a6, HW⟩ : ∃ a6, Hid (WtK W6 g6 a6 (cf al i)) := ⟨_, HW⟩
      rotate_left
      have HW := Lib.hid (WtK.new (W := w6) (a := ⟨s6, A6, n6, c6, x6⟩) (z := cf al i) h6.1 h6.2.1 (by rw [h6.2.2, cf_out (by rw [HQ.out.1.1.2.1]; exact h3)]))
      have hik : ¬ (i : Int) < (k1 : Int) := by omega
      clear hR hv hzn h6
      go_wp2_with (fail)
      have HL := Lib.hid (And.intro (H6.out.below (belA w6 (.cells #[.bool s6, .slice A6 n6 c6] 27))) (HQ.out.below (belA w6 (.cells #[.bool s6, .slice A6 n6 c6] 27))))
      obtain ⟨W6, hW6⟩ : ∃ W6, w6.alloc (.cells #[.bool s6, .slice A6 n6 c6] 27) = W6 := ⟨_, rfl⟩
      obtain ⟨g6, hg6⟩ : ∃ g6, w6.heap.size = g6 := ⟨_, rfl⟩
      rw [hW6, hg6] at HW ⊢
      rw [hW6] at HL
      clear hW6 hg6 H6 HQ
      obtain ⟨a6, HW⟩ : ∃ a6, Hid (WtK W6 g6 a6 (cf al i)) := ⟨_, HW⟩
      rotate_left
      all_goals
        clear hik
        obtain ⟨ws, wA, wn, wc, wx⟩ := a6
        obtain ⟨⟨bs, bA, bn, bc, bx⟩, b0, b1, hbs, hbc, hbn, hbz, hbv⟩ := HL.out.2.2.2.2.at hlt
        rw [cf_getD (by have := HL.out.2.1.1.2.1; omega) hlt] at hbv
        have HS := Lib.hid (show C4 W6.drew bb g6 (i * 2) (i * 2 + 1) 0 1 (.bool bs) (.slice bA bn bc) (.bool ws) (.slice wA wn wc) from ⟨b0, b1, HW.out.1, HW.out.2.1⟩)
        have HB := Lib.hid (And.intro hbs (And.intro hbc (And.intro hbn (And.intro hbz hbv))))
        clear b0 b1 hbs hbc hbn hbz hbv
        go_region_held3 (fun w' => w'.cell? ⟨bb, i * 2, none⟩ = some (.bool bs) ∧ w'.cell? ⟨bb, i * 2 + 1, none⟩ = some (.slice bA bn bc) ∧ w'.cell? ⟨g6, 0, none⟩ = some (.bool ws) ∧ w'.cell? ⟨g6, 1, none⟩ = some (.slice wA wn wc)) (first | exact HS.out | exact S1.out | go_keep)
          (first | (go_at_call 7; refine (RIsZ_ok bs ws bA wA bn wn bc wc bx wx W6.drew HB.out.2.2.1 HW.out.2.2.2.1 (show Sl W6 bA bn bc bx from HB.out.1) (show Sl W6 wA wn wc wx from HW.out.2.2.1) HB.out.2.1 HB.out.2.2.2.1 (HB.out.2.2.2.2.trans HW.out.2.2.2.2.symm)).mono ?_; rintro e w7 ⟨rfl, hb7⟩; have HB7 := Lib.hid (show Below W6.heap.size W6 w7 from belowA hb7); have S1 := Lib.hid (show C4 w7 bb g6 (i * 2) (i * 2 + 1) 0 1 (.bool bs) (.slice bA bn bc) (.bool ws) (.slice wA wn wc) from (show C4 W6 bb g6 (i * 2) (i * 2 + 1) 0 1 (.bool bs) (.slice bA bn bc) (.bool ws) (.slice wA wn wc) from HS.out).below HB7.out); clear hb7))
        all_goals
          have HL7 := Lib.hid (And.intro (HL.out.1.below HB7.out) (HL.out.2.below HB7.out))
          clear HL HW HB HS HB7 S1
          obtain ⟨⟨ps, pA, pn, pc, px⟩, b0, b1, hps, hpc, hpn, hpz, hpv⟩ := HL7.out.2.2.1.at hlt
          obtain ⟨⟨qs, qA, qn, qc, qx⟩, b2, b3, hqs, hqc, hqn, hqz, hqv⟩ := HL7.out.2.2.2.1.at hlt
          have HS := Lib.hid (show C4 w7.drew bp bq (i * 2) (i * 2 + 1) (i * 2) (i * 2 + 1) (.bool ps) (.slice pA pn pc) (.bool qs) (.slice qA qn qc) from ⟨b0, b1, b2, b3⟩)
          have HB := Lib.hid (And.intro hps (And.intro hqs (And.intro hpn (And.intro hqn (mulV hpv hqv (getD_lt (v3_lt HL7.out.2.1.1.2.2.2.1) i) (getD_lt (v3_lt HL7.out.2.1.2.1.2.2.2.1) i) (by omega))))))
          have HV := Lib.hid (show sgn ps (V px) * sgn qs (V qx) = (v3 al).getD i 0 * (v3 bl).getD i 0 by rw [← hpv, ← hqv]; rfl)
          clear b0 b1 b2 b3 hps hpc hpn hpz hpv hqs hqc hqn hqz hqv
          go_wp2_with (fail)
          go_region_held3 (fun w' => w'.cell? ⟨bp, i * 2, none⟩ = some (.bool ps) ∧ w'.cell? ⟨bp, i * 2 + 1, none⟩ = some (.slice pA pn pc) ∧ w'.cell? ⟨bq, i * 2, none⟩ = some (.bool qs) ∧ w'.cell? ⟨bq, i * 2 + 1, none⟩ = some (.slice qA qn qc)) (first | exact HS.out | exact S1.out | exact put4 S1.out hne1 hne2 | go_keep)
            (first | (go_at_call 15; refine (RMulZ_ok ps qs pA qA pn qn pc qc px qx w7.drew HB.out.2.2.1 HB.out.2.2.2.1 (show Sl w7 pA pn pc px from HB.out.1) (show Sl w7 qA qn qc qx from HB.out.2.1) HB.out.2.2.2.2).mono ?_; rintro e w8 hR; rw [HV.out] at hR; obtain ⟨A8, n8, c8, hEq, hz⟩ := (zr_undrew hR).val; subst hEq; have S1 := Lib.hid (show C4 w8 bp bq (i * 2) (i * 2 + 1) (i * 2) (i * 2 + 1) (.bool ps) (.slice pA pn pc) (.bool qs) (.slice qA qn qc) from (show C4 w7 bp bq (i * 2) (i * 2 + 1) (i * 2) (i * 2 + 1) (.bool ps) (.slice pA pn pc) (.bool qs) (.slice qA qn qc) from HS.out).below hz.bel); obtain ⟨hset, ⟨x0, p0⟩, ⟨x1, p1⟩, f0, f1⟩ := HL7.out.1.set2 hlt hz; rw [← mulS_succ _ _ i hlt] at hset; have HN := Lib.hid hset; obtain ⟨d, hd⟩ : ∃ d, decide ((v3 al).getD i 0 * (v3 bl).getD i 0 < 0) = d := ⟨_, rfl⟩; rw [hd] at HN ⊢; clear hR hz hset hd))
          all_goals
            clear S1 HS HB HV HL7 p0 p1 f0 f1
            go_wp2_with (fail)
            refine ⟨⟨i + 1, by omega, by go_num, HN⟩, ?_⟩
            simp [intOf]; omega
    · obtain rfl : i = 5 := by omega
      have hii : ¬ ((5 : Nat) : Int) < 5 := by omega
      go_wp2_with (fail)
      refine (RFrom_ok 0 _ (by decide) (by decide)).mono ?_
      rintro e w6 hR
      obtain ⟨A6, n6, c6, rfl, hz⟩ := hR.val
      obtain ⟨hset, ⟨x0, p0⟩, ⟨x1, p1⟩, f0, f1⟩ := HI.out.set2 (i := 4) (by omega) hz
      simp only [show 4 * 2 = 8 from rfl] at p0 p1 f0 f1 hset
      have hd : decide ((0 : Int) < 0) = false := rfl
      rw [hd] at hset ⊢
      have HN := Lib.hid hset
      clear hR hz hset HI hd
      rcases (show (k1 = 3 ∧ k2 = 3) ∨ (k1 = 3 ∧ k2 ≠ 3) ∨ k1 ≠ 3 by omega) with ⟨h1, h2⟩ | ⟨h1, h2⟩ | h1
      focus
        have hq1 : ((k1 : Int) == 3) = true := by rw [h1]; rfl
        have hq2 : ((k2 : Int) == 3) = true := by rw [h2]; rfl
        have hl1 : (2 : Int) < (k1 : Int) := by omega
        have hl2 : (2 : Int) < (k2 : Int) := by omega
        have h31 : 2 < k1 := by omega
        have h32 : 2 < k2 := by omega
        clear h1 h2
        go_wp2_with (fail)
        obtain ⟨W6, hW6⟩ : ∃ W6, (w6.setCell ⟨bb + 1 + 1, 8, none⟩ (.bool false)).setCell ⟨bb + 1 + 1, 9, none⟩ (.slice A6 n6 c6) = W6 := ⟨_, rfl⟩
        rw [hW6] at HN ⊢
        clear hW6 p0 p1 f0 f1
        have HP6 := Lib.hid (HP.out.below HN.out.2.2.1)
        obtain ⟨ba, oa, ⟨ps, pA, pn, pc, px⟩, rfl, b0, b1, hps, hpn, hpv⟩ := HP6.out.1.1.at h31
        obtain ⟨b2, ob, ⟨qs, qA, qn, qc, qx⟩, rfl, b3, b4, hqs, hqn, hqv⟩ := HP6.out.1.2.1.at h32
        have HS := Lib.hid (show C4 W6.drew ba b2 (oa + 4) (oa + 5) (ob + 4) (ob + 5) (.bool ps) (.slice pA pn pc) (.bool qs) (.slice qA qn qc) from ⟨b0, b1, b3, b4⟩)
        have HB := Lib.hid (And.intro hps (And.intro hqs (And.intro (show pn ≤ 4096 by simp only at hpn; omega) (And.intro (show qn ≤ 4096 by simp only at hqn; omega) (mulV hpv hqv (cfv_lt HP6.out.1.1.2.2.2.1 2) (cfv_lt HP6.out.1.2.1.2.2.2.1 2) (by omega))))))
        have HV := Lib.hid (show sgn ps (V px) * sgn qs (V qx) = cf al 2 * cf bl 2 by rw [← hpv, ← hqv]; rfl)
        have hne3 : ba ≠ bb + 1 + 1 := by have := HP.out.1.1.lt h31; omega
        have hne4 : b2 ≠ bb + 1 + 1 := by have := HP.out.1.2.1.lt h32; omega
        clear b0 b1 b3 b4 hps hpn hpv hqs hqn hqv h31 h32
        go_region_held3 (fun w' => w'.cell? ⟨ba, oa + 4, none⟩ = some (.bool ps) ∧ w'.cell? ⟨ba, oa + 5, none⟩ = some (.slice pA pn pc) ∧ w'.cell? ⟨b2, ob + 4, none⟩ = some (.bool qs) ∧ w'.cell? ⟨b2, ob + 5, none⟩ = some (.slice qA qn qc)) (first | exact HS.out | exact S1.out | exact put4 S1.out hne3 hne4 | go_keep)
          (first | (go_at_call 15; refine (RMulZ_ok ps qs pA qA pn qn pc qc px qx W6.drew HB.out.2.2.1 HB.out.2.2.2.1 (show Sl W6 pA pn pc px from HB.out.1) (show Sl W6 qA qn qc qx from HB.out.2.1) HB.out.2.2.2.2).mono ?_; rintro e w8 hR; rw [HV.out] at hR; obtain ⟨A8, n8, c8, hEq, hz⟩ := (zr_undrew hR).val; subst hEq; have S1 := Lib.hid (show C4 w8 ba b2 (oa + 4) (oa + 5) (ob + 4) (ob + 5) (.bool ps) (.slice pA pn pc) (.bool qs) (.slice qA qn qc) from (show C4 W6 ba b2 (oa + 4) (oa + 5) (ob + 4) (ob + 5) (.bool ps) (.slice pA pn pc) (.bool qs) (.slice qA qn qc) from HS.out).below hz.bel); obtain ⟨hset, ⟨x0, p0⟩, ⟨x1, p1⟩, f0, f1⟩ := HN.out.set2 (i := 4) (by omega) hz; simp only [show 4 * 2 = 8 from rfl] at p0 p1 f0 f1 hset; have HN2 := Lib.hid hset; obtain ⟨d, hd⟩ : ∃ d, decide (cf al 2 * cf bl 2 < 0) = d := ⟨_, rfl⟩; rw [hd] at HN2 ⊢; clear hR hz hset hd))
      focus
        have HF := Lib.hid (show Ar2 (bb + 1) W5 X ((w8.setCell ⟨bb + 1 + 1, 8, none⟩ (.bool d)).setCell ⟨bb + 1 + 1, 9, none⟩ (.slice A8 n8 c8)) [0, 0, 0, 0, 0] (finS al bl) from HN2.out)
        clear HN HN2 S1 HS HB HV HP6 p0 p1 f0 f1 hq1 hq2 hl1 hl2
        go_wp2_with (fail)
        obtain ⟨W10, hW10⟩ : ∃ W10, ((w8.setCell ⟨bb + 1 + 1, 8, none⟩ (.bool d)).setCell ⟨bb + 1 + 1, 9, none⟩ (.slice A8 n8 c8)) = W10 := ⟨_, rfl⟩
        rw [hW10] at HF ⊢
        clear hW10
      rotate_left
      focus
        have hq1 : ((k1 : Int) == 3) = true := by rw [h1]; rfl
        have hq2 : ((k2 : Int) == 3) = false := by simp; omega
        have hz0 := cf_mul0 (Or.inr (show bl.length ≤ 2 by rw [HP.out.1.2.1.2.1]; omega)) (al := al)
        have HF := Lib.hid (show Ar2 (bb + 1) W5 X ((w6.setCell ⟨bb + 1 + 1, 8, none⟩ (.bool false)).setCell ⟨bb + 1 + 1, 9, none⟩ (.slice A6 n6 c6)) [0, 0, 0, 0, 0] (finS al bl) from by rw [← finS_zero hz0]; exact HN.out)
        clear h1 h2 HN hz0
        go_wp2_with (fail)
        clear hq1 hq2 p0 p1 f0 f1
        obtain ⟨W10, hW10⟩ : ∃ W10, ((w6.setCell ⟨bb + 1 + 1, 8, none⟩ (.bool false)).setCell ⟨bb + 1 + 1, 9, none⟩ (.slice A6 n6 c6)) = W10 := ⟨_, rfl⟩
        rw [hW10] at HF ⊢
        clear hW10
      rotate_left
      focus
        have hq1 : ((k1 : Int) == 3) = false := by simp; omega
        have hz0 := cf_mul0 (Or.inl (show al.length ≤ 2 by rw [HP.out.1.1.2.1]; omega)) (bl := bl)
        have HF := Lib.hid (show Ar2 (bb + 1) W5 X ((w6.setCell ⟨bb + 1 + 1, 8, none⟩ (.bool false)).setCell ⟨bb + 1 + 1, 9, none⟩ (.slice A6 n6 c6)) [0, 0, 0, 0, 0] (finS al bl) from by rw [← finS_zero hz0]; exact HN.out)
        clear h1 HN hz0
        go_wp2_with (fail)
        clear hq1 p0 p1 f0 f1
        obtain ⟨W10, hW10⟩ : ∃ W10, ((w6.setCell ⟨bb + 1 + 1, 8, none⟩ (.bool false)).setCell ⟨bb + 1 + 1, 9, none⟩ (.slice A6 n6 c6)) = W10 := ⟨_, rfl⟩
        rw [hW10] at HF ⊢
        clear hW10
      rotate_left
      all_goals
        go_loopw [17, 18] (fun iv _ wr => ∃ i : Nat, i ≤ k1 ∧ iv = .int .i64 i ∧ Hid (Ar2 (bb + 1) W5 X wr (pall al bl i) (finS al bl))) (fun iv _ _ => k1 - (intOf iv).toNat)
        case atStart => exact ⟨0, Nat.zero_le _, rfl, HF⟩
        case round =>
          clear HF
          obtain ⟨i, hi, rfl, HI⟩ := hrel
          by_cases hlt1 : i < k1
          · have hii : (i : Int) < (k1 : Int) := by omega
            go_wp2_with (fail)
            go_loopw [18] (fun kv wr => ∃ k : Nat, k ≤ k2 ∧ kv = .int .i64 k ∧ Hid (Ar2 (bb + 1) W5 X wr (prow al bl i (pall al bl i) k) (finS al bl))) (fun kv _ => k2 - (intOf kv).toNat)
            case atStart => exact ⟨0, Nat.zero_le _, rfl, HI⟩
            case round =>
              clear HI
              obtain ⟨k, hk, rfl, HK⟩ := hrel
              by_cases hlt2 : k < k2
              · have hki : (k : Int) < (k2 : Int) := by omega
                have HP6 := Lib.hid (HP.out.below HK.out.2.2.1)
                obtain ⟨ba, oa, ⟨as_, aA, an, ac, ax⟩, hA1, b0, b1, has_, han, hav⟩ := HP6.out.1.1.at hlt1
                first | subst hA1 | (injection hA1 with hA1; injection hA1 with e1 e2; subst e1 e2)
                obtain ⟨b2, ob, ⟨bs, bA, bn, bc, bx⟩, hA2, b3, b4, hbs, hbn, hbv⟩ := HP6.out.1.2.1.at hlt2
                first | subst hA2 | (injection hA2 with hA2; injection hA2 with e1 e2; subst e1 e2)
                obtain ⟨j, hj⟩ : ∃ j, i + k = j := ⟨_, rfl⟩
                have hj5 : j < 5 := by omega
                have hji : (i : Int) + (k : Int) = (j : Int) := by omega
                have hjw : IntKind.i64.wrap (j : Int) = (j : Int) := IntWalk.i64_in _ (by omega)
                have hj5i : (j : Int) < 5 := by omega
                obtain ⟨⟨ps, pA, pn, pc, px⟩, b5, b6, hps, hpn, hpv⟩ := HK.out.at1 hj5 (prow_big HP6.out.1.1.2.2.2.1 HP6.out.1.2.1.2.2.2.1 (by have := HP6.out.1.2.1.2.1; omega) (by omega) (by omega))
                have HC := Lib.hid (show C6 wr.drew ba oa b2 ob (bb + 1) i k j (.bool as_) (.slice aA an ac) (.bool bs) (.slice bA bn bc) (.bool ps) (.slice pA pn pc) from ⟨b0, b1, b3, b4, b5, b6⟩)
                have HB := Lib.hid (And.intro has_ (And.intro hbs (And.intro hps (And.intro (show an ≤ 4096 by simp only at han; omega) (And.intro (show bn ≤ 4096 by simp only at hbn; omega) (And.intro (show pn ≤ 4096 by simp only at hpn; omega) (mulV hav hbv (cfv_lt HP6.out.1.1.2.2.2.1 i) (cfv_lt HP6.out.1.2.1.2.2.2.1 k) (by omega))))))))
                have HV := Lib.hid (show sgn as_ (V ax) * sgn bs (V bx) = cf al i * cf bl k by rw [← hav, ← hbv]; rfl)
                have HVp := Lib.hid hpv
                clear b0 b1 b3 b4 b5 b6 has_ han hav hbs hbn hbv hps hpn hpv
                go_wp2_with (fail)
                refine wp_region_M 19 (fun w' => C6 w' ba oa b2 ob (bb + 1) i k j (.bool as_) (.slice aA an ac) (.bool bs) (.slice bA bn bc) (.bool ps) (.slice pA pn pc)) hmix ?_
                refine wpAnyM_take (i := 0) (v := ?_) rfl rfl (by kernel_rfl) (by kernel_rfl) (by kernel_rfl) (by kernel_rfl) (by kernel_rfl) (by kernel_rfl) (fun _ _ _ h => h) HC.out (Or.inl ⟨by rfl, ?_⟩) ?_
                rotate_left
                · rintro w ⟨q0, q1, q2, q3, q4, q5⟩; go_simp; try with_reducible rfl
                try simp only [Act.put, List.getElem_toArray, List.getElem_cons_zero, List.getElem_cons_succ, List.setIfInBounds_toArray, List.set_cons_zero, List.set_cons_succ]
                refine wpAnyM_take (i := 1) (v := ?_) rfl rfl (by kernel_rfl) (by kernel_rfl) (by kernel_rfl) (by kernel_rfl) (by kernel_rfl) (by kernel_rfl) (fun _ _ _ h => h) HC.out (Or.inl ⟨by rfl, ?_⟩) ?_
                rotate_left
                · rintro w ⟨q0, q1, q2, q3, q4, q5⟩; go_simp; try with_reducible rfl
                try simp only [Act.put, List.getElem_toArray, List.getElem_cons_zero, List.getElem_cons_succ, List.setIfInBounds_toArray, List.set_cons_zero, List.set_cons_succ]
                refine wpAnyM_take (i := 2) (v := ?_) rfl rfl (by kernel_rfl) (by kernel_rfl) (by kernel_rfl) (by kernel_rfl) (by kernel_rfl) (by kernel_rfl) (fun _ _ _ h => h) HC.out (Or.inl ⟨by rfl, ?_⟩) ?_
                rotate_left
                · rintro w ⟨q0, q1, q2, q3, q4, q5⟩; go_simp; try with_reducible rfl
                try simp only [Act.put, List.getElem_toArray, List.getElem_cons_zero, List.getElem_cons_succ, List.setIfInBounds_toArray, List.set_cons_zero, List.set_cons_succ]
                refine wpAnyM_take (i := 3) (v := ?_) rfl rfl (by kernel_rfl) (by kernel_rfl) (by kernel_rfl) (by kernel_rfl) (by kernel_rfl) (by kernel_rfl) (fun _ _ _ h => h) HC.out (Or.inl ⟨by rfl, ?_⟩) ?_
                rotate_left
                · rintro w ⟨q0, q1, q2, q3, q4, q5⟩; go_simp; try with_reducible rfl
                try simp only [Act.put, List.getElem_toArray, List.getElem_cons_zero, List.getElem_cons_succ, List.setIfInBounds_toArray, List.set_cons_zero, List.set_cons_succ]
                refine wpAnyM_take (i := 4) (v := ?_) rfl rfl (by kernel_rfl) (by kernel_rfl) (by kernel_rfl) (by kernel_rfl) (by kernel_rfl) (by kernel_rfl) (fun _ _ _ h => h) HC.out (Or.inl ⟨by rfl, ?_⟩) ?_
                rotate_left
                · rintro w ⟨q0, q1, q2, q3, q4, q5⟩; go_simp; try with_reducible rfl
                try simp only [Act.put, List.getElem_toArray, List.getElem_cons_zero, List.getElem_cons_succ, List.setIfInBounds_toArray, List.set_cons_zero, List.set_cons_succ]
                refine wpAnyM_take (i := 5) (v := ?_) rfl rfl (by kernel_rfl) (by kernel_rfl) (by kernel_rfl) (by kernel_rfl) (by kernel_rfl) (by kernel_rfl) (fun _ _ _ h => h) HC.out (Or.inl ⟨by rfl, ?_⟩) ?_
                rotate_left
                · rintro w ⟨q0, q1, q2, q3, q4, q5⟩; go_simp; try with_reducible rfl
                try simp only [Act.put, List.getElem_toArray, List.getElem_cons_zero, List.getElem_cons_succ, List.setIfInBounds_toArray, List.set_cons_zero, List.set_cons_succ]
                refine wpAnyM_take (i := 6) (v := ?_) rfl rfl (by kernel_rfl) (by kernel_rfl) (by kernel_rfl) (by kernel_rfl) (by kernel_rfl) (by kernel_rfl) (fun _ _ _ h => h) HC.out (Or.inl ⟨by rfl, ?_⟩) ?_
                rotate_left
                · rintro w ⟨q0, q1, q2, q3, q4, q5⟩; go_simp; try with_reducible rfl
                try simp only [Act.put, List.getElem_toArray, List.getElem_cons_zero, List.getElem_cons_succ, List.setIfInBounds_toArray, List.set_cons_zero, List.set_cons_succ]
                refine wpAnyM_take (i := 7) (v := ?_) rfl rfl (by kernel_rfl) (by kernel_rfl) (by kernel_rfl) (by kernel_rfl) (by kernel_rfl) (by kernel_rfl) (fun _ _ _ h => h) HC.out (Or.inl ⟨by rfl, ?_⟩) ?_
                rotate_left
                · rintro w ⟨q0, q1, q2, q3, q4, q5⟩; go_simp; try with_reducible rfl
                try simp only [Act.put, List.getElem_toArray, List.getElem_cons_zero, List.getElem_cons_succ, List.setIfInBounds_toArray, List.set_cons_zero, List.set_cons_succ]
                refine wpAnyM_take (i := 8) (v := ?_) rfl rfl (by kernel_rfl) (by kernel_rfl) (by kernel_rfl) (by kernel_rfl) (by kernel_rfl) (by kernel_rfl) (fun _ _ _ h => h) HC.out (Or.inl ⟨by rfl, ?_⟩) ?_
                rotate_left
                · rintro w ⟨q0, q1, q2, q3, q4, q5⟩; go_simp; try with_reducible rfl
                try simp only [Act.put, List.getElem_toArray, List.getElem_cons_zero, List.getElem_cons_succ, List.setIfInBounds_toArray, List.set_cons_zero, List.set_cons_succ]
                refine wpAnyM_take (i := 9) (v := ?_) rfl rfl (by kernel_rfl) (by kernel_rfl) (by kernel_rfl) (by kernel_rfl) (by kernel_rfl) (by kernel_rfl) (fun _ _ _ h => h) HC.out (Or.inl ⟨by rfl, ?_⟩) ?_
                rotate_left
                · rintro w ⟨q0, q1, q2, q3, q4, q5⟩; go_simp; try with_reducible rfl
                try simp only [Act.put, List.getElem_toArray, List.getElem_cons_zero, List.getElem_cons_succ, List.setIfInBounds_toArray, List.set_cons_zero, List.set_cons_succ]
                refine wpAnyM_take (i := 10) (v := ?_) rfl rfl (by kernel_rfl) (by kernel_rfl) (by kernel_rfl) (by kernel_rfl) (by kernel_rfl) (by kernel_rfl) (fun _ _ _ h => h) HC.out (Or.inl ⟨by rfl, ?_⟩) ?_
                rotate_left
                · rintro w ⟨q0, q1, q2, q3, q4, q5⟩; go_simp; try with_reducible rfl
                try simp only [Act.put, List.getElem_toArray, List.getElem_cons_zero, List.getElem_cons_succ, List.setIfInBounds_toArray, List.set_cons_zero, List.set_cons_succ]
                refine wpAnyM_take (i := 11) (v := ?_) rfl rfl (by kernel_rfl) (by kernel_rfl) (by kernel_rfl) (by kernel_rfl) (by kernel_rfl) (by kernel_rfl) (fun _ _ _ h => h) HC.out (Or.inl ⟨by rfl, ?_⟩) ?_
                rotate_left
                · rintro w ⟨q0, q1, q2, q3, q4, q5⟩; go_simp; try with_reducible rfl
                try simp only [Act.put, List.getElem_toArray, List.getElem_cons_zero, List.getElem_cons_succ, List.setIfInBounds_toArray, List.set_cons_zero, List.set_cons_succ]
                refine wpAnyM_take (i := 12) (v := ?_) rfl rfl (by kernel_rfl) (by kernel_rfl) (by kernel_rfl) (by kernel_rfl) (by kernel_rfl) (by kernel_rfl) (fun _ _ _ h => h) HC.out (Or.inl ⟨by rfl, ?_⟩) ?_
                rotate_left
                · rintro w ⟨q0, q1, q2, q3, q4, q5⟩; go_simp; try with_reducible rfl
                try simp only [Act.put, List.getElem_toArray, List.getElem_cons_zero, List.getElem_cons_succ, List.setIfInBounds_toArray, List.set_cons_zero, List.set_cons_succ]
                refine wpAnyM_take (i := 13) (v := ?_) rfl rfl (by kernel_rfl) (by kernel_rfl) (by kernel_rfl) (by kernel_rfl) (by kernel_rfl) (by kernel_rfl) (fun _ _ _ h => h) HC.out (Or.inl ⟨by rfl, ?_⟩) ?_
                rotate_left
                · rintro w ⟨q0, q1, q2, q3, q4, q5⟩; go_simp; try with_reducible rfl
                try simp only [Act.put, List.getElem_toArray, List.getElem_cons_zero, List.getElem_cons_succ, List.setIfInBounds_toArray, List.set_cons_zero, List.set_cons_succ]
                refine wpAnyM_take (i := 14) (v := ?_) rfl rfl (by kernel_rfl) (by kernel_rfl) (by kernel_rfl) (by kernel_rfl) (by kernel_rfl) (by kernel_rfl) (fun _ _ _ h => h) HC.out (Or.inl ⟨by rfl, ?_⟩) ?_
                rotate_left
                · rintro w ⟨q0, q1, q2, q3, q4, q5⟩; go_simp; try with_reducible rfl
                try simp only [Act.put, List.getElem_toArray, List.getElem_cons_zero, List.getElem_cons_succ, List.setIfInBounds_toArray, List.set_cons_zero, List.set_cons_succ]
                refine wpAnyM_take (i := 15) (v := ?_) rfl rfl (by kernel_rfl) (by kernel_rfl) (by kernel_rfl) (by kernel_rfl) (by kernel_rfl) (by kernel_rfl) (fun _ _ _ h => h) HC.out (Or.inl ⟨by rfl, ?_⟩) ?_
                rotate_left
                · rintro w ⟨q0, q1, q2, q3, q4, q5⟩; go_simp; try with_reducible rfl
                try simp only [Act.put, List.getElem_toArray, List.getElem_cons_zero, List.getElem_cons_succ, List.setIfInBounds_toArray, List.set_cons_zero, List.set_cons_succ]
                refine wpAnyM_one (i := 16) rfl (by kernel_rfl) (fun K hK => ?_)
                go_simp
                refine (RMulZ_ok as_ bs aA bA an bn ac bc ax bx wr.drew HB.out.2.2.2.1 HB.out.2.2.2.2.1 (show Sl wr aA an ac ax from HB.out.1) (show Sl wr bA bn bc bx from HB.out.2.1) HB.out.2.2.2.2.2.2).mono ?_
                rintro e w8 hR
                rw [HV.out] at hR
                obtain ⟨⟨s8, A8, n8, c8, x8⟩, rfl, hv8, hzn8, hb8⟩ := (zr_undrew hR).sn
                have HC2 := Lib.hid ((show C6 wr ba oa b2 ob (bb + 1) i k j (.bool as_) (.slice aA an ac) (.bool bs) (.slice bA bn bc) (.bool ps) (.slice pA pn pc) from HC.out).below hb8)
                have hs8 := hzn8.sl _ (List.mem_singleton_self _)
                have hc8 := (hzn8 _ (List.mem_singleton_self _)).2.1
                have hl8 : (cf al i * cf bl k).natAbs < B64 ^ 12 := mulI_lt (cfv_lt HP6.out.1.1.2.2.2.1 i) (cfv_lt HP6.out.1.2.1.2.2.2.1 k)
                have HD := Lib.hid (And.intro hs8 (And.intro (show n8 ≤ 12 from sn_len (r := ⟨s8, A8, n8, c8, x8⟩) (W := w8) ⟨hs8, hc8⟩ (by rw [hv8]; exact hl8)) (And.intro (HB.out.2.2.1.below hb8) (And.intro (addV (w := w8) HVp.out hv8 (getD_lt (prow_big HP6.out.1.1.2.2.2.1 HP6.out.1.2.1.2.2.2.1 (by have := HP6.out.1.2.1.2.1; omega) (by omega) (by omega)) j) (Nat.lt_of_lt_of_le hl8 (Nat.pow_le_pow_right B64_pos (by omega)))) (And.intro hv8 (HK.out.below hb8))))))
                clear hR hzn8 hs8 hc8 hl8 hv8 hb8
                refine hK.out _ _ (fun _ => HC2.out) ?_
                clear hK K HC
                try simp only [Act.put, List.getElem_toArray, List.getElem_cons_zero, List.getElem_cons_succ, List.setIfInBounds_toArray, List.set_cons_zero, List.set_cons_succ]
                refine wpAnyM_one (i := 17) rfl (by kernel_rfl) (fun K hK => ?_)
                go_simp
                refine (RAddZ_ok ps s8 pA A8 pn n8 pc c8 px x8 w8 HB.out.2.2.2.2.2.1 (by have := HD.out.2.1; omega) HD.out.2.2.1 HD.out.1 HD.out.2.2.2.1).mono ?_
                rintro e w9 hR
                have hR := zr_add (a := ⟨ps, pA, pn, pc, px⟩) (b := ⟨s8, A8, n8, c8, x8⟩) hR HVp.out HD.out.2.2.2.2.1
                obtain ⟨A9, n9, c9, rfl, hz⟩ := hR.val
                have HC3 := Lib.hid (HC2.out.below hz.bel)
                obtain ⟨hset, ⟨x0, p0⟩, ⟨x1, p1⟩, f0, f1⟩ := HD.out.2.2.2.2.2.set1 hj5 hz
                have hpe : (prow al bl i (pall al bl i) k).set j ((prow al bl i (pall al bl i) k).getD j 0 + cf al i * cf bl k) = prow al bl i (pall al bl i) (k + 1) := by rw [prow, put1, hj]
                rw [hpe] at hset
                have HN := Lib.hid hset
                obtain ⟨d, hd⟩ : ∃ d, decide ((prow al bl i (pall al bl i) k).getD j 0 + cf al i * cf bl k < 0) = d := ⟨_, rfl⟩
                rw [hd] at HN ⊢
                clear hR hz hset hd hpe
                refine hK.out _ _ (fun _ => HC3.out) ?_
                clear hK K HC2
                try simp only [Act.put, List.getElem_toArray, List.getElem_cons_zero, List.getElem_cons_succ, List.setIfInBounds_toArray, List.set_cons_zero, List.set_cons_succ]
                refine wpAnyM_take (i := 18) (v := ?_) rfl rfl (by kernel_rfl) (by kernel_rfl) (by kernel_rfl) (by kernel_rfl) (by kernel_rfl) (by kernel_rfl) (fun _ _ _ h => h) HC3.out (Or.inl ⟨by rfl, ?_⟩) ?_
                rotate_left
                · rintro w ⟨q0, q1, q2, q3, q4, q5⟩; go_simp; try with_reducible rfl
                try simp only [Act.put, List.getElem_toArray, List.getElem_cons_zero, List.getElem_cons_succ, List.setIfInBounds_toArray, List.set_cons_zero, List.set_cons_succ]
                refine wpAnyM_one (i := 19) rfl (by kernel_rfl) (fun K hK => ?_)
                go_simp
                refine hK.out _ _ (fun h => absurd h (by decide)) ?_
                clear hK K
                refine wpAnyM_done (by kernel_rfl) ?_ _
                clear HC3 HD HB HV HVp HP6 p0 p1 f0 f1 HK
                go_wp2_with (fail)
                refine ⟨⟨k + 1, by omega, by go_num, HN⟩, ?_⟩
                simp [intOf]; omega
              · obtain rfl : k = k2 := by omega
                have hki : ¬ (k : Int) < (k : Int) := by omega
                have HN : Hid (Ar2 (bb + 1) W5 X wr (pall al bl (i + 1)) (finS al bl)) := by
                  have h := HK.out
                  rw [← HP.out.1.2.1.2.1] at h
                  exact h
                clear HK
                go_wp2_with (fail)
                refine ⟨⟨i + 1, by omega, by go_num, HN⟩, ?_⟩
                simp [intOf]; omega
          · obtain rfl : i = k1 := by omega
            have hii : ¬ (i : Int) < (i : Int) := by omega
            have hpc : pall al bl i = pcv (cf al 0) (cf al 1) (cf al 2) (cf bl 0) (cf bl 1) (cf bl 2) := by
              rw [← HP.out.1.1.2.1]
              exact pall_cv (by rw [HP.out.1.1.2.1]; exact hk1) (by rw [HP.out.1.2.1.2.1]; exact hk2)
            have h1 := HI.out
            rw [hpc] at h1
            obtain ⟨⟨R1, hR1⟩, ⟨R2, hR2⟩, hB, hXs⟩ := h1
            obtain ⟨r0, r1, r2, r3, r4, rfl⟩ := list5 hR2.2.1
            have ha := HP.out.1.1.2.2.2.1
            have hb := HP.out.1.2.1.2.2.2.1
            have hPB := pcv_lt (cfv_lt ha 0) (cfv_lt ha 1) (cfv_lt ha 2) (cfv_lt hb 0) (cfv_lt hb 1) (cfv_lt hb 2)
            have HQ := Lib.hid (And.intro (arr_fvk hR1 (fun s hs => big8 (hPB s hs) (by omega))) (And.intro (arr_fvk hR2 (finS_lt ha hb)) (And.intro (HP.out.below hB) hPB)))
            have HR := Lib.hid (show wr.rangeAt (bb + 1 + 1) 0 (snL r0 r1 r2 r3 r4) from hR2.1.range)
            clear hR1 hR2 hB hXs ha hb hPB hpc HI
            go_wp2_with (first | (refine wpList_load_mid rfl 34 _ rfl (bb + 1 + 1) 0 rfl (snL r0 r1 r2 r3 r4) _ HR.out Tryd.underlying34 rfl (by kernel_rfl) ?_))
            refine (Back5 r0 r1 r2 r3 r4 _ _ _ _ _ wr (fun s hs => ⟨(HQ.out.2.1.2.1 s hs).1, (HQ.out.2.1.2.1 s hs).2.2.1⟩) (HQ.out.2.1.2.2.trans (finS_val al bl)) HQ.out.2.2.1.1.2.2 (fun x hx => big8 (HQ.out.2.2.2 x hx) (by omega))).mono ?_
            rintro z w8 ⟨a8, b8, c8, d8, e8, rfl, hz, hb8⟩
            have hbb := hb8.trans ((belA w8 (.cells (snL a8 b8 c8 d8 e8).toArray 34)).mono hb8.size)
            have H8 := Lib.hid (And.intro (fvk_put hz (fun x hx => big8 (HQ.out.2.2.2 x hx) (by omega))) (And.intro (HQ.out.1.below hbb) (HQ.out.2.2.1.below hbb)))
            clear hz hb8 hbb HQ HR
            go_wp2_with (fail)
            obtain ⟨W8, hW8⟩ : ∃ W8, w8.alloc (.cells (snL a8 b8 c8 d8 e8).toArray 34) = W8 := ⟨_, rfl⟩
            obtain ⟨g8, hg8⟩ : ∃ g8, w8.heap.size = g8 := ⟨_, rfl⟩
            rw [hW8, hg8] at H8 ⊢
            clear hW8 hg8
            go_region_held3 (fun _ => True) (first | trivial | go_keep)
              (first
                | (go_at_call 10; refine (same_ok [a8, b8, c8, d8, e8] R1 (some ⟨g8, 0, none⟩) (some ⟨bb + 1, 0, none⟩) 5 5 5 W8.drew (by omega) H8.out.1.1 H8.out.2.1.1 ⟨H8.out.1.2.1, fun a ha => ⟨(H8.out.2.1.2.1 a ha).1, (H8.out.2.1.2.1 a ha).2.2.1⟩, H8.out.1.2.2.trans H8.out.2.1.2.2.symm⟩).mono ?_; rintro e w9 ⟨rfl, hb9⟩; have HB9 := Lib.hid (H8.out.2.2.below (show Below W8.heap.size W8 w9 from belowA hb9)); clear hb9)
                | (go_at_call 12; refine (fawake_any w9 HB9.out.1.2.2).mono ?_; rintro e w10 ⟨rfl, hb10⟩; have HE := Lib.hid (HB9.out.1.1.below hb10); clear hb10))
            all_goals
              clear HB9 H8
              go_wp2_with (fail)
              go_ret
              exact ⟨rfl, HE.out.2.2.2.2⟩
end Go.Proofs.YtalcikmngglplabDoor.fastPoints
