/- The contract of fast.five; arrays of five signed numbers. -/
import Derived.Test.YtalcikmngglplaaDoorZFWt
import Derived.Deep.MidRow
namespace Go.Proofs.YtalcikmngglplaaDoor
open Go.RowKit Go.Shelf
set_option linter.unusedVariables false
set_option linter.unusedSimpArgs false
set_option maxRecDepth 10000

def Sn.zero : Sn := ⟨false, none, 0, 0, []⟩
def sncs (a : Sn) : List Value := [.bool a.s, .slice a.A a.n a.c]
/-- block b holds five signed numbers R, made since w0, with the values S -/
def Arr (w0 W : World) (b : Nat) (R : List Sn) (S : List Int) : Prop :=
  Bk W b (R.flatMap sncs) ∧ R.length = 5 ∧ S.length = 5 ∧ b < w0.heap.size ∧ w0.heap.size ≤ W.heap.size ∧ ∀ (i : Nat) (r : Sn) (s : Int), R[i]? = some r → S[i]? = some s → Sg w0 W r.s r.A r.n r.c r.xs s
theorem Arr.below {w0 W W' : World} {b : Nat} {R : List Sn} {S : List Int} (h : Arr w0 W b R S) (hb : Below W.heap.size W W') : Arr w0 W' b R S :=
  ⟨h.1.below hb (Nat.lt_of_lt_of_le h.2.2.2.1 h.2.2.2.2.1), h.2.1, h.2.2.1, h.2.2.2.1, Nat.le_trans h.2.2.2.2.1 hb.size, fun i r s h1 h2 => (h.2.2.2.2.2 i r s h1 h2).later (Nat.le_refl _) hb⟩
theorem Sg.zero (w W : World) : Sg w W false none 0 0 [] 0 := ⟨⟨rfl, Ws_nil, World.ownsRow_nil _ _ _ _⟩, Cn_nil, by simp [sgn, V], fun h => by cases h⟩
theorem flat_set : ∀ (R : List Sn) (k : Nat) (r : Sn), k < R.length → (R.set k r).flatMap sncs = ((R.flatMap sncs).set (2 * k) (.bool r.s)).set (2 * k + 1) (.slice r.A r.n r.c)
  | [], k, r, h => by simp at h
  | a :: R, 0, r, h => by simp [sncs]
  | a :: R, k + 1, r, h => by
    rw [List.set_cons_succ, List.flatMap_cons, flat_set R k r (by simpa using h), List.flatMap_cons]
    simp only [sncs, List.cons_append, List.nil_append, show 2 * (k + 1) = 2 * k + 1 + 1 by omega, show 2 * k + 1 + 1 + 1 = (2 * k + 1) + 1 + 1 by omega, List.set_cons_succ]
theorem Bk.set1 {W : World} {b : Nat} {vs : List Value} (h : Bk W b vs) (k : Nat) (u : Value) : Bk (W.setCell ⟨b, k, none⟩ u) b (vs.set k u) := fun j v hj => by
  rw [World.frozen?_setCell]
  by_cases hk : j = k
  · subst hk
    rw [List.getElem?_set_self'] at hj
    obtain ⟨x, hx, rfl⟩ := Option.map_eq_some_iff.1 hj
    exact ⟨World.cell?_setCell_same' _ _ _ (by rw [(h j x hx).1]; rfl), (h j x hx).2⟩
  · rw [List.getElem?_set_ne (by omega)] at hj
    exact ⟨by rw [World.cell?_setCell_other _ _ _ _ (by intro e; injection e with e1 e2; exact hk e2.symm)]; exact (h j v hj).1, (h j v hj).2⟩
/-- one of them is stored -/
theorem Arr.set {w0 W : World} {b : Nat} {R : List Sn} {S : List Int} (h : Arr w0 W b R S) (k : Nat) (r : Sn) (s : Int) (hk : k < 5) (hr : Sg w0 W r.s r.A r.n r.c r.xs s) :
    Arr w0 ((W.setCell ⟨b, 2 * k, none⟩ (.bool r.s)).setCell ⟨b, 2 * k + 1, none⟩ (.slice r.A r.n r.c)) b (R.set k r) (S.set k s) := by
  obtain ⟨h1, h2, h3, h4, h5, h6⟩ := h
  have keep : ∀ (r : Sn) (s : Int), Sg w0 W r.s r.A r.n r.c r.xs s → Sg w0 ((W.setCell ⟨b, 2 * k, none⟩ (.bool r.s)).setCell ⟨b, 2 * k + 1, none⟩ (.slice r.A r.n r.c)) r.s r.A r.n r.c r.xs s := fun r s h =>
    ⟨⟨h.1.1, h.1.2.1, own_kept (own_kept h.1.2.2 (grown_set W b _ _) h4) (grown_set _ b _ _) h4⟩, h.2⟩
  have keep2 : ∀ (u v : Value) (r : Sn) (s : Int), Sg w0 W r.s r.A r.n r.c r.xs s → Sg w0 ((W.setCell ⟨b, 2 * k, none⟩ u).setCell ⟨b, 2 * k + 1, none⟩ v) r.s r.A r.n r.c r.xs s := fun u v r s h =>
    ⟨⟨h.1.1, h.1.2.1, own_kept (own_kept h.1.2.2 (grown_set W b _ u) h4) (grown_set _ b _ v) h4⟩, h.2⟩
  refine ⟨by rw [flat_set R k r (by omega)]; exact (h1.set1 _ _).set1 _ _, by rw [List.length_set]; exact h2, by rw [List.length_set]; exact h3, h4, by simp [World.setCell]; exact h5, fun i r' s' hi hs => ?_⟩
  by_cases hik : i = k
  · subst hik
    rw [List.getElem?_set_self (by omega)] at hi hs
    injection hi with hi
    injection hs with hs
    subst hi hs
    exact keep2 _ _ r s hr
  · rw [List.getElem?_set_ne (by omega)] at hi hs
    exact keep2 _ _ r' s' (h6 i r' s' hi hs)
theorem Arr.start (w0 W : World) (b : Nat) (h : Bk W b [.bool false, .slice none 0 0, .bool false, .slice none 0 0, .bool false, .slice none 0 0, .bool false, .slice none 0 0, .bool false, .slice none 0 0]) (hb : b < w0.heap.size) (hw : w0.heap.size ≤ W.heap.size) :
    Arr w0 W b [Sn.zero, Sn.zero, Sn.zero, Sn.zero, Sn.zero] [0, 0, 0, 0, 0] := by
  refine ⟨h, rfl, rfl, hb, hw, fun i r s hi hs => ?_⟩
  have h1 : r = Sn.zero := by
    have := List.mem_of_getElem? hi
    simp at this
    exact this
  have h2 : s = 0 := by
    have := List.mem_of_getElem? hs
    simp at this
    exact this
  subst h1 h2
  exact Sg.zero _ _
/-- five of them, read -/
theorem list5 {α : Type} {l : List α} (h : l.length = 5) : ∃ a b c d e, l = [a, b, c, d, e] := by
  match l, h with
  | [a, b, c, d, e], _ => exact ⟨a, b, c, d, e, rfl⟩
/-- the cells of a table -/
def Tb (W : World) (g : Nat) (vs : List Value) : Prop := W.rangeAt g 0 vs
theorem Tb.below {W W' : World} {g : Nat} {vs : List Value} (h : Tb W g vs) (hb : Below W.heap.size W W') : Tb W' g vs := fun j v hj => by
  have h1 := h j v hj
  exact (hb.cell (World.block_lt_of_cell? _ _ h1)).trans h1
def ivs5 (l : List Int) : List Value := l.map fun x => .int .i64 x
def fiveL : List Int := [1, 0, 0, 0, 0, 1, 1, 1, 1, 1, 1, -1, 1, -1, 1, 1, 2, 4, 8, 16, 0, 0, 0, 0, 1]
def backL : List Int := [1, 0, 0, 0, 0, -3, 6, -2, -1, 12, -2, 1, 1, 0, -2, 3, -3, -1, 1, -12, 0, 0, 0, 0, 1]
def divL : List Value := [.int .u64 1, .int .u64 6, .int .u64 2, .int .u64 6, .int .u64 1]
/-- the three tables of package fast -/
def TabF (W : World) : Prop := Tb W 1 (ivs5 fiveL) ∧ Tb W 2 (ivs5 backL) ∧ Tb W 3 divL
theorem TabF.below {W W' : World} (h : TabF W) (hb : Below W.heap.size W W') : TabF W' := ⟨h.1.below hb, h.2.1.below hb, h.2.2.below hb⟩
/-- what a call answers that hands back five signed numbers -/
def FiveR (w w' : World) (z : Ending) (S : List Int) : Prop := ∃ a b c d e : Sn, z = .returned (snV a b c d e) ∧ S.length = 5 ∧ (∀ (i : Nat) (r : Sn) (s : Int), [a, b, c, d, e][i]? = some r → S[i]? = some s → Sg w w' r.s r.A r.n r.c r.xs s) ∧ Below w.heap.size w w'
/-- the five values -/
def fiveS (x : List Int) : List Int := match x with
  | [a, b, c, d, e] => [a, a + b + c + d + e, a - b + c - d + e, a + 2 * b + 4 * c + 8 * d + 16 * e, e]
  | _ => []

theorem flat_len (R : List Sn) : (R.flatMap sncs).length = 2 * R.length := by
  induction R with
  | nil => rfl
  | cons a R ih => rw [List.flatMap_cons, List.length_append, ih, List.length_cons]; simp [sncs]; omega
theorem Bk.range {W : World} {b : Nat} {vs : List Value} (h : Bk W b vs) : W.rangeAt b 0 vs := fun j v hj => by rw [Nat.zero_add]; exact (h j v hj).1
theorem range_alloc {W : World} {b : Nat} {vs : List Value} (h : W.rangeAt b 0 vs) (o : Obj) : (W.alloc o).rangeAt b 0 vs := World.rangeAt_alloc h o
theorem _root_.Go.World.rangeAt.alloc_ {W : World} {b : Nat} {vs : List Value} (h : W.rangeAt b 0 vs) (o : Obj) : (W.alloc o).rangeAt b 0 vs := World.rangeAt_alloc h o
theorem Bk.far {W : World} {b b' : Nat} {vs : List Value} (h : Bk W b vs) (hne : b ≠ b') (j : Nat) (u : Value) : Bk (W.setCell ⟨b', j, none⟩ u) b vs := fun i v hi => by
  rw [World.frozen?_setCell, World.cell?_setCell_other _ _ _ _ (by intro e; injection e with e1 e2; exact hne e1.symm)]
  exact h i v hi
def zero10 : List Value := [.bool false, .slice none 0 0, .bool false, .slice none 0 0, .bool false, .slice none 0 0, .bool false, .slice none 0 0, .bool false, .slice none 0 0]
/-- between two rounds of five: k values are there -/
def FvI (w X W : World) (a b c d e : Sn) (k : Nat) (R : List Sn) (S : List Int) : Prop :=
  Arr X W (w.heap.size + 2) R S ∧ (∀ i, i < k → S[i]? = (fiveS [a.v, b.v, c.v, d.v, e.v])[i]?) ∧ Bk W w.heap.size (snL a b c d e) ∧ Bk W (w.heap.size + 1) zero10 ∧ Below w.heap.size w W ∧ w.heap.size + 3 = X.heap.size
theorem FvI.next {w X W W' : World} {a b c d e : Sn} {k : Nat} {R : List Sn} {S : List Int} {r : Sn} {s : Int} (hk : k < 5) (h : FvI w X W a b c d e k R S) (hb : Below W.heap.size W W') (hr : Sg X W' r.s r.A r.n r.c r.xs s) (hs : (fiveS [a.v, b.v, c.v, d.v, e.v])[k]? = some s) :
    FvI w X ((W'.setCell ⟨w.heap.size + 2, 2 * k, none⟩ (.bool r.s)).setCell ⟨w.heap.size + 2, 2 * k + 1, none⟩ (.slice r.A r.n r.c)) a b c d e (k + 1) (R.set k r) (S.set k s) := by
  obtain ⟨h1, h2, h3, h4, h5, h6⟩ := h
  have hs1 : w.heap.size + 3 ≤ W.heap.size := by rw [h6]; exact h1.2.2.2.2.1
  refine ⟨(h1.below hb).set k r s hk hr, fun i hi => ?_, ((h3.below hb (by omega)).far (by omega) _ _).far (by omega) _ _, ((h4.below hb (by omega)).far (by omega) _ _).far (by omega) _ _, ((h5.trans (hb.mono (by omega))).setCell (p := ⟨w.heap.size + 2, 2 * k, none⟩) (by show w.heap.size ≤ w.heap.size + 2; omega) _).setCell (p := ⟨w.heap.size + 2, 2 * k + 1, none⟩) (by show w.heap.size ≤ w.heap.size + 2; omega) _, h6⟩
  by_cases hik : i = k
  · subst hik
    rw [List.getElem?_set_self (by rw [h1.2.2.1]; exact hk), hs]
  · rw [List.getElem?_set_ne (by omega)]
    exact h2 i (by omega)

theorem Bk.there {W : World} {b : Nat} {vs : List Value} (h : Bk W b vs) : W.there b 0 vs.length := fun j hj => by
  rw [Nat.zero_add]
  have h1 := h j _ (List.getElem?_eq_getElem hj)
  exact ⟨by rw [h1.1]; rfl, h1.2⟩
theorem grown_setCells (b : Nat) : ∀ (vs : List Value) (o : Nat) (W : World), W.grownBy (W.setCells b o vs) (some b)
  | [], _, W => World.grownBy.refl W _
  | v :: vs, o, W => grown_trans (grown_set W b o v) (grown_setCells b vs (o + 1) _)
theorem below_setCells {B : Nat} {w W : World} (h : Below B w W) {b : Nat} (hb : B ≤ b) (vs : List Value) (o : Nat) (hB : B ≤ W.heap.size) : Below B w (W.setCells b o vs) :=
  h.grown (grown_setCells b vs o W) hB (by intro j hj; injection hj with hj; omega)
theorem Sg.setCells {w0 W : World} {s : Bool} {A : Option Addr} {n c b : Nat} {zs : List Nat} {S : Int} (h : Sg w0 W s A n c zs S) (hb : b < w0.heap.size) (o : Nat) (vs : List Value) : Sg w0 (W.setCells b o vs) s A n c zs S :=
  ⟨⟨h.1.1, h.1.2.1, own_kept h.1.2.2 (grown_setCells b vs o W) hb⟩, h.2⟩
theorem five_done {w X W : World} {a b c d e r0 r1 r2 r3 r4 : Sn} {S : List Int} (h : FvI w X W a b c d e 5 [r0, r1, r2, r3, r4] S) :
    FiveR w (W.setCells (w.heap.size + 1) 0 (snL r0 r1 r2 r3 r4)) (.returned (snV r0 r1 r2 r3 r4)) (fiveS [a.v, b.v, c.v, d.v, e.v]) := by
  obtain ⟨h1, h2, h3, h4, h5, h6⟩ := h
  refine ⟨r0, r1, r2, r3, r4, rfl, rfl, fun i r s hi hs => ?_, below_setCells h5 (by omega) _ _ h5.size⟩
  have hi5 : i < 5 := by
    rcases Nat.lt_or_ge i 5 with hlt | hge
    · exact hlt
    · rw [List.getElem?_eq_none (by simpa using hge)] at hi; cases hi
  have := h1.2.2.2.2.2 i r s hi (by rw [h2 i hi5]; exact hs)
  exact (this.setCells (by omega) _ _).base (by omega)
/-- five's world ahead of its rounds -/
def X5 (w : World) (a b c d e : Sn) : World := ((w.alloc (.cells (snL a b c d e).toArray 116)).alloc (.cells zero10.toArray 116)).alloc (.cells zero10.toArray 116)

set_option maxHeartbeats 4000000 in
theorem five_ok (a b c d e : Sn) (w : World) (ha : a.ok w) (hb : b.ok w) (hc : c.ok w) (hd : d.ok w) (he : e.ok w) (hT : TabF w) :
    Calls Tryd.prog 82 #[snV a b c d e] w fun z w' => FiveR w w' z (fiveS [a.v, b.v, c.v, d.v, e.v]) := by
  have Hx := Lib.hid (And.intro ha (And.intro hb (And.intro hc (And.intro hd (And.intro he hT)))))
  clear ha hb hc hd he hT
  have hbX : Below w.heap.size w (X5 w a b c d e) := (((Below.refl _ _).alloc (Nat.le_refl _) _).alloc (by simp) _).alloc (by simp; omega) _
  have HT := Lib.hid (Hx.out.2.2.2.2.2.1.below hbX)
  have H0 : Hid (FvI w (X5 w a b c d e) (X5 w a b c d e) a b c d e 0 [Sn.zero, Sn.zero, Sn.zero, Sn.zero, Sn.zero] [0, 0, 0, 0, 0]) := by
    have k1 := ((Bk.new w (snL a b c d e) 116).below ((Below.refl _ _).alloc (Nat.le_refl _) (.cells zero10.toArray 116)) (by simp)).below ((Below.refl _ _).alloc (Nat.le_refl _) (.cells zero10.toArray 116)) (by simp; omega)
    have k2 := (Bk.new (w.alloc (.cells (snL a b c d e).toArray 116)) zero10 116).below ((Below.refl _ _).alloc (Nat.le_refl _) (.cells zero10.toArray 116)) (by simp)
    have k3 := Bk.new ((w.alloc (.cells (snL a b c d e).toArray 116)).alloc (.cells zero10.toArray 116)) zero10 116
    simp only [World.size_alloc] at k2 k3
    exact ⟨Arr.start _ _ _ k3 (by simp only [X5, World.size_alloc]; omega) (Nat.le_refl _), fun i hi => absurd hi (by omega), k1, k2, hbX, by simp only [X5, World.size_alloc]⟩
  go_enter Tryd.func82, Tryd.ntmps82
  go_wp2_with (refine wpList_load_mid rfl 150 _ rfl 1 0 rfl (ivs5 fiveL) _ HT.out Tryd.underlying150 rfl (by kernel_rfl) ?_)
  clear hbX
  go_loopw [4, 5, 7] (fun _ _ iv wr => ∃ (k : Nat) (R : List Sn) (S : List Int), k ≤ 5 ∧ iv = .int .i64 k ∧ Hid (FvI w (X5 w a b c d e) wr a b c d e k R S)) (fun _ _ iv _ => 5 - (intOf iv).toNat)
  case atStart => exact ⟨0, _, _, by omega, rfl, H0⟩
  case round =>
    clear H0 HT
    obtain ⟨k, R, S, hk, rfl, H⟩ := hrel
    obtain ⟨X, hX⟩ : ∃ X, X5 w a b c d e = X := ⟨_, rfl⟩
    rw [hX] at H ⊢
    rcases (show k = 0 ∨ k = 1 ∨ k = 2 ∨ k = 3 ∨ k = 4 ∨ k = 5 by omega) with rfl | rfl | rfl | rfl | rfl | rfl
    · have hR5 := H.out.1.2.1
      obtain ⟨x0, hx0⟩ : ∃ x0, (R.flatMap sncs)[0]? = some x0 := ⟨_, List.getElem?_eq_getElem (by rw [flat_len, hR5]; omega)⟩
      obtain ⟨x1, hx1⟩ : ∃ x1, (R.flatMap sncs)[1]? = some x1 := ⟨_, List.getElem?_eq_getElem (by rw [flat_len, hR5]; omega)⟩
      clear hR5
      have HX := Lib.hid (And.intro hx0 hx1)
      clear hx0 hx1
      go_wp2_with (first | (refine wpList_index rfl rfl (.agg #[.int .i64 1, .int .i64 0, .int .i64 0, .int .i64 0, .int .i64 0]) (fun w => by kernel_rfl) ?_) | (refine wpList_load_mid rfl 116 _ rfl w.heap.size 0 rfl (snL a b c d e) _ ((H.out.2.2.1.range).alloc_ _) Tryd.underlying116 rfl (by kernel_rfl) ?_))
      refine (weighed_ok a b c d e 1 0 0 0 0 _ (Hx.out.1.below (H.out.2.2.2.2.1.alloc H.out.2.2.2.2.1.size _)) (Hx.out.2.1.below (H.out.2.2.2.2.1.alloc H.out.2.2.2.2.1.size _)) (Hx.out.2.2.1.below (H.out.2.2.2.2.1.alloc H.out.2.2.2.2.1.size _)) (Hx.out.2.2.2.1.below (H.out.2.2.2.2.1.alloc H.out.2.2.2.2.1.size _)) (Hx.out.2.2.2.2.1.below (H.out.2.2.2.2.1.alloc H.out.2.2.2.2.1.size _)) (by decide)).mono ?_
      rintro z w3 ⟨s3, A3, n3, c3, zs, rfl, hS, hb3⟩
      have hb3' : Below wr.heap.size wr w3 := ((Below.refl _ _).alloc (Nat.le_refl _) _).trans (hb3.mono (by simp))
      have hA := H.out.1.below hb3'
      obtain ⟨p0, f0⟩ := hA.1 0 _ HX.out.1
      obtain ⟨p1, f1⟩ := hA.1 1 _ HX.out.2
      have HN : Hid (FvI w X ((w3.setCell ⟨w.heap.size + 2, 0, none⟩ (.bool s3)).setCell ⟨w.heap.size + 2, 1, none⟩ (.slice A3 n3 c3)) a b c d e 1 (R.set 0 ⟨s3, A3, n3, c3, zs⟩) (S.set 0 (a.v * 1 + (b.v * 0 + (c.v * 0 + (d.v * 0 + e.v * 0)))))) :=
        FvI.next (k := 0) (r := ⟨s3, A3, n3, c3, zs⟩) (by omega) H.out hb3' (hS.base (by have := H.out.1.2.2.2.2.1; simp; omega)) (by simp [fiveS]; try omega)
      clear hS hb3 hb3' hA H HX
      go_wp2_with (fail)
      refine ⟨⟨1, _, _, by omega, rfl, HN⟩, ?_⟩
      simp [intOf]
    · have hR5 := H.out.1.2.1
      obtain ⟨x0, hx0⟩ : ∃ x0, (R.flatMap sncs)[2]? = some x0 := ⟨_, List.getElem?_eq_getElem (by rw [flat_len, hR5]; omega)⟩
      obtain ⟨x1, hx1⟩ : ∃ x1, (R.flatMap sncs)[3]? = some x1 := ⟨_, List.getElem?_eq_getElem (by rw [flat_len, hR5]; omega)⟩
      clear hR5
      have HX := Lib.hid (And.intro hx0 hx1)
      clear hx0 hx1
      go_wp2_with (first | (refine wpList_index rfl rfl (.agg #[.int .i64 1, .int .i64 1, .int .i64 1, .int .i64 1, .int .i64 1]) (fun w => by kernel_rfl) ?_) | (refine wpList_load_mid rfl 116 _ rfl w.heap.size 0 rfl (snL a b c d e) _ ((H.out.2.2.1.range).alloc_ _) Tryd.underlying116 rfl (by kernel_rfl) ?_))
      refine (weighed_ok a b c d e 1 1 1 1 1 _ (Hx.out.1.below (H.out.2.2.2.2.1.alloc H.out.2.2.2.2.1.size _)) (Hx.out.2.1.below (H.out.2.2.2.2.1.alloc H.out.2.2.2.2.1.size _)) (Hx.out.2.2.1.below (H.out.2.2.2.2.1.alloc H.out.2.2.2.2.1.size _)) (Hx.out.2.2.2.1.below (H.out.2.2.2.2.1.alloc H.out.2.2.2.2.1.size _)) (Hx.out.2.2.2.2.1.below (H.out.2.2.2.2.1.alloc H.out.2.2.2.2.1.size _)) (by decide)).mono ?_
      rintro z w3 ⟨s3, A3, n3, c3, zs, rfl, hS, hb3⟩
      have hb3' : Below wr.heap.size wr w3 := ((Below.refl _ _).alloc (Nat.le_refl _) _).trans (hb3.mono (by simp))
      have hA := H.out.1.below hb3'
      obtain ⟨p0, f0⟩ := hA.1 2 _ HX.out.1
      obtain ⟨p1, f1⟩ := hA.1 3 _ HX.out.2
      have HN : Hid (FvI w X ((w3.setCell ⟨w.heap.size + 2, 2, none⟩ (.bool s3)).setCell ⟨w.heap.size + 2, 3, none⟩ (.slice A3 n3 c3)) a b c d e 2 (R.set 1 ⟨s3, A3, n3, c3, zs⟩) (S.set 1 (a.v * 1 + (b.v * 1 + (c.v * 1 + (d.v * 1 + e.v * 1)))))) :=
        FvI.next (k := 1) (r := ⟨s3, A3, n3, c3, zs⟩) (by omega) H.out hb3' (hS.base (by have := H.out.1.2.2.2.2.1; simp; omega)) (by simp [fiveS]; try omega)
      clear hS hb3 hb3' hA H HX
      go_wp2_with (fail)
      refine ⟨⟨2, _, _, by omega, rfl, HN⟩, ?_⟩
      simp [intOf]
    · have hR5 := H.out.1.2.1
      obtain ⟨x0, hx0⟩ : ∃ x0, (R.flatMap sncs)[4]? = some x0 := ⟨_, List.getElem?_eq_getElem (by rw [flat_len, hR5]; omega)⟩
      obtain ⟨x1, hx1⟩ : ∃ x1, (R.flatMap sncs)[5]? = some x1 := ⟨_, List.getElem?_eq_getElem (by rw [flat_len, hR5]; omega)⟩
      clear hR5
      have HX := Lib.hid (And.intro hx0 hx1)
      clear hx0 hx1
      go_wp2_with (first | (refine wpList_index rfl rfl (.agg #[.int .i64 1, .int .i64 (-1), .int .i64 1, .int .i64 (-1), .int .i64 1]) (fun w => by kernel_rfl) ?_) | (refine wpList_load_mid rfl 116 _ rfl w.heap.size 0 rfl (snL a b c d e) _ ((H.out.2.2.1.range).alloc_ _) Tryd.underlying116 rfl (by kernel_rfl) ?_))
      refine (weighed_ok a b c d e 1 (-1) 1 (-1) 1 _ (Hx.out.1.below (H.out.2.2.2.2.1.alloc H.out.2.2.2.2.1.size _)) (Hx.out.2.1.below (H.out.2.2.2.2.1.alloc H.out.2.2.2.2.1.size _)) (Hx.out.2.2.1.below (H.out.2.2.2.2.1.alloc H.out.2.2.2.2.1.size _)) (Hx.out.2.2.2.1.below (H.out.2.2.2.2.1.alloc H.out.2.2.2.2.1.size _)) (Hx.out.2.2.2.2.1.below (H.out.2.2.2.2.1.alloc H.out.2.2.2.2.1.size _)) (by decide)).mono ?_
      rintro z w3 ⟨s3, A3, n3, c3, zs, rfl, hS, hb3⟩
      have hb3' : Below wr.heap.size wr w3 := ((Below.refl _ _).alloc (Nat.le_refl _) _).trans (hb3.mono (by simp))
      have hA := H.out.1.below hb3'
      obtain ⟨p0, f0⟩ := hA.1 4 _ HX.out.1
      obtain ⟨p1, f1⟩ := hA.1 5 _ HX.out.2
      have HN : Hid (FvI w X ((w3.setCell ⟨w.heap.size + 2, 4, none⟩ (.bool s3)).setCell ⟨w.heap.size + 2, 5, none⟩ (.slice A3 n3 c3)) a b c d e 3 (R.set 2 ⟨s3, A3, n3, c3, zs⟩) (S.set 2 (a.v * 1 + (b.v * (-1) + (c.v * 1 + (d.v * (-1) + e.v * 1)))))) :=
        FvI.next (k := 2) (r := ⟨s3, A3, n3, c3, zs⟩) (by omega) H.out hb3' (hS.base (by have := H.out.1.2.2.2.2.1; simp; omega)) (by simp [fiveS]; try omega)
      clear hS hb3 hb3' hA H HX
      go_wp2_with (fail)
      refine ⟨⟨3, _, _, by omega, rfl, HN⟩, ?_⟩
      simp [intOf]
    · have hR5 := H.out.1.2.1
      obtain ⟨x0, hx0⟩ : ∃ x0, (R.flatMap sncs)[6]? = some x0 := ⟨_, List.getElem?_eq_getElem (by rw [flat_len, hR5]; omega)⟩
      obtain ⟨x1, hx1⟩ : ∃ x1, (R.flatMap sncs)[7]? = some x1 := ⟨_, List.getElem?_eq_getElem (by rw [flat_len, hR5]; omega)⟩
      clear hR5
      have HX := Lib.hid (And.intro hx0 hx1)
      clear hx0 hx1
      go_wp2_with (first | (refine wpList_index rfl rfl (.agg #[.int .i64 1, .int .i64 2, .int .i64 4, .int .i64 8, .int .i64 16]) (fun w => by kernel_rfl) ?_) | (refine wpList_load_mid rfl 116 _ rfl w.heap.size 0 rfl (snL a b c d e) _ ((H.out.2.2.1.range).alloc_ _) Tryd.underlying116 rfl (by kernel_rfl) ?_))
      refine (weighed_ok a b c d e 1 2 4 8 16 _ (Hx.out.1.below (H.out.2.2.2.2.1.alloc H.out.2.2.2.2.1.size _)) (Hx.out.2.1.below (H.out.2.2.2.2.1.alloc H.out.2.2.2.2.1.size _)) (Hx.out.2.2.1.below (H.out.2.2.2.2.1.alloc H.out.2.2.2.2.1.size _)) (Hx.out.2.2.2.1.below (H.out.2.2.2.2.1.alloc H.out.2.2.2.2.1.size _)) (Hx.out.2.2.2.2.1.below (H.out.2.2.2.2.1.alloc H.out.2.2.2.2.1.size _)) (by decide)).mono ?_
      rintro z w3 ⟨s3, A3, n3, c3, zs, rfl, hS, hb3⟩
      have hb3' : Below wr.heap.size wr w3 := ((Below.refl _ _).alloc (Nat.le_refl _) _).trans (hb3.mono (by simp))
      have hA := H.out.1.below hb3'
      obtain ⟨p0, f0⟩ := hA.1 6 _ HX.out.1
      obtain ⟨p1, f1⟩ := hA.1 7 _ HX.out.2
      have HN : Hid (FvI w X ((w3.setCell ⟨w.heap.size + 2, 6, none⟩ (.bool s3)).setCell ⟨w.heap.size + 2, 7, none⟩ (.slice A3 n3 c3)) a b c d e 4 (R.set 3 ⟨s3, A3, n3, c3, zs⟩) (S.set 3 (a.v * 1 + (b.v * 2 + (c.v * 4 + (d.v * 8 + e.v * 16)))))) :=
        FvI.next (k := 3) (r := ⟨s3, A3, n3, c3, zs⟩) (by omega) H.out hb3' (hS.base (by have := H.out.1.2.2.2.2.1; simp; omega)) (by simp [fiveS]; try omega)
      clear hS hb3 hb3' hA H HX
      go_wp2_with (fail)
      refine ⟨⟨4, _, _, by omega, rfl, HN⟩, ?_⟩
      simp [intOf]
    · have hR5 := H.out.1.2.1
      obtain ⟨x0, hx0⟩ : ∃ x0, (R.flatMap sncs)[8]? = some x0 := ⟨_, List.getElem?_eq_getElem (by rw [flat_len, hR5]; omega)⟩
      obtain ⟨x1, hx1⟩ : ∃ x1, (R.flatMap sncs)[9]? = some x1 := ⟨_, List.getElem?_eq_getElem (by rw [flat_len, hR5]; omega)⟩
      clear hR5
      have HX := Lib.hid (And.intro hx0 hx1)
      clear hx0 hx1
      go_wp2_with (first | (refine wpList_index rfl rfl (.agg #[.int .i64 0, .int .i64 0, .int .i64 0, .int .i64 0, .int .i64 1]) (fun w => by kernel_rfl) ?_) | (refine wpList_load_mid rfl 116 _ rfl w.heap.size 0 rfl (snL a b c d e) _ ((H.out.2.2.1.range).alloc_ _) Tryd.underlying116 rfl (by kernel_rfl) ?_))
      refine (weighed_ok a b c d e 0 0 0 0 1 _ (Hx.out.1.below (H.out.2.2.2.2.1.alloc H.out.2.2.2.2.1.size _)) (Hx.out.2.1.below (H.out.2.2.2.2.1.alloc H.out.2.2.2.2.1.size _)) (Hx.out.2.2.1.below (H.out.2.2.2.2.1.alloc H.out.2.2.2.2.1.size _)) (Hx.out.2.2.2.1.below (H.out.2.2.2.2.1.alloc H.out.2.2.2.2.1.size _)) (Hx.out.2.2.2.2.1.below (H.out.2.2.2.2.1.alloc H.out.2.2.2.2.1.size _)) (by decide)).mono ?_
      rintro z w3 ⟨s3, A3, n3, c3, zs, rfl, hS, hb3⟩
      have hb3' : Below wr.heap.size wr w3 := ((Below.refl _ _).alloc (Nat.le_refl _) _).trans (hb3.mono (by simp))
      have hA := H.out.1.below hb3'
      obtain ⟨p0, f0⟩ := hA.1 8 _ HX.out.1
      obtain ⟨p1, f1⟩ := hA.1 9 _ HX.out.2
      have HN : Hid (FvI w X ((w3.setCell ⟨w.heap.size + 2, 8, none⟩ (.bool s3)).setCell ⟨w.heap.size + 2, 9, none⟩ (.slice A3 n3 c3)) a b c d e 5 (R.set 4 ⟨s3, A3, n3, c3, zs⟩) (S.set 4 (a.v * 0 + (b.v * 0 + (c.v * 0 + (d.v * 0 + e.v * 1)))))) :=
        FvI.next (k := 4) (r := ⟨s3, A3, n3, c3, zs⟩) (by omega) H.out hb3' (hS.base (by have := H.out.1.2.2.2.2.1; simp; omega)) (by simp [fiveS]; try omega)
      clear hS hb3 hb3' hA H HX
      go_wp2_with (fail)
      refine ⟨⟨5, _, _, by omega, rfl, HN⟩, ?_⟩
      simp [intOf]
    · obtain ⟨r0, r1, r2, r3, r4, rfl⟩ := list5 H.out.1.2.1
      have hrg : wr.rangeAt (w.heap.size + 2) 0 (snL r0 r1 r2 r3 r4) := H.out.1.1.range
      have hth := H.out.2.2.2.1.there
      have HP := Lib.hid (And.intro hrg hth)
      clear hrg hth
      go_wp2_with (first | (refine wpList_load_mid rfl 116 _ rfl (w.heap.size + 2) 0 rfl (snL r0 r1 r2 r3 r4) _ HP.out.1 Tryd.underlying116 rfl (by kernel_rfl) ?_) | (refine wpList_store_mid rfl 116 _ _ rfl (w.heap.size + 1) 0 (snL r0 r1 r2 r3 r4).toArray rfl rfl HP.out.2 (by kernel_rfl) (by simp [Value.oneCell']) ?_))
      have hl := run_loadVar_mid (P := Tryd.prog) (wr.setCells (w.heap.size + 1) 0 (snL r0 r1 r2 r3 r4)) (w.heap.size + 1) 0 116 (snL r0 r1 r2 r3 r4) _ (World.rangeAt_setCells_same _ _ _ _ HP.out.2) Tryd.underlying116 rfl (by kernel_rfl)
      exact bodyPost_ret (v := snV r0 r1 r2 r3 r4) (by simp [results, Tryd.results82, Act.put, asAddr, hl]) rfl (five_done H.out)
end Go.Proofs.YtalcikmngglplaaDoor
