/- The contract of fast.weighed. -/
import Derived.Test.YtalcikmngglplaaDoorZFSum
import Derived.Test.YtalcikmngglplaaDoorZFHalves
namespace Go.Proofs.YtalcikmngglplaaDoor
open Go.RowKit Go.Shelf
set_option linter.unusedVariables false
set_option linter.unusedSimpArgs false
set_option maxRecDepth 10000

/-- an element of an array's value -/
theorem wpList_index {P : Program} {w : World} {ops : Array Oper} {rest : List Oper} {o : Oper} {a : Act} {Q : Exit → Act → World → Prop} {t : TypeId} {x i : Operand} (hg : o.guard = none) (hop : o.op = Op.index t x i) (v : Value)
    (hrun : ∀ w, (Instr.index t (a.eval x) (a.eval i)).run P w = .ok v w) (h : wpList P ops Q rest (a.put o.dst v) w) : wpList P ops Q (o :: rest) a w := by
  refine wpList_plain hg fun K hK => ?_
  unfold Oper.wp
  simp only [execOp, hop, Sem.run_bind, hrun, Result.andThen_ok, Sem.run_pure]
  exact hK _ _ h
/-- a signed number somewhere -/
structure Sn where
  s : Bool
  A : Option Addr
  n : Nat
  c : Nat
  xs : List Nat
/-- its value -/
def Sn.v (a : Sn) : Int := sgn a.s (V a.xs)
/-- it holds a number -/
def Sn.ok (w : World) (a : Sn) : Prop := Sl w a.A a.n a.c a.xs ∧ a.n ≤ 40000
theorem Sn.ok.below {w w' : World} {a : Sn} (h : a.ok w) (hb : Below w.heap.size w w') : a.ok w' := ⟨h.1.below hb, h.2⟩
/-- the cells of five signed numbers -/
abbrev snL (a b c d e : Sn) : List Value := [.bool a.s, .slice a.A a.n a.c, .bool b.s, .slice b.A b.n b.c, .bool c.s, .slice c.A c.n c.c, .bool d.s, .slice d.A d.n d.c, .bool e.s, .slice e.A e.n e.c]
abbrev snV (a b c d e : Sn) : Value := .agg #[.bool a.s, .slice a.A a.n a.c, .bool b.s, .slice b.A b.n b.c, .bool c.s, .slice c.A c.n c.c, .bool d.s, .slice d.A d.n d.c, .bool e.s, .slice e.A e.n e.c]
abbrev wtV (a b c d e : Int) : Value := .agg #[.int .i64 a, .int .i64 b, .int .i64 c, .int .i64 d, .int .i64 e]
theorem Tryd.info69 : (Tryd.prog.info? 69).map (fun i => (i.zero, i.size, i.bytes)) = some (some (.agg #[.bool false, .slice none 0 0, .int .i64 0, .int .i64 0]), 4, 48) := by kernel_rfl
abbrev snT (a : Sn) (w : Int) : Tm := ⟨a.s, a.A, a.n, a.c, a.xs, w, 0⟩
/-- the terms of those whose weight is not 0 -/
def wterms : List Sn → List Int → List Tm
  | a :: al, w :: wl => if w = 0 then wterms al wl else snT a w :: wterms al wl
  | _, _ => []
theorem wterms_succ : ∀ (k : Nat) (al : List Sn) (wl : List Int) (a : Sn) (w : Int), al[k]? = some a → wl[k]? = some w → wterms (al.take (k + 1)) (wl.take (k + 1)) = wterms (al.take k) (wl.take k) ++ (if w = 0 then [] else [snT a w])
  | 0, b :: bl, v :: vl, a, w, h1, h2 => by
    simp at h1 h2
    subst h1 h2
    simp [wterms]
  | k + 1, b :: bl, v :: vl, a, w, h1, h2 => by
    rw [List.getElem?_cons_succ] at h1 h2
    have ih := wterms_succ k bl vl a w h1 h2
    rw [List.take_succ_cons, List.take_succ_cons, List.take_succ_cons, List.take_succ_cons, wterms, wterms, ih]
    split <;> simp
  | _, [], _, a, w, h1, h2 => by simp at h1
  | _, _ :: _, [], a, w, h1, h2 => by simp at h2
theorem tvs_app (ts : List Tm) (t : Tm) : tvs (ts ++ [t]) = tvs ts ++ tcs t := by simp [tvs]
theorem tval_sn (a : Sn) (w : Int) : tval (snT a w) = a.v * w := by simp [tval, Sn.v]
theorem tsum_cons (t : Tm) (ts : List Tm) : tsum (t :: ts) = tval t + tsum ts := by simp [tsum]
theorem wterms_sum : ∀ (al : List Sn) (wl : List Int), tsum (wterms al wl) = ((al.zip wl).map fun p => p.1.v * p.2).sum
  | a :: al, w :: wl => by
    rw [wterms, List.zip_cons_cons, List.map_cons, List.sum_cons]
    split
    · rename_i h
      rw [wterms_sum al wl, h, Int.mul_zero, Int.zero_add]
    · rw [tsum_cons, tval_sn, wterms_sum al wl]
  | [], _ => by simp [wterms, tsum]
  | _ :: _, [] => by simp [wterms, tsum]
theorem wterms_mem : ∀ (al : List Sn) (wl : List Int) (t : Tm), t ∈ wterms al wl → ∃ a ∈ al, ∃ w ∈ wl, t = snT a w
  | a :: al, w :: wl, t, h => by
    rw [wterms] at h
    split at h
    · obtain ⟨b, hb, v, hv, e⟩ := wterms_mem al wl t h
      exact ⟨b, by simp [hb], v, by simp [hv], e⟩
    · rcases List.mem_cons.1 h with e | h
      · exact ⟨a, by simp, w, by simp, e⟩
      · obtain ⟨b, hb, v, hv, e⟩ := wterms_mem al wl t h
        exact ⟨b, by simp [hb], v, by simp [hv], e⟩
  | [], _, t, h => by simp [wterms] at h
  | _ :: _, [], t, h => by simp [wterms] at h
theorem wterms_wsum : ∀ (al : List Sn) (wl : List Int), wsum (wterms al wl) ≤ (wl.map Int.natAbs).sum
  | a :: al, w :: wl => by
    rw [wterms, List.map_cons, List.sum_cons]
    have := wterms_wsum al wl
    split
    · omega
    · rw [show wsum (snT a w :: wterms al wl) = w.natAbs + wsum (wterms al wl) by simp [wsum]]; omega
  | [], _ => by simp [wterms, wsum]
  | _ :: _, [] => by simp [wterms, wsum]
theorem wterms_len : ∀ (al : List Sn) (wl : List Int), (wterms al wl).length ≤ al.length
  | a :: al, w :: wl => by
    rw [wterms]
    have := wterms_len al wl
    split <;> simp <;> omega
  | [], _ => by simp [wterms]
  | _ :: _, [] => by simp [wterms]
/-- an own row of terms is a slice of terms -/
theorem Tl.own {w : World} {base : Nat} {A : Option Addr} {m c : Nat} {ts : List Tm} (h : w.ownsRow base 69 4 (.slice A m c) m (tvs ts)) (hm : ts.length = m) (ht : ∀ t ∈ ts, Sl w t.A t.n t.c t.xs) : Tl w A m c ts := by
  have hl : (tvs ts).length = 4 * ts.length := by
    clear h hm ht
    induction ts with
    | nil => rfl
    | cons a al ih => rw [tvs, List.flatMap_cons, List.length_append, ← tvs, ih, List.length_cons]; simp [tcs]; omega
  rcases h.2 with ⟨hv, h0⟩ | ⟨g, cap, cur, hv, hg, hh, hn, hc, hs, ht2⟩
  · injection hv with e1 e2 e3
    subst e1 e2 e3
    exact ⟨hm, Nat.le_refl _, by omega, by rw [show tvs ts = [] from List.eq_nil_of_length_eq_zero (by rw [hl, hm])]; exact Rd.nil, ht⟩
  · injection hv with e1 e2 e3
    subst e1 e3
    refine ⟨hm, hn, hc, fun _ => ⟨g, 0, rfl, (Array.getElem?_eq_some_iff.1 hh).1, fun j u hu => ?_⟩, ht⟩
    rw [Nat.zero_add, cell_of_row w g j cur _ _ hh]
    rw [← ht2, List.getElem?_take] at hu
    split at hu
    · simpa using hu
    · cases hu

theorem own_slice {w : World} {base : Nat} {e : TypeId} {size : Nat} {v : Value} {n : Nat} {vs : List Value} (h : w.ownsRow base e size v n vs) : ∃ A c, v = .slice A n c := by
  rcases h.2 with ⟨rfl, rfl⟩ | ⟨g, cap, cur, rfl, _⟩
  · exact ⟨none, 0, rfl⟩
  · exact ⟨_, cap, rfl⟩
/-- the boxes of weighed's arguments, and its result's place -/
def WB (w W : World) (a b c d e : Sn) (p q r s t : Int) : Prop := Bk W w.heap.size (snL a b c d e) ∧ Bk W (w.heap.size + 1) [.int .i64 p, .int .i64 q, .int .i64 r, .int .i64 s, .int .i64 t] ∧ Bk W (w.heap.size + 2) [.bool false, .slice none 0 0] ∧ Below w.heap.size w W ∧ w.heap.size + 2 < W.heap.size
theorem WB.grown {w W W' : World} {a b c d e : Sn} {p q r s t : Int} (h : WB w W a b c d e p q r s t) (hb : Below (w.heap.size + 3) W W') : WB w W' a b c d e p q r s t :=
  ⟨h.1.below hb (by omega), h.2.1.below hb (by omega), h.2.2.1.below hb (by omega), h.2.2.2.1.trans (hb.mono (by omega)), Nat.lt_of_lt_of_le h.2.2.2.2 hb.size⟩

/-- the terms of the first k -/
def LT (a b c d e : Sn) (p q r s t : Int) (k : Nat) : List Tm := wterms ([a, b, c, d, e].take k) ([p, q, r, s, t].take k)
theorem LT_succ {a b c d e : Sn} {p q r s t : Int} (k : Nat) (x : Sn) (y : Int) (h1 : [a, b, c, d, e][k]? = some x) (h2 : [p, q, r, s, t][k]? = some y) : LT a b c d e p q r s t (k + 1) = LT a b c d e p q r s t k ++ (if y = 0 then [] else [snT x y]) := wterms_succ k _ _ x y h1 h2
theorem LT_len {a b c d e : Sn} {p q r s t : Int} {k : Nat} : (LT a b c d e p q r s t k).length ≤ 5 := Nat.le_trans (wterms_len _ _) (by rw [List.length_take]; simp; omega)
theorem LT_mem {w W : World} {a b c d e : Sn} {p q r s t : Int} {k : Nat} (hb : Below w.heap.size w W) (h : ∀ x ∈ [a, b, c, d, e], x.ok w) : ∀ x ∈ LT a b c d e p q r s t k, Sl W x.A x.n x.c x.xs ∧ x.pl + x.n ≤ 50000 := by
  intro x hx
  obtain ⟨y, hy, v, _, rfl⟩ := wterms_mem _ _ _ hx
  have h1 := (h y (List.mem_of_mem_take hy)).below hb
  exact ⟨h1.1, by have := h1.2; simp only; omega⟩
theorem WB.start {w w1 : World} {a b c d e : Sn} {p q r s t : Int}
    (h : Below (((w.alloc (.cells (snL a b c d e).toArray 116)).alloc (.cells #[.int .i64 p, .int .i64 q, .int .i64 r, .int .i64 s, .int .i64 t] 149)).alloc (.cells #[.bool false, .slice none 0 0] 67)).heap.size (((w.alloc (.cells (snL a b c d e).toArray 116)).alloc (.cells #[.int .i64 p, .int .i64 q, .int .i64 r, .int .i64 s, .int .i64 t] 149)).alloc (.cells #[.bool false, .slice none 0 0] 67)) w1) : WB w w1 a b c d e p q r s t := by
  simp only [World.size_alloc] at h
  have k1 := ((Bk.new w (snL a b c d e) 116).below ((Below.refl _ _).alloc (Nat.le_refl _) (.cells #[.int .i64 p, .int .i64 q, .int .i64 r, .int .i64 s, .int .i64 t] 149)) (by simp)).below ((Below.refl _ _).alloc (Nat.le_refl _) (.cells #[.bool false, .slice none 0 0] 67)) (by simp; omega)
  have k2 := (Bk.new (w.alloc (.cells (snL a b c d e).toArray 116)) [.int .i64 p, .int .i64 q, .int .i64 r, .int .i64 s, .int .i64 t] 149).below ((Below.refl _ _).alloc (Nat.le_refl _) (.cells #[.bool false, .slice none 0 0] 67)) (by simp)
  have k3 := Bk.new ((w.alloc (.cells (snL a b c d e).toArray 116)).alloc (.cells #[.int .i64 p, .int .i64 q, .int .i64 r, .int .i64 s, .int .i64 t] 149)) [.bool false, .slice none 0 0] 67
  simp only [World.size_alloc] at k2 k3
  exact ⟨k1.below h (by omega), k2.below h (by omega), k3.below h (by omega), ((((Below.refl _ w).alloc (Nat.le_refl _) _).alloc (by simp) _).alloc (by simp; omega) _).trans (h.mono (by omega)), by have := h.size; simp at this; omega⟩
set_option maxHeartbeats 4000000 in
theorem weighed_ok (a b c d e : Sn) (p q r s t : Int) (w : World) (ha : a.ok w) (hb : b.ok w) (hc : c.ok w) (hd : d.ok w) (he : e.ok w) (hw : ([p, q, r, s, t].map Int.natAbs).sum ≤ 1000) :
    Calls Tryd.prog 117 #[snV a b c d e, wtV p q r s t] w fun z w' => SumR w w' z (a.v * p + (b.v * q + (c.v * r + (d.v * s + e.v * t)))) := by
  obtain ⟨i0, hi, hz0, hz1, hz2⟩ := info_parts Tryd.info69
  have Hx := Lib.hid (show ∀ x ∈ [a, b, c, d, e], x.ok w by intro x hx; simp only [List.mem_cons, List.not_mem_nil, or_false] at hx; rcases hx with h | h | h | h | h <;> (rw [h]; assumption))
  have Hw := Lib.hid hw
  clear ha hb hc hd he hw
  go_enter Tryd.func117, Tryd.ntmps117
  go_wp2_with (at_make; refine wpList_make_own _ rfl _ _ 63 rfl (w.heap.size + 3) 69 i0 (.agg #[.bool false, .slice none 0 0, .int .i64 0, .int .i64 0]) 4 Tryd.underlying63 hi hz0 hz1 .i64 .i64 _ 5 rfl rfl rfl (by rw [hz2]; omega) (by unfold maxLen; omega) (by simp only [World.size_alloc]; omega) ?_)
  intro w1 hown hgrow
  have HW : Hid (WB w w1 a b c d e p q r s t) := WB.start (below_of_grown hgrow (Nat.le_refl _))
  have HO := Lib.hid hown
  obtain ⟨g0, -⟩ := HW.out.2.1 0 _ rfl
  obtain ⟨g1, -⟩ := HW.out.2.1 1 _ rfl
  obtain ⟨g2, -⟩ := HW.out.2.1 2 _ rfl
  obtain ⟨g3, -⟩ := HW.out.2.1 3 _ rfl
  obtain ⟨g4, -⟩ := HW.out.2.1 4 _ rfl
  clear hown hgrow
  go_wp2_with (fail)
  clear g0 g1 g2 g3 g4
  go_loopw [5, 6, 7, 10] (fun v _ _ iv wr => ∃ k : Nat, k ≤ 5 ∧ iv = .int .i64 k ∧ Hid (wr.ownsRow (w.heap.size + 3) 69 4 v (LT a b c d e p q r s t k).length (tvs (LT a b c d e p q r s t k)) ∧ WB w wr a b c d e p q r s t)) (fun _ _ _ iv _ => 5 - (intOf iv).toNat)
  case atStart => exact ⟨0, by omega, rfl, HO.out, HW.out⟩
  case round =>
    clear HW HO
    obtain ⟨k, hk, rfl, H⟩ := hrel
    rcases (show k = 0 ∨ k = 1 ∨ k = 2 ∨ k = 3 ∨ k = 4 ∨ k = 5 by omega) with rfl | rfl | rfl | rfl | rfl | rfl
    · -- round 0
      obtain ⟨c0, -⟩ := H.out.2.1 0 _ rfl
      obtain ⟨c1, -⟩ := H.out.2.1 1 _ rfl
      by_cases h0 : p = 0
      · have hb1 : (p != 0) = false := by simp [h0]
        have hb2 : (p == 0) = true := by simp [h0]
        have HN : Hid (wr.ownsRow (w.heap.size + 3) 69 4 u5 (LT a b c d e p q r s t 1).length (tvs (LT a b c d e p q r s t 1)) ∧ WB w wr a b c d e p q r s t) := by
          have e1 : LT a b c d e p q r s t 1 = LT a b c d e p q r s t 0 := by rw [LT_succ 0 a p rfl rfl, if_pos h0, List.append_nil]
          rw [e1]
          exact H.out
        clear h0 H
        go_wp2_with (refine wpList_index rfl rfl (.int .i64 p) (fun w => by kernel_rfl) ?_)
        refine ⟨⟨1, by omega, rfl, HN⟩, ?_⟩
        simp [intOf]
      · have hb1 : (p != 0) = true := by simp [h0]
        have hb2 : (p == 0) = false := by simp [h0]
        have hl5 : (LT a b c d e p q r s t 0).length ≤ 5 := LT_len
        have hws := H.out.2.2.2.2.2
        go_wp2_with (first | (refine wpList_index rfl rfl (.int .i64 p) (fun w => by kernel_rfl) ?_) | (at_builtin; refine wpList_append_own_at _ rfl (.tmp 16) (.tmp 22) 63 rfl (w.heap.size + 3) 69 i0 (.agg #[.bool false, .slice none 0 0, .int .i64 0, .int .i64 0]) 4 48 Tryd.underlying63 hi hz0 hz1 hz2 rfl (by omega) u5 _ _ rfl (H.out.1.alloc _) ⟨wr.heap.size, 0, none⟩ 1 1 (tcs (snT a p)) rfl rfl (World.news_of_block (heap_alloc_new wr _)) (by simp [tcs, Value.oneCell']) (by unfold maxLen; omega) (by omega) (by simp; omega) ?_))
        intro v' w2 hown2 hgrow2 hnil2 hblk2
        have HN : Hid (w2.ownsRow (w.heap.size + 3) 69 4 v' (LT a b c d e p q r s t 1).length (tvs (LT a b c d e p q r s t 1)) ∧ WB w w2 a b c d e p q r s t) := by
          rw [LT_succ 0 a p rfl rfl, if_neg h0, tvs_app, List.length_append, List.length_singleton]
          exact ⟨hown2, H.out.2.grown (((Below.refl _ wr).alloc (by omega) _).grown hgrow2 (by simp; omega) (fun j hj => (H.out.1.lt j hj).1))⟩
        clear h0 H hown2 hgrow2 hnil2 hblk2
        go_wp2_with (fail)
        refine ⟨⟨1, by omega, rfl, HN⟩, ?_⟩
        simp [intOf]
    · -- round 1
      obtain ⟨c0, -⟩ := H.out.2.1 2 _ rfl
      obtain ⟨c1, -⟩ := H.out.2.1 3 _ rfl
      by_cases h0 : q = 0
      · have hb1 : (q != 0) = false := by simp [h0]
        have hb2 : (q == 0) = true := by simp [h0]
        have HN : Hid (wr.ownsRow (w.heap.size + 3) 69 4 u5 (LT a b c d e p q r s t 2).length (tvs (LT a b c d e p q r s t 2)) ∧ WB w wr a b c d e p q r s t) := by
          have e1 : LT a b c d e p q r s t 2 = LT a b c d e p q r s t 1 := by rw [LT_succ 1 b q rfl rfl, if_pos h0, List.append_nil]
          rw [e1]
          exact H.out
        clear h0 H
        go_wp2_with (refine wpList_index rfl rfl (.int .i64 q) (fun w => by kernel_rfl) ?_)
        refine ⟨⟨2, by omega, rfl, HN⟩, ?_⟩
        simp [intOf]
      · have hb1 : (q != 0) = true := by simp [h0]
        have hb2 : (q == 0) = false := by simp [h0]
        have hl5 : (LT a b c d e p q r s t 1).length ≤ 5 := LT_len
        have hws := H.out.2.2.2.2.2
        go_wp2_with (first | (refine wpList_index rfl rfl (.int .i64 q) (fun w => by kernel_rfl) ?_) | (at_builtin; refine wpList_append_own_at _ rfl (.tmp 16) (.tmp 22) 63 rfl (w.heap.size + 3) 69 i0 (.agg #[.bool false, .slice none 0 0, .int .i64 0, .int .i64 0]) 4 48 Tryd.underlying63 hi hz0 hz1 hz2 rfl (by omega) u5 _ _ rfl (H.out.1.alloc _) ⟨wr.heap.size, 0, none⟩ 1 1 (tcs (snT b q)) rfl rfl (World.news_of_block (heap_alloc_new wr _)) (by simp [tcs, Value.oneCell']) (by unfold maxLen; omega) (by omega) (by simp; omega) ?_))
        intro v' w2 hown2 hgrow2 hnil2 hblk2
        have HN : Hid (w2.ownsRow (w.heap.size + 3) 69 4 v' (LT a b c d e p q r s t 2).length (tvs (LT a b c d e p q r s t 2)) ∧ WB w w2 a b c d e p q r s t) := by
          rw [LT_succ 1 b q rfl rfl, if_neg h0, tvs_app, List.length_append, List.length_singleton]
          exact ⟨hown2, H.out.2.grown (((Below.refl _ wr).alloc (by omega) _).grown hgrow2 (by simp; omega) (fun j hj => (H.out.1.lt j hj).1))⟩
        clear h0 H hown2 hgrow2 hnil2 hblk2
        go_wp2_with (fail)
        refine ⟨⟨2, by omega, rfl, HN⟩, ?_⟩
        simp [intOf]
    · -- round 2
      obtain ⟨c0, -⟩ := H.out.2.1 4 _ rfl
      obtain ⟨c1, -⟩ := H.out.2.1 5 _ rfl
      by_cases h0 : r = 0
      · have hb1 : (r != 0) = false := by simp [h0]
        have hb2 : (r == 0) = true := by simp [h0]
        have HN : Hid (wr.ownsRow (w.heap.size + 3) 69 4 u5 (LT a b c d e p q r s t 3).length (tvs (LT a b c d e p q r s t 3)) ∧ WB w wr a b c d e p q r s t) := by
          have e1 : LT a b c d e p q r s t 3 = LT a b c d e p q r s t 2 := by rw [LT_succ 2 c r rfl rfl, if_pos h0, List.append_nil]
          rw [e1]
          exact H.out
        clear h0 H
        go_wp2_with (refine wpList_index rfl rfl (.int .i64 r) (fun w => by kernel_rfl) ?_)
        refine ⟨⟨3, by omega, rfl, HN⟩, ?_⟩
        simp [intOf]
      · have hb1 : (r != 0) = true := by simp [h0]
        have hb2 : (r == 0) = false := by simp [h0]
        have hl5 : (LT a b c d e p q r s t 2).length ≤ 5 := LT_len
        have hws := H.out.2.2.2.2.2
        go_wp2_with (first | (refine wpList_index rfl rfl (.int .i64 r) (fun w => by kernel_rfl) ?_) | (at_builtin; refine wpList_append_own_at _ rfl (.tmp 16) (.tmp 22) 63 rfl (w.heap.size + 3) 69 i0 (.agg #[.bool false, .slice none 0 0, .int .i64 0, .int .i64 0]) 4 48 Tryd.underlying63 hi hz0 hz1 hz2 rfl (by omega) u5 _ _ rfl (H.out.1.alloc _) ⟨wr.heap.size, 0, none⟩ 1 1 (tcs (snT c r)) rfl rfl (World.news_of_block (heap_alloc_new wr _)) (by simp [tcs, Value.oneCell']) (by unfold maxLen; omega) (by omega) (by simp; omega) ?_))
        intro v' w2 hown2 hgrow2 hnil2 hblk2
        have HN : Hid (w2.ownsRow (w.heap.size + 3) 69 4 v' (LT a b c d e p q r s t 3).length (tvs (LT a b c d e p q r s t 3)) ∧ WB w w2 a b c d e p q r s t) := by
          rw [LT_succ 2 c r rfl rfl, if_neg h0, tvs_app, List.length_append, List.length_singleton]
          exact ⟨hown2, H.out.2.grown (((Below.refl _ wr).alloc (by omega) _).grown hgrow2 (by simp; omega) (fun j hj => (H.out.1.lt j hj).1))⟩
        clear h0 H hown2 hgrow2 hnil2 hblk2
        go_wp2_with (fail)
        refine ⟨⟨3, by omega, rfl, HN⟩, ?_⟩
        simp [intOf]
    · -- round 3
      obtain ⟨c0, -⟩ := H.out.2.1 6 _ rfl
      obtain ⟨c1, -⟩ := H.out.2.1 7 _ rfl
      by_cases h0 : s = 0
      · have hb1 : (s != 0) = false := by simp [h0]
        have hb2 : (s == 0) = true := by simp [h0]
        have HN : Hid (wr.ownsRow (w.heap.size + 3) 69 4 u5 (LT a b c d e p q r s t 4).length (tvs (LT a b c d e p q r s t 4)) ∧ WB w wr a b c d e p q r s t) := by
          have e1 : LT a b c d e p q r s t 4 = LT a b c d e p q r s t 3 := by rw [LT_succ 3 d s rfl rfl, if_pos h0, List.append_nil]
          rw [e1]
          exact H.out
        clear h0 H
        go_wp2_with (refine wpList_index rfl rfl (.int .i64 s) (fun w => by kernel_rfl) ?_)
        refine ⟨⟨4, by omega, rfl, HN⟩, ?_⟩
        simp [intOf]
      · have hb1 : (s != 0) = true := by simp [h0]
        have hb2 : (s == 0) = false := by simp [h0]
        have hl5 : (LT a b c d e p q r s t 3).length ≤ 5 := LT_len
        have hws := H.out.2.2.2.2.2
        go_wp2_with (first | (refine wpList_index rfl rfl (.int .i64 s) (fun w => by kernel_rfl) ?_) | (at_builtin; refine wpList_append_own_at _ rfl (.tmp 16) (.tmp 22) 63 rfl (w.heap.size + 3) 69 i0 (.agg #[.bool false, .slice none 0 0, .int .i64 0, .int .i64 0]) 4 48 Tryd.underlying63 hi hz0 hz1 hz2 rfl (by omega) u5 _ _ rfl (H.out.1.alloc _) ⟨wr.heap.size, 0, none⟩ 1 1 (tcs (snT d s)) rfl rfl (World.news_of_block (heap_alloc_new wr _)) (by simp [tcs, Value.oneCell']) (by unfold maxLen; omega) (by omega) (by simp; omega) ?_))
        intro v' w2 hown2 hgrow2 hnil2 hblk2
        have HN : Hid (w2.ownsRow (w.heap.size + 3) 69 4 v' (LT a b c d e p q r s t 4).length (tvs (LT a b c d e p q r s t 4)) ∧ WB w w2 a b c d e p q r s t) := by
          rw [LT_succ 3 d s rfl rfl, if_neg h0, tvs_app, List.length_append, List.length_singleton]
          exact ⟨hown2, H.out.2.grown (((Below.refl _ wr).alloc (by omega) _).grown hgrow2 (by simp; omega) (fun j hj => (H.out.1.lt j hj).1))⟩
        clear h0 H hown2 hgrow2 hnil2 hblk2
        go_wp2_with (fail)
        refine ⟨⟨4, by omega, rfl, HN⟩, ?_⟩
        simp [intOf]
    · -- round 4
      obtain ⟨c0, -⟩ := H.out.2.1 8 _ rfl
      obtain ⟨c1, -⟩ := H.out.2.1 9 _ rfl
      by_cases h0 : t = 0
      · have hb1 : (t != 0) = false := by simp [h0]
        have hb2 : (t == 0) = true := by simp [h0]
        have HN : Hid (wr.ownsRow (w.heap.size + 3) 69 4 u5 (LT a b c d e p q r s t 5).length (tvs (LT a b c d e p q r s t 5)) ∧ WB w wr a b c d e p q r s t) := by
          have e1 : LT a b c d e p q r s t 5 = LT a b c d e p q r s t 4 := by rw [LT_succ 4 e t rfl rfl, if_pos h0, List.append_nil]
          rw [e1]
          exact H.out
        clear h0 H
        go_wp2_with (refine wpList_index rfl rfl (.int .i64 t) (fun w => by kernel_rfl) ?_)
        refine ⟨⟨5, by omega, rfl, HN⟩, ?_⟩
        simp [intOf]
      · have hb1 : (t != 0) = true := by simp [h0]
        have hb2 : (t == 0) = false := by simp [h0]
        have hl5 : (LT a b c d e p q r s t 4).length ≤ 5 := LT_len
        have hws := H.out.2.2.2.2.2
        go_wp2_with (first | (refine wpList_index rfl rfl (.int .i64 t) (fun w => by kernel_rfl) ?_) | (at_builtin; refine wpList_append_own_at _ rfl (.tmp 16) (.tmp 22) 63 rfl (w.heap.size + 3) 69 i0 (.agg #[.bool false, .slice none 0 0, .int .i64 0, .int .i64 0]) 4 48 Tryd.underlying63 hi hz0 hz1 hz2 rfl (by omega) u5 _ _ rfl (H.out.1.alloc _) ⟨wr.heap.size, 0, none⟩ 1 1 (tcs (snT e t)) rfl rfl (World.news_of_block (heap_alloc_new wr _)) (by simp [tcs, Value.oneCell']) (by unfold maxLen; omega) (by omega) (by simp; omega) ?_))
        intro v' w2 hown2 hgrow2 hnil2 hblk2
        have HN : Hid (w2.ownsRow (w.heap.size + 3) 69 4 v' (LT a b c d e p q r s t 5).length (tvs (LT a b c d e p q r s t 5)) ∧ WB w w2 a b c d e p q r s t) := by
          rw [LT_succ 4 e t rfl rfl, if_neg h0, tvs_app, List.length_append, List.length_singleton]
          exact ⟨hown2, H.out.2.grown (((Below.refl _ wr).alloc (by omega) _).grown hgrow2 (by simp; omega) (fun j hj => (H.out.1.lt j hj).1))⟩
        clear h0 H hown2 hgrow2 hnil2 hblk2
        go_wp2_with (fail)
        refine ⟨⟨5, by omega, rfl, HN⟩, ?_⟩
        simp [intOf]
    · obtain ⟨A, c', rfl⟩ := own_slice H.out.1
      obtain ⟨m, hm⟩ : ∃ m, (LT a b c d e p q r s t 5).length = m := ⟨_, rfl⟩
      have hm5 : m ≤ 5 := by rw [← hm]; exact LT_len
      rw [hm] at H ⊢
      have hmem := LT_mem (p := p) (q := q) (r := r) (s := s) (t := t) (k := 5) H.out.2.2.2.2.1 Hx.out
      go_wp2_with (fail)
      refine (fsum_ok (LT a b c d e p q r s t 5) A m c' 50000 _ (by omega) (Tl.own H.out.1 hm (fun x hx => (hmem x hx).1)) (fun x hx => (hmem x hx).2) (by omega) (Nat.lt_of_le_of_lt (Nat.le_trans (wterms_wsum _ _) Hw.out) (by decide))).mono ?_
      rintro e' w3 ⟨s3, A3, n3, c3, zs, rfl, hS, hb3⟩
      have hk := H.out.2.2.2.1.below hb3 H.out.2.2.2.2.2
      obtain ⟨p0, f0⟩ := hk 0 _ rfl
      obtain ⟨p1, f1⟩ := hk 1 _ rfl
      have HS := Lib.hid (And.intro hS (And.intro (H.out.2.2.2.2.1.trans (hb3.mono H.out.2.2.2.2.1.size)) (And.intro H.out.2.2.2.2.1.size H.out.2.2.2.2.2)))
      clear hS hb3 hk hmem H hm
      go_wp2_with (fail)
      exact bodyPost_ret (v := .agg #[.bool s3, .slice A3 n3 c3]) (by simp [results, Tryd.results117, go_sem, World.cell?_setCell_same', p0, p1]) rfl ⟨s3, A3, n3, c3, zs, rfl, HS.out.1.put2 HS.out.2.2.1 HS.out.2.2.2 (by rw [LT, wterms_sum]; simp), (HS.out.2.1.setCell (p := ⟨w.heap.size + 2, 0, none⟩) (by show w.heap.size ≤ w.heap.size + 2; omega) _).setCell (p := ⟨w.heap.size + 2, 1, none⟩) (by show w.heap.size ≤ w.heap.size + 2; omega) _⟩
end Go.Proofs.YtalcikmngglplaaDoor
