/- Signed numbers and terms, as they lie in memory. -/
import Derived.Test.YtelenmfajhamlaaDoorZFHalf
import Derived.Test.YtelenmfajhamlaaDoorZFAdd
namespace Go.Proofs.YtelenmfajhamlaaDoor
open Go.RowKit Go.Shelf
set_option linter.unusedVariables false
set_option linter.unusedSimpArgs false
set_option maxRecDepth 10000

/-- a term: its value's sign, its words (where they lie, and what they are), its weight, its place -/
structure Tm where
  neg : Bool
  A : Option Addr
  n : Nat
  c : Nat
  xs : List Nat
  wt : Int
  pl : Nat
abbrev sgV (s : Bool) (A : Option Addr) (n c : Nat) : Value := .agg #[.bool s, .slice A n c]
abbrev tmV (t : Tm) : Value := .agg #[.bool t.neg, .slice t.A t.n t.c, .int .i64 t.wt, .int .i64 (t.pl : Int)]
/-- its four cells -/
def tcs (t : Tm) : List Value := [.bool t.neg, .slice t.A t.n t.c, .int .i64 t.wt, .int .i64 (t.pl : Int)]
def tvs (ts : List Tm) : List Value := ts.flatMap tcs
def sgn (s : Bool) (x : Nat) : Int := if s then -(x : Int) else x
/-- what it adds to the sum -/
def tval (t : Tm) : Int := sgn t.neg (V t.xs) * t.wt * ((B64 ^ t.pl : Nat) : Int)
def tsum (ts : List Tm) : Int := (ts.map tval).sum
/-- the slice holds these terms, whose words are canonical numbers -/
def Tl (w : World) (A : Option Addr) (m c : Nat) (ts : List Tm) : Prop :=
  ts.length = m ∧ m ≤ c ∧ c ≤ 9223372036854775807 ∧ Rd w w.heap.size A (tvs ts) ∧ ∀ t ∈ ts, Sl w t.A t.n t.c t.xs
theorem tcs_get (ts : List Tm) (i j : Nat) (t : Tm) (u : Value) (hi : ts[i]? = some t) (hj : (tcs t)[j]? = some u) : (tvs ts)[4 * i + j]? = some u := by
  induction ts generalizing i with
  | nil => simp at hi
  | cons a al ih =>
    have hl : (tcs a).length = 4 := rfl
    cases i with
    | zero =>
      simp at hi
      subst hi
      have hj4 : j < 4 := by
        rcases Nat.lt_or_ge j 4 with h | h
        · exact h
        · rw [List.getElem?_eq_none (by rw [hl]; exact h)] at hj; cases hj
      rw [tvs, List.flatMap_cons, Nat.mul_zero, Nat.zero_add, List.getElem?_append_left (by rw [hl]; exact hj4)]
      exact hj
    | succ i =>
      rw [List.getElem?_cons_succ] at hi
      rw [tvs, List.flatMap_cons, List.getElem?_append_right (by rw [hl]; omega), hl, show 4 * (i + 1) + j - 4 = 4 * i + j by omega]
      exact ih i hi
theorem Tl.below {w w' : World} {A : Option Addr} {m c : Nat} {ts : List Tm} (h : Tl w A m c ts) (hb : Below w.heap.size w w') : Tl w' A m c ts :=
  ⟨h.1, h.2.1, h.2.2.1, (h.2.2.2.1.below hb).more hb.size, fun t ht => (h.2.2.2.2 t ht).below hb⟩
/-- the four cells of term i -/
theorem Tl.at {w : World} {A : Option Addr} {m c : Nat} {ts : List Tm} (h : Tl w A m c ts) {i : Nat} {t : Tm} (hi : ts[i]? = some t) :
    ∃ b o, A = some ⟨b, o, none⟩ ∧ b < w.heap.size ∧ w.cell? ⟨b, o + i * 4, none⟩ = some (.bool t.neg) ∧ w.cell? ⟨b, o + i * 4 + 1, none⟩ = some (.slice t.A t.n t.c) ∧ w.cell? ⟨b, o + i * 4 + 2, none⟩ = some (.int .i64 t.wt) ∧ w.cell? ⟨b, o + i * 4 + 3, none⟩ = some (.int .i64 (t.pl : Int)) := by
  have h0 := tcs_get ts i 0 t (.bool t.neg) hi rfl
  have h1 := tcs_get ts i 1 t (.slice t.A t.n t.c) hi rfl
  have h2 := tcs_get ts i 2 t (.int .i64 t.wt) hi rfl
  have h3 := tcs_get ts i 3 t (.int .i64 (t.pl : Int)) hi rfl
  obtain ⟨b, o, e, hb, hc⟩ := h.2.2.2.1 (by intro h; rw [h] at h0; simp at h0)
  exact ⟨b, o, e, hb, by rw [show o + i * 4 = o + (4 * i + 0) by omega]; exact hc _ _ h0, by rw [show o + i * 4 + 1 = o + (4 * i + 1) by omega]; exact hc _ _ h1, by rw [show o + i * 4 + 2 = o + (4 * i + 2) by omega]; exact hc _ _ h2, by rw [show o + i * 4 + 3 = o + (4 * i + 3) by omega]; exact hc _ _ h3⟩
theorem tsum_succ (ts : List Tm) (k : Nat) (h : k < ts.length) : tsum (ts.take (k + 1)) = tsum (ts.take k) + tval ts[k] := by
  simp only [tsum]
  rw [List.take_succ_eq_append_getElem h, List.map_append, List.sum_append]
  simp
theorem sgn_abs (s : Bool) (x : Nat) : (sgn s x).natAbs = x := by cases s <;> simp [sgn]
/-- the weights, together -/
def wsum (ts : List Tm) : Nat := (ts.map fun t => t.wt.natAbs).sum
theorem tval_abs (t : Tm) {l : Nat} (hx : V t.xs < B64 ^ t.n) (h : t.pl + t.n ≤ l) : (tval t).natAbs ≤ t.wt.natAbs * B64 ^ l := by
  rw [tval, Int.natAbs_mul, Int.natAbs_mul, sgn_abs, Int.natAbs_natCast]
  have h1 : V t.xs * B64 ^ t.pl ≤ B64 ^ l := by
    refine Nat.le_trans (Nat.mul_le_mul_right _ (Nat.le_of_lt hx)) ?_
    rw [← Nat.pow_add]
    exact Nat.pow_le_pow_right B64_pos (by omega)
  rw [Nat.mul_comm (V t.xs), Nat.mul_assoc]
  exact Nat.mul_le_mul_left _ h1
theorem tsum_abs (ts : List Tm) (l : Nat) (h : ∀ t ∈ ts, V t.xs < B64 ^ t.n ∧ t.pl + t.n ≤ l) : (tsum ts).natAbs ≤ wsum ts * B64 ^ l := by
  induction ts with
  | nil => simp [tsum]
  | cons a al ih =>
    have h1 := tval_abs a (h a (by simp)).1 (h a (by simp)).2
    have h2 := ih (fun t ht => h t (by simp [ht]))
    rw [show tsum (a :: al) = tval a + tsum al by simp [tsum], show wsum (a :: al) = a.wt.natAbs + wsum al by simp [wsum], Nat.add_mul]
    exact Nat.le_trans (Int.natAbs_add_le _ _) (Nat.add_le_add h1 h2)
/-- half of what a word holds -/
def H63 : Nat := 9223372036854775808
theorem B_half : B64 = 2 * H63 := rfl
/-- the row is S, but for a multiple of what it holds -/
def ModR (us : List Nat) (N : Nat) (S : Int) : Prop := ∃ q : Int, (V us : Int) = S + q * ((B64 ^ N : Nat) : Int)
theorem ModR.add {us vs : List Nat} {N q T : Nat} {S : Int} (h : ModR us N S) (e : V vs + q * B64 ^ N = V us + T) : ModR vs N (S + T) := by
  obtain ⟨p, hp⟩ := h
  refine ⟨p - q, ?_⟩
  have e2 : (V vs : Int) + (q : Int) * ((B64 ^ N : Nat) : Int) = (V us : Int) + T := by exact_mod_cast e
  rw [Int.sub_mul]
  omega
theorem ModR.sub {us vs : List Nat} {N q T : Nat} {S : Int} (h : ModR us N S) (e : V vs + T = V us + q * B64 ^ N) : ModR vs N (S - T) := by
  obtain ⟨p, hp⟩ := h
  refine ⟨p + q, ?_⟩
  have e2 : (V vs : Int) + T = (V us : Int) + (q : Int) * ((B64 ^ N : Nat) : Int) := by exact_mod_cast e
  rw [Int.add_mul]
  omega
theorem tval_same (t : Tm) (h : t.neg = decide (t.wt < 0)) : tval t = ((t.wt.natAbs * V t.xs * B64 ^ t.pl : Nat) : Int) := by
  rw [tval, h, Int.natCast_mul, Int.natCast_mul, sgn]
  by_cases hw : t.wt < 0
  · rw [decide_eq_true hw, if_pos rfl, show ((t.wt.natAbs : Nat) : Int) = -t.wt by omega]
    generalize ((B64 ^ t.pl : Nat) : Int) = p
    grind
  · rw [decide_eq_false hw, if_neg (by decide), show ((t.wt.natAbs : Nat) : Int) = t.wt by omega, Int.mul_comm (V t.xs : Int)]
theorem tval_other (t : Tm) (h : t.neg = !decide (t.wt < 0)) : tval t = -((t.wt.natAbs * V t.xs * B64 ^ t.pl : Nat) : Int) := by
  rw [tval, h, Int.natCast_mul, Int.natCast_mul, sgn]
  by_cases hw : t.wt < 0
  · rw [decide_eq_true hw, if_neg (by decide), show ((t.wt.natAbs : Nat) : Int) = -t.wt by omega, Int.neg_mul, Int.neg_mul, Int.neg_neg, Int.mul_comm (V t.xs : Int)]
  · rw [decide_eq_false hw, if_pos (by decide), show ((t.wt.natAbs : Nat) : Int) = t.wt by omega, Int.neg_mul, Int.neg_mul, Int.mul_comm (V t.xs : Int)]
/-- what the highest word tells -/
theorem sum_top {us : List Nat} {l t : Nat} {S : Int} {W : Nat} (hu : Ws us) (hl : us.length = l + 1) (ht : us[l]? = some t) (hM : ModR us (l + 1) S) (hS : S.natAbs ≤ W * B64 ^ l) (hW : W < H63) :
    (t < H63 → S = V us) ∧ (H63 ≤ t → S = (V us : Int) - ((B64 ^ (l + 1) : Nat) : Int) ∧ 0 < V us) := by
  obtain ⟨q, hq⟩ := hM
  have hk : l < us.length := by omega
  have h1 := V_take_succ us l hk
  rw [List.take_of_length_le (by omega)] at h1
  rw [List.getElem?_eq_getElem hk] at ht
  injection ht with ht
  rw [ht] at h1
  have h2 := V_lt _ (Ws_take hu l)
  rw [List.length_take, Nat.min_eq_left (by omega)] at h2
  have h3 := V_lt _ hu
  rw [hl] at h3
  have hP : 0 < B64 ^ l := Nat.pow_pos B64_pos
  have h4 : B64 ^ (l + 1) = 2 * (H63 * B64 ^ l) := by rw [Nat.pow_succ, Nat.mul_comm, B_half, Nat.mul_assoc]
  have h5 : W * B64 ^ l < H63 * B64 ^ l := Nat.mul_lt_mul_of_pos_right hW hP
  obtain ⟨M, hM⟩ : ∃ M, M = H63 * B64 ^ l := ⟨_, rfl⟩
  have h6 := top_half (lo := V (us.take l)) (t := t) (H := H63) h2 hM
  rw [← h1] at h6
  rw [← hM] at h4 h5
  rw [h4] at h3 hq ⊢
  have h7 := sum_end (M := M) (x := V us) (S := S) (q := q) h3 (by rw [hq]; simp) (by omega) (by omega)
  exact ⟨fun h => h7.1 (h6.2 h), fun h => by
    have h9 : M ≤ V us := by
      rcases Nat.lt_or_ge (V us) M with h8 | h8
      · exact absurd (h6.1 h8) (by omega)
      · exact h8
    refine ⟨?_, by omega⟩
    rw [h7.2 h9]
    simp⟩
theorem row_own {w : World} {base g n : Nat} {zs : List Nat} (h : w.ownsRow base 74 1 (.slice (some ⟨g, 0, none⟩) n n) n (uvs zs)) : RowAt w g zs := by
  rcases h.2 with ⟨hv, h0⟩ | ⟨g', cap, cur, hv, _, hh, _, _, hcs, ht⟩
  · injection hv with hv
    cases hv
  · injection hv with h1 h2 h3
    injection h1 with h1
    injection h1 with h1
    subst h1
    subst h3
    rw [Nat.mul_one] at hcs ht
    rw [List.take_of_length_le (by simp; omega)] at ht
    unfold RowAt
    rw [hh, ← ht]
theorem Sl.alloc_ {w : World} {A : Option Addr} {n c : Nat} {xs : List Nat} (h : Sl w A n c xs) (o : Obj) : Sl (w.alloc o) A n c xs := h.below ((Below.refl _ w).alloc (Nat.le_refl _) o)
theorem AddR.gr {w W : World} {g N X : Nat} (h : AddR w W g N X) : w.grownBy W (some g) := by obtain ⟨_, _, h1, _⟩ := h; exact h1.2.2.2
theorem SubR.gr {w W : World} {g N X Y : Nat} (h : SubR w W g N X Y) : w.grownBy W (some g) := by obtain ⟨_, _, h1, _⟩ := h; exact h1.2.2.2
theorem cell_grown {w W : World} {r : Option Nat} {p : Addr} {u : Value} (h : w.grownBy W r) (hp : some p.block ≠ r) (hc : w.cell? p = some u) : W.cell? p = some u := h.cell hc hp
theorem new_at1 (w : World) (a b c d : Value) (t : TypeId) : (w.alloc (.cells #[a, b, c, d] t)).cell? ⟨w.heap.size, 1, none⟩ = some b := by simp
theorem new_at3 (w : World) (a b c d : Value) (t : TypeId) : (w.alloc (.cells #[a, b, c, d] t)).cell? ⟨w.heap.size, 3, none⟩ = some d := by simp
/-- between two rounds of the sum: the row is the sum of the terms so far -/
def SumI (w2 W : World) (g N : Nat) (us : List Nat) (S : Int) : Prop := FA w2 W g N us ∧ ModR us N S
theorem SumI.added {w2 wr w3 : World} {g N : Nat} {us : List Nat} {S : Int} {t : Tm} {o : Obj} (h : FA w2 wr g N us) (hm : ModR us N S) (ht : t.neg = decide (t.wt < 0)) (hA : AddR (wr.alloc o) w3 g N (V us + t.wt.natAbs * V t.xs * B64 ^ t.pl)) : ∃ vs, SumI w2 w3 g N vs (S + tval t) := by
  obtain ⟨vs, q, h1, h2⟩ := hA
  exact ⟨vs, ⟨h1.1, h1.2.1, h1.2.2.1, grown_trans (grown_trans h.2.2.2 (World.grownBy_alloc wr o (some g))) h1.2.2.2⟩, by rw [tval_same t ht]; exact hm.add h2⟩
theorem SumI.taken {w2 wr w3 : World} {g N : Nat} {us : List Nat} {S : Int} {t : Tm} {o : Obj} (h : FA w2 wr g N us) (hm : ModR us N S) (ht : t.neg = !decide (t.wt < 0)) (hA : SubR (wr.alloc o) w3 g N (V us) (t.wt.natAbs * V t.xs * B64 ^ t.pl)) : ∃ vs, SumI w2 w3 g N vs (S + tval t) := by
  obtain ⟨vs, q, h1, h2⟩ := hA
  exact ⟨vs, ⟨h1.1, h1.2.1, h1.2.2.1, grown_trans (grown_trans h.2.2.2 (World.grownBy_alloc wr o (some g))) h1.2.2.2⟩, by rw [tval_other t ht, ← Int.sub_eq_add_neg]; exact hm.sub h2⟩
/-- a signed number that is new, and what it is -/
def Sg (w W : World) (s : Bool) (A : Option Addr) (n c : Nat) (zs : List Nat) (S : Int) : Prop := Nw w W (.slice A n c) n zs ∧ Cn zs ∧ S = sgn s (V zs) ∧ (s = true → V zs ≠ 0)
/-- what sum answers -/
def SumR (w w' : World) (e : Ending) (S : Int) : Prop := ∃ s A n c zs, e = .returned (.agg #[.bool s, .slice A n c]) ∧ Sg w w' s A n c zs S ∧ Below w.heap.size w w'
end Go.Proofs.YtelenmfajhamlaaDoor
