/- Integers as struct values: a sign and a number. -/
import Derived.Test.YtalcikmngglplaaDoorZFHalves
import Derived.Test.YtalcikmngglplaaDoorP1
import Derived.Test.YtalcikmngglplaaDoorZFFive
namespace Go.Proofs.YtalcikmngglplaaDoor
open Go.RowKit Go.Shelf
set_option linter.unusedVariables false
set_option linter.unusedSimpArgs false
set_option maxRecDepth 10000

/-- what a call answers that hands back the canonical integer z -/
def Zr (w w' : World) (e : Ending) (z : Int) : Prop := ∃ A n c zs, e = .returned (.agg #[.bool (decide (z < 0)), .slice A n c]) ∧ Nw w w' (.slice A n c) n zs ∧ Cn zs ∧ V zs = z.natAbs ∧ Below w.heap.size w w'
theorem Zr.open {w w' : World} {e : Ending} {z : Int} (h : Zr w w' e z) (hz : z.natAbs < Big) : ∃ A n c zs, e = .returned (.agg #[.bool (decide (z < 0)), .slice A n c]) ∧ Nu w w' A n c zs z.natAbs := by
  obtain ⟨A, n, c, zs, rfl, h1, h2, h3, h4⟩ := h
  obtain ⟨A', n', c', zs', e, h5⟩ := Nu.of (v := .slice A n c) ⟨n, zs, h1, h2, h3⟩ h4 hz
  injection e with e1 e2 e3
  subst e1 e2 e3
  exact ⟨A, n, c, zs', rfl, h5⟩
theorem Zr.from {w w0 w' : World} {e : Ending} {z : Int} (h : Zr w w' e z) (hb : Below w0.heap.size w0 w) : Zr w0 w' e z := by
  obtain ⟨A, n, c, zs, h0, h1, h2, h3, h4⟩ := h
  exact ⟨A, n, c, zs, h0, h1.later hb.size (Below.refl _ _), h2, h3, hb.trans (h4.mono hb.size)⟩
theorem Zr.of {w w' : World} {A : Option Addr} {n c x : Nat} {zs : List Nat} {g : Bool} {z : Int} (h : Nu w w' A n c zs x) (hg : (g && decide (0 < n)) = decide (z < 0)) (hx : x = z.natAbs) : Zr w w' (.returned (.agg #[.bool (g && decide (0 < n)), .slice A n c])) z := by
  obtain ⟨n', zs', h1, h2, h3⟩ := h.2.2.2.2.1
  obtain ⟨A', c', e, -⟩ := h1.sl
  injection e with e1 e2 e3
  subst e1 e2 e3
  rw [hg]
  exact ⟨_, _, _, zs', rfl, h1, h2, by rw [h3, hx], h.bel⟩
/-- a canonical number has words just if it is not 0 -/
theorem words_pos {w w' : World} {A : Option Addr} {n c x : Nat} {zs : List Nat} (h : Nu w w' A n c zs x) : 0 < n ↔ 0 < x := by
  have h1 := Cn_len h.1.2.2.2.1 h.2.1 0
  rw [h.1.1, h.2.2.1, Nat.pow_zero] at h1
  omega
theorem mk_sign {w w' : World} {A : Option Addr} {n c x : Nat} {zs : List Nat} {g : Bool} (h : Nu w w' A n c zs x) : (g && decide (0 < n)) = decide (sgn g x < 0) := by
  have h1 := words_pos h
  cases g with
  | false =>
    have : ¬ sgn false x < 0 := by simp [sgn]
    simp [this]
  | true =>
    rw [Bool.true_and]
    refine decide_eq_decide.2 ?_
    simp only [sgn, if_pos]
    omega
theorem sgn_nat (g : Bool) (x : Nat) : x = (sgn g x).natAbs := (sgn_abs g x).symm
theorem sgn_can (z : Int) : sgn (decide (z < 0)) z.natAbs = z := by
  by_cases h : z < 0
  · rw [decide_eq_true h]; simp only [sgn, if_pos]; omega
  · rw [decide_eq_false h]; simp only [sgn]; rw [if_neg (by decide)]; omega
theorem sgn_neg (g : Bool) (x : Nat) : sgn (!g) x = -sgn g x := by cases g <;> simp [sgn]
theorem sgn_prod (s t : Bool) (x y : Nat) : sgn (s != t) (x * y) = sgn s x * sgn t y := by
  cases s <;> cases t <;> simp [sgn, Int.neg_mul, Int.mul_neg]
theorem sgn_same {s : Bool} {x y : Nat} : sgn s (x + y) = sgn s x + sgn s y := by cases s <;> simp [sgn] <;> omega
theorem sgn_big {s t : Bool} {x y : Nat} (h : s ≠ t) (hl : y ≤ x) : sgn s (x - y) = sgn s x + sgn t y := by
  cases s <;> cases t <;> simp [sgn] at h ⊢ <;> omega
theorem sgn_small {s t : Bool} {x y : Nat} (h : s ≠ t) (hl : x ≤ y) : sgn t (y - x) = sgn s x + sgn t y := by
  cases s <;> cases t <;> simp [sgn] at h ⊢ <;> omega
/-- a slice of integers -/
def Zl (w : World) (A : Option Addr) (m c : Nat) (al : List Sn) : Prop :=
  al.length = m ∧ m ≤ c ∧ c ≤ 9223372036854775807 ∧ Rd w w.heap.size A (al.flatMap sncs) ∧ ∀ a ∈ al, Sl w a.A a.n a.c a.xs
theorem Zl.below {w w' : World} {A : Option Addr} {m c : Nat} {al : List Sn} (h : Zl w A m c al) (hb : Below w.heap.size w w') : Zl w' A m c al :=
  ⟨h.1, h.2.1, h.2.2.1, (h.2.2.2.1.below hb).more hb.size, fun t ht => (h.2.2.2.2 t ht).below hb⟩
theorem sncs_get : ∀ (al : List Sn) (i j : Nat) (a : Sn) (u : Value), al[i]? = some a → (sncs a)[j]? = some u → (al.flatMap sncs)[2 * i + j]? = some u
  | [], i, j, a, u, hi, hj => by simp at hi
  | b :: bl, 0, j, a, u, hi, hj => by
    simp at hi
    subst hi
    have hj2 : j < (sncs b).length := (List.getElem?_eq_some_iff.1 hj).1
    rw [List.flatMap_cons, Nat.mul_zero, Nat.zero_add, List.getElem?_append_left hj2]
    exact hj
  | b :: bl, i + 1, j, a, u, hi, hj => by
    rw [List.getElem?_cons_succ] at hi
    have hl : (sncs b).length = 2 := rfl
    rw [List.flatMap_cons, List.getElem?_append_right (by rw [hl]; omega), hl, show 2 * (i + 1) + j - 2 = 2 * i + j by omega]
    exact sncs_get bl i j a u hi hj
/-- the two cells of integer i -/
theorem Zl.at {w : World} {A : Option Addr} {m c : Nat} {al : List Sn} (h : Zl w A m c al) {i : Nat} {a : Sn} (hi : al[i]? = some a) :
    ∃ b o, A = some ⟨b, o, none⟩ ∧ b < w.heap.size ∧ w.cell? ⟨b, o + i * 2, none⟩ = some (.bool a.s) ∧ w.cell? ⟨b, o + i * 2 + 1, none⟩ = some (.slice a.A a.n a.c) := by
  have h0 := sncs_get al i 0 a (.bool a.s) hi rfl
  have h1 := sncs_get al i 1 a (.slice a.A a.n a.c) hi rfl
  obtain ⟨b, o, e, hb, hc⟩ := h.2.2.2.1 (by intro h; rw [h] at h0; simp at h0)
  exact ⟨b, o, e, hb, by rw [show o + i * 2 = o + (2 * i + 0) by omega]; exact hc _ _ h0, by rw [show o + i * 2 + 1 = o + (2 * i + 1) by omega]; exact hc _ _ h1⟩
/-- whether one of them is too large -/
def chkZ (al : List Sn) : Int := if al.any (fun a => decide (4096 < a.n)) = true then 2 else 0
theorem sncs_get2 : ∀ (R : List Sn) (k : Nat) {r : Sn}, R[k]? = some r → (R.flatMap sncs)[2 * k]? = some (.bool r.s) ∧ (R.flatMap sncs)[2 * k + 1]? = some (.slice r.A r.n r.c)
  | [], k, r, h => by simp at h
  | b :: bl, 0, r, h => by
    simp at h
    subst h
    exact ⟨rfl, rfl⟩
  | b :: bl, k + 1, r, h => by
    rw [List.getElem?_cons_succ] at h
    have hl : (sncs b).length = 2 := rfl
    have ih := sncs_get2 bl k h
    rw [List.flatMap_cons, List.getElem?_append_right (by rw [hl]; omega), List.getElem?_append_right (by rw [hl]; omega), hl, show 2 * (k + 1) - 2 = 2 * k by omega, show 2 * (k + 1) + 1 - 2 = 2 * k + 1 by omega]
    exact ih
theorem sncs_get2' (R : List Sn) (k : Nat) (hk : k < R.length) : ∃ x y, (R.flatMap sncs)[2 * k]? = some x ∧ (R.flatMap sncs)[2 * k + 1]? = some y := by
  have h := sncs_get2 R k (List.getElem?_eq_getElem hk)
  exact ⟨_, _, h.1, h.2⟩
end Go.Proofs.YtalcikmngglplaaDoor
