/- The arithmetic of the law FastPoints. -/
import Derived.Test.YtalcikmngglplabDoorZFToA
import Derived.Test.YtalcikmngglplabDoorZFAwM
import Derived.Test.YtalcikmngglplabDoorZLIg
namespace Go.Proofs.YtalcikmngglplabDoor
open Go.RowKit Go.Shelf
set_option linter.unusedVariables false
set_option linter.unusedSimpArgs false
set_option maxRecDepth 10000

/-- coefficient i of a list of integers -/
def cf (al : List Sn) (i : Nat) : Int := match al[i]? with | some a => a.v | none => 0
theorem cf_get {al : List Sn} {i : Nat} {a : Sn} (h : al[i]? = some a) : cf al i = a.v := by simp [cf, h]
theorem cf_out {al : List Sn} {i : Nat} (h : al.length ≤ i) : cf al i = 0 := by simp [cf, List.getElem?_eq_none h]
theorem valZ3 {al : List Sn} (h : al.length ≤ 3) : valZ al = [cf al 0, cf al 1, cf al 2, 0, 0] := by
  have h3 : cf al 3 = 0 := cf_out h
  have h4 : cf al 4 = 0 := cf_out (by omega)
  show [cf al 0, cf al 1, cf al 2, cf al 3, cf al 4] = _
  rw [h3, h4]
theorem cfv_lt {al : List Sn} {k : Nat} (h : ∀ a ∈ al, a.v.natAbs < B64 ^ k) (i : Nat) : (cf al i).natAbs < B64 ^ k := by
  rcases Nat.lt_or_ge i al.length with hi | hi
  · rw [cf_get (List.getElem?_eq_getElem hi)]
    exact h _ (List.getElem_mem hi)
  · rw [cf_out hi]
    exact Nat.pow_pos B64_pos
/-- the five values of a polynomial of degree 2, and its product with another one -/
def val3 (x y z : Int) : List Int := valS x y z 0 0
theorem fiveS_val (x y z : Int) : fiveS [x, y, z, 0, 0] = val3 x y z := rfl
def pcv (x y z a b c : Int) : List Int := [x * a, x * b + y * a, x * c + y * b + z * a, y * c + z * b, z * c]
theorem val_mul (x y z a b c : Int) : [x * a, (x + y + z + 0 + 0) * (a + b + c + 0 + 0), (x - y + z - 0 + 0) * (a - b + c - 0 + 0), (x + 2 * y + 4 * z + 8 * 0 + 16 * 0) * (a + 2 * b + 4 * c + 8 * 0 + 16 * 0), z * c] = valS (x * a) (x * b + y * a) (x * c + y * b + z * a) (y * c + z * b) (z * c) := by
  simp only [valS, List.cons.injEq, and_true, true_and]
  refine ⟨?_, ?_, ?_⟩ <;> grind
theorem val3_lt {x y z : Int} {k : Nat} (hx : x.natAbs < B64 ^ k) (hy : y.natAbs < B64 ^ k) (hz : z.natAbs < B64 ^ k) : ∀ s ∈ val3 x y z, s.natAbs < B64 ^ (k + 1) := by
  have h1 : B64 ^ k * 8 ≤ B64 ^ (k + 1) := by rw [Nat.pow_succ]; exact Nat.mul_le_mul_left _ (by decide)
  intro s hs
  simp only [val3, valS, List.mem_cons, List.not_mem_nil, or_false] at hs
  generalize B64 ^ k = p at *
  generalize B64 ^ (k + 1) = q at *
  rcases hs with rfl | rfl | rfl | rfl | rfl <;> omega
theorem mulI_lt {x y : Int} {j k : Nat} (hx : x.natAbs < B64 ^ j) (hy : y.natAbs < B64 ^ k) : (x * y).natAbs < B64 ^ (j + k) := by
  rw [Int.natAbs_mul, Nat.pow_add]
  exact Nat.mul_lt_mul'' hx hy
theorem pcv_lt {x y z a b c : Int} (hx : x.natAbs < B64 ^ 6) (hy : y.natAbs < B64 ^ 6) (hz : z.natAbs < B64 ^ 6) (ha : a.natAbs < B64 ^ 6) (hb : b.natAbs < B64 ^ 6) (hc : c.natAbs < B64 ^ 6) : ∀ s ∈ pcv x y z a b c, s.natAbs < B64 ^ 13 := by
  have h1 : B64 ^ 12 * 8 ≤ B64 ^ 13 := by decide
  have m1 := mulI_lt hx ha
  have m2 := mulI_lt hx hb
  have m3 := mulI_lt hx hc
  have m4 := mulI_lt hy ha
  have m5 := mulI_lt hy hb
  have m6 := mulI_lt hy hc
  have m7 := mulI_lt hz ha
  have m8 := mulI_lt hz hb
  have m9 := mulI_lt hz hc
  simp only [show 6 + 6 = 12 from rfl] at m1 m2 m3 m4 m5 m6 m7 m8 m9
  intro s hs
  simp only [pcv, List.mem_cons, List.not_mem_nil, or_false] at hs
  generalize B64 ^ 12 = p at *
  generalize B64 ^ 13 = q at *
  rcases hs with rfl | rfl | rfl | rfl | rfl <;> omega
/-- one product more in its place -/
def put1 (S : List Int) (j : Nat) (d : Int) : List Int := S.set j (S.getD j 0 + d)
def prow (al bl : List Sn) (i : Nat) (S : List Int) : Nat → List Int
  | 0 => S
  | k + 1 => put1 (prow al bl i S k) (i + k) (cf al i * cf bl k)
def pall (al bl : List Sn) : Nat → List Int
  | 0 => [0, 0, 0, 0, 0]
  | i + 1 => prow al bl i (pall al bl i) bl.length
theorem pall_cv {al bl : List Sn} (h : al.length ≤ 3) (h' : bl.length ≤ 3) : pall al bl al.length = pcv (cf al 0) (cf al 1) (cf al 2) (cf bl 0) (cf bl 1) (cf bl 2) := by
  have ka : ∀ i, al.length ≤ i → cf al i = 0 := fun i hi => cf_out hi
  have kb : ∀ i, bl.length ≤ i → cf bl i = 0 := fun i hi => cf_out hi
  rcases (show al.length = 0 ∨ al.length = 1 ∨ al.length = 2 ∨ al.length = 3 by omega) with e | e | e | e <;>
  rcases (show bl.length = 0 ∨ bl.length = 1 ∨ bl.length = 2 ∨ bl.length = 3 by omega) with f | f | f | f <;>
  (rw [e] at ka ⊢; rw [f] at kb
   try rw [ka 0 (by omega)]
   try rw [ka 1 (by omega)]
   try rw [ka 2 (by omega)]
   try rw [kb 0 (by omega)]
   try rw [kb 1 (by omega)]
   try rw [kb 2 (by omega)]
   simp only [pall, prow, put1, pcv, f, List.set_cons_zero, List.set_cons_succ, List.getD_cons_zero, List.getD_cons_succ, Nat.zero_add, Nat.add_zero, Nat.reduceAdd, Int.mul_zero, Int.zero_mul, Int.zero_add, Int.add_zero])
/-- the greatest product is the fifth value -/
theorem cf_last {al bl : List Sn} (h : al.length ≤ 3) (h' : bl.length ≤ 3) : cf al 2 * cf bl 2 = if al.length = 3 ∧ bl.length = 3 then cf al 2 * cf bl 2 else 0 := by
  split
  · rfl
  · rename_i hn
    rcases (show al.length ≤ 2 ∨ bl.length ≤ 2 by omega) with e | e
    · rw [cf_out e, Int.zero_mul]
    · rw [cf_out e, Int.mul_zero]
theorem put1_len (S : List Int) (j : Nat) (d : Int) : (put1 S j d).length = S.length := by simp [put1]
theorem put1_lt {S : List Int} {j : Nat} {d : Int} {t P : Nat} (h : ∀ s ∈ S, s.natAbs ≤ t * P) (hd : d.natAbs ≤ P) : ∀ s ∈ put1 S j d, s.natAbs ≤ (t + 1) * P := fun s hs => by
  rw [Nat.add_mul, Nat.one_mul]
  rcases List.mem_or_eq_of_mem_set hs with h1 | h1
  · exact Nat.le_trans (h s h1) (Nat.le_add_right _ _)
  · have h2 : (S.getD j 0).natAbs ≤ t * P := by
      rw [List.getD_eq_getElem?_getD]
      cases e : S[j]? with
      | none => simp
      | some x => simpa using h x (List.mem_of_getElem? e)
    rw [h1]
    exact Nat.le_trans (Int.natAbs_add_le _ _) (Nat.add_le_add h2 hd)
theorem prow_lt {al bl : List Sn} {P i t : Nat} {S : List Int} (hP : ∀ i k, (cf al i * cf bl k).natAbs ≤ P) (h : ∀ s ∈ S, s.natAbs ≤ t * P) : ∀ k, ∀ s ∈ prow al bl i S k, s.natAbs ≤ (t + k) * P
  | 0 => h
  | k + 1 => put1_lt (prow_lt hP h k) (hP i k)
theorem pall_lt {al bl : List Sn} {P : Nat} (hP : ∀ i k, (cf al i * cf bl k).natAbs ≤ P) (hb : bl.length ≤ 3) : ∀ i, ∀ s ∈ pall al bl i, s.natAbs ≤ (3 * i) * P
  | 0 => fun s hs => by
    simp only [pall, List.mem_cons, List.not_mem_nil, or_false, or_self] at hs
    rw [hs]; exact Nat.zero_le _
  | i + 1 => fun s hs => Nat.le_trans (prow_lt hP (pall_lt hP hb i) bl.length s hs) (Nat.mul_le_mul_right _ (by omega))
theorem prow_big {al bl : List Sn} {i k : Nat} (ha : ∀ a ∈ al, a.v.natAbs < B64 ^ 6) (hb : ∀ a ∈ bl, a.v.natAbs < B64 ^ 6) (hl : bl.length ≤ 3) (hi : i ≤ 3) (hk : k ≤ 3) : ∀ s ∈ prow al bl i (pall al bl i) k, s.natAbs < B64 ^ 13 := fun s hs => by
  have hP : ∀ i k, (cf al i * cf bl k).natAbs ≤ B64 ^ 12 := fun i k => Nat.le_of_lt (mulI_lt (cfv_lt ha i) (cfv_lt hb k))
  have h1 := prow_lt hP (pall_lt hP hl i) k s hs
  have h2 : (3 * i + k) * B64 ^ 12 ≤ 12 * B64 ^ 12 := Nat.mul_le_mul_right _ (by omega)
  have h3 : 12 * B64 ^ 12 < B64 ^ 13 := by decide
  omega
end Go.Proofs.YtalcikmngglplabDoor
