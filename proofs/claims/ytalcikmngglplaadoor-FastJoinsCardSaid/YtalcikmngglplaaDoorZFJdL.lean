/- Lists of numbers that a law fills: what FastJoined gathers. -/
import Derived.Test.YtalcikmngglplaaDoorZFJoin
import Derived.Test.YtalcikmngglplaaDoorZFSplit
import Derived.Test.YtalcikmngglplaaDoorZRSplit
namespace Go.Proofs.YtalcikmngglplaaDoor
open Go.RowKit Go.Shelf
set_option linter.unusedVariables false
set_option linter.unusedSimpArgs false
set_option maxRecDepth 10000

/-- Block g is just the list of these numbers. -/
def LRow (W : World) (g : Nat) (sl : List (Option Addr × Nat × Nat)) : Prop := W.heap[g]? = some (.cells (svs sl).toArray 23 (0, 0))
theorem svs_length (sl : List (Option Addr × Nat × Nat)) : (svs sl).length = sl.length := by simp [svs]
theorem lrow_own {w : World} {base g n : Nat} {sl : List (Option Addr × Nat × Nat)} (h : w.ownsRow base 23 1 (.slice (some ⟨g, 0, none⟩) n n) n (svs sl)) : LRow w g sl := by
  rcases h.2 with ⟨hv, h0⟩ | ⟨g', cap, cur, hv, _, hh, _, _, hcs, ht⟩
  · injection hv with hv
    cases hv
  · injection hv with h1 h2 h3
    injection h1 with h1
    injection h1 with h1
    subst h1
    subst h3
    rw [Nat.mul_one] at hcs ht
    rw [List.take_of_length_le (by simp; omega)] at ht
    rw [LRow, ← ht]
    exact hh
theorem lrow_zeros {w1 : World} {n g B : Nat} (h : w1.ownsRow B 23 1 (.slice (some ⟨g, 0, none⟩) n n) n (madeCells #[Value.slice none 0 0] n).toList) : LRow w1 g (List.replicate n (none, 0, 0)) := by
  have hu : (madeCells #[Value.slice none 0 0] n).toList = svs (List.replicate n (none, 0, 0)) := by
    refine List.ext_getElem (by simp [madeCells, svs]) (fun i h1 h2 => ?_)
    simp [madeCells, svs, Nat.mod_one]
  rw [hu] at h
  exact lrow_own h
theorem LRow.lt {W : World} {g : Nat} {sl : List (Option Addr × Nat × Nat)} (h : LRow W g sl) : g < W.heap.size := (Array.getElem?_eq_some_iff.1 h).1
theorem LRow.cell {W : World} {g : Nat} {sl : List (Option Addr × Nat × Nat)} (h : LRow W g sl) {i : Nat} {s : Option Addr × Nat × Nat} (hi : sl[i]? = some s) : W.cell? ⟨g, i, none⟩ = some (.slice s.1 s.2.1 s.2.2) := by
  rw [cell_of_row W g i _ _ _ h]
  simpa using svs_get hi
theorem LRow.frozen {W : World} {g : Nat} {sl : List (Option Addr × Nat × Nat)} (h : LRow W g sl) (i : Nat) : W.frozen? ⟨g, i, none⟩ = false := by
  unfold LRow at h
  simp [World.frozen?, h]
theorem LRow.set {W : World} {g : Nat} {sl : List (Option Addr × Nat × Nat)} (h : LRow W g sl) (i : Nat) (A : Option Addr) (n c : Nat) : LRow (W.setCell ⟨g, i, none⟩ (.slice A n c)) g (sl.set i (A, n, c)) := by
  unfold LRow at h ⊢
  simp [World.setCell, Array.getElem?_modify, h, svs, List.map_set]
theorem LRow.below {W W' : World} {g : Nat} {sl : List (Option Addr × Nat × Nat)} (h : LRow W g sl) (hb : Below W.heap.size W W') : LRow W' g sl := (hb.block g h.lt).trans h
theorem LRow.rd {W : World} {g : Nat} {sl : List (Option Addr × Nat × Nat)} (h : LRow W g sl) : Rd W W.heap.size (some ⟨g, 0, none⟩) (svs sl) := fun _ => ⟨g, 0, rfl, h.lt, fun j u hj => by rw [Nat.zero_add, cell_of_row W g j _ _ _ h]; simpa using hj⟩
/-- a row of words does not lie in that block -/
theorem LRow.off {W : World} {g base n : Nat} {sl : List (Option Addr × Nat × Nat)} {v : Value} {vs : List Value} (h : LRow W g sl) (ho : W.ownsRow base 24 1 v n vs) : v.ownBlock ≠ some g := by
  intro hg
  rcases ho.2 with ⟨rfl, _⟩ | ⟨g1, cap, cur, rfl, _, hh, _⟩
  · cases hg
  · have e1 : g1 = g := by simpa [Value.ownBlock] using hg
    subst e1
    rw [show W.heap[g1]? = _ from h] at hh
    injection hh with hh
    injection hh with _ ht _
    exact absurd ht (by decide)
/-- the sums so far: their places, what they are, and how great they may be -/
def SmI (w W : World) (g : Nat) (sl : List (Option Addr × Nat × Nat)) (f : Nat → Nat) (M t : Nat) : Prop :=
  LRow W g sl ∧ sl.length = M ∧ NsL w W sl f ∧ (∀ i, i < M → f i ≤ t * B64 ^ 10) ∧ Below w.heap.size w W ∧ w.heap.size ≤ g
theorem SmI.keep {w W W' : World} {g : Nat} {sl : List (Option Addr × Nat × Nat)} {f : Nat → Nat} {M t : Nat} (h : SmI w W g sl f M t) (hb : Below W.heap.size W W') : SmI w W' g sl f M t :=
  ⟨h.1.below hb, h.2.1, h.2.2.1.below hb, h.2.2.2.1, h.2.2.2.2.1.trans (hb.mono h.2.2.2.2.1.size), h.2.2.2.2.2⟩
def upd (f : Nat → Nat) (i x : Nat) : Nat → Nat := fun j => if j = i then x else f j
theorem jsum_upd (f : Nat → Nat) (n i d : Nat) : ∀ M, i < M → jsum (upd f i (f i + d)) n M = jsum f n M + d * B64 ^ (n * i) := by
  have low : ∀ M, M ≤ i → jsum (upd f i (f i + d)) n M = jsum f n M := by
    intro M
    induction M with
    | zero => intro _; rfl
    | succ M ih => intro h; rw [jsum, jsum, ih (by omega)]; congr 2; simp [upd]; omega
  intro M
  induction M with
  | zero => intro h; omega
  | succ M ih =>
    intro h
    rw [jsum, jsum]
    rcases Nat.lt_or_ge i M with h1 | h1
    · rw [ih h1, show upd f i (f i + d) M = f M by simp [upd]; omega]
      omega
    · obtain rfl : i = M := by omega
      rw [low i (Nat.le_refl _), show upd f i (f i + d) i = f i + d by simp [upd], Nat.add_mul]
      omega
theorem SmI.set {w W : World} {g : Nat} {sl : List (Option Addr × Nat × Nat)} {f : Nat → Nat} {M t i d : Nat} {A : Option Addr} {n c : Nat} {zs : List Nat} (h : SmI w W g sl f M t) (hi : i < M) (hN : Nw w W (.slice A n c) n zs) (hc : Cn zs) (hv : V zs = f i + d) (hd : d ≤ B64 ^ 10) :
    SmI w (W.setCell ⟨g, i, none⟩ (.slice A n c)) g (sl.set i (A, n, c)) (upd f i (f i + d)) M (t + 1) := by
  refine ⟨h.1.set i A n c, by rw [List.length_set]; exact h.2.1, fun j s hj => ?_, fun j hj => ?_, h.2.2.2.2.1.setCell (p := ⟨g, i, none⟩) h.2.2.2.2.2 _, h.2.2.2.2.2⟩
  · have key : ∀ {B : Option Addr} {m e : Nat} {ys : List Nat}, Nw w W (.slice B m e) m ys → Nw w (W.setCell ⟨g, i, none⟩ (.slice A n c)) (.slice B m e) m ys := fun {B m e ys} hY =>
      ⟨hY.1, hY.2.1, own_off hY.2.2 (grown_set W g i _) (fun r e => by injection e with e; subst e; exact h.1.off hY.2.2)⟩
    rcases Nat.lt_or_ge i sl.length with h1 | h1
    · by_cases hij : i = j
      · subst hij
        rw [List.getElem?_set_self h1] at hj
        injection hj with hj
        subst hj
        exact ⟨zs, key hN, hc, by simp [upd, hv]⟩
      · rw [List.getElem?_set_ne hij] at hj
        obtain ⟨ys, h2, h3, h4⟩ := h.2.2.1 j s hj
        exact ⟨ys, key h2, h3, by rw [h4]; simp [upd]; omega⟩
    · have := h.2.1; omega
  · have h1 := h.2.2.2.1 j hj
    have h2 := h.2.2.2.1 i hi
    rw [Nat.add_mul, Nat.one_mul]
    unfold upd
    split <;> omega
end Go.Proofs.YtalcikmngglplaaDoor
