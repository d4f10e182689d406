/- The contracts of nat.column's plus and next, of nat.wide; a column that lies in a block of its own. -/
import Derived.Test.YtekikolhnfofeaaWideP
import Derived.Test.YtekikolhnfofeaaNatM
import Derived.Test.YtekikolhnfofeaaMem
namespace Go.Proofs.Ytekikolhnfofeaa
open Go.RowKit
set_option linter.unusedVariables false
set_option maxRecDepth 10000

/-- the value of a column -/
def cv (l m h : Nat) : Nat := l + B64 * (m + B64 * h)
/-- how great a column may be -/
def B3 : Nat := B64 * (B64 * B64)
abbrev colV (l m h : Nat) : Value := .agg #[.int .u64 (l : Int), .int .u64 (m : Int), .int .u64 (h : Int)]

theorem cv_high {l m h : Nat} (hs : cv l m h < B3) : h < B64 := by
  unfold cv B3 at hs
  rcases Nat.lt_or_ge h B64 with h1 | h1
  · exact h1
  · have h2 : B64 * B64 ≤ B64 * h := Nat.mul_le_mul_left _ h1
    have h3 : B64 * (B64 * B64) ≤ B64 * (m + B64 * h) := Nat.mul_le_mul_left _ (by omega)
    omega
theorem col_sum {l m h l' m' h' s0 d0 s1 d1 : Nat} (e0 : l + l' = s0 + d0 * B64) (e1 : m + m' + d0 = s1 + d1 * B64) : cv l m h + cv l' m' h' = cv s0 s1 (h + (h' + d1)) := by
  unfold cv
  generalize B64 = b at *
  grind
theorem wide_cv {a b h l : Nat} (e : a * b = h * B64 + l) : cv l h 0 = a * b := by
  rw [e]
  unfold cv
  rw [Nat.mul_zero, Nat.add_zero, Nat.mul_comm]
  omega
theorem next_cv (l m h : Nat) (hl : l < B64) : cv m h 0 = cv l m h / B64 ∧ l = cv l m h % B64 := by
  unfold cv
  rw [Nat.mul_zero, Nat.add_zero]
  constructor
  · rw [Nat.add_mul_div_left _ _ B64_pos, Nat.div_eq_of_lt hl, Nat.zero_add]
  · rw [Nat.add_mul_mod_self_left, Nat.mod_eq_of_lt hl]

/-- block g holds a column, and may be written -/
def C3 (w : World) (g : Nat) (l m h : Nat) : Prop :=
  w.cell? ⟨g, 0, none⟩ = some (.int .u64 (l : Int)) ∧ w.cell? ⟨g, 1, none⟩ = some (.int .u64 (m : Int)) ∧ w.cell? ⟨g, 2, none⟩ = some (.int .u64 (h : Int)) ∧
  w.frozen? ⟨g, 0, none⟩ = false ∧ w.frozen? ⟨g, 1, none⟩ = false ∧ w.frozen? ⟨g, 2, none⟩ = false
section
variable {w w' : World} {g l m h : Nat}
theorem C3.lt (k : C3 w g l m h) : g < w.heap.size := World.block_lt_of_cell? w (a := ⟨g, 0, none⟩) k.1
theorem C3.block (k : C3 w g l m h) (hb : w'.heap[g]? = w.heap[g]?) : C3 w' g l m h :=
  ⟨(World.cell?_of_block (a := ⟨g, 0, none⟩) hb).trans k.1, (World.cell?_of_block (a := ⟨g, 1, none⟩) hb).trans k.2.1, (World.cell?_of_block (a := ⟨g, 2, none⟩) hb).trans k.2.2.1,
    (World.frozen?_of_block (a := ⟨g, 0, none⟩) hb).trans k.2.2.2.1, (World.frozen?_of_block (a := ⟨g, 1, none⟩) hb).trans k.2.2.2.2.1, (World.frozen?_of_block (a := ⟨g, 2, none⟩) hb).trans k.2.2.2.2.2⟩
theorem C3.below {B : Nat} (k : C3 w g l m h) (hb : Below B w w') (hg : g < B) : C3 w' g l m h := k.block (hb.block g hg)
theorem C3.new (w : World) (l m h : Nat) (t : TypeId) : C3 (w.alloc (.cells #[.int .u64 (l : Int), .int .u64 (m : Int), .int .u64 (h : Int)] t)) w.heap.size l m h := ⟨by simp, by simp, by simp, by simp, by simp, by simp⟩
theorem C3.alloc (k : C3 w g l m h) (o : Obj) : C3 (w.alloc o) g l m h := k.block (Below.heap_alloc w o g k.lt)
theorem C3.drewN (k : C3 w g l m h) (n : Nat) : C3 (w.drewN n) g l m h := k
/-- three stores -/
abbrev set3 (w : World) (g l m h : Nat) : World := ((w.setCell ⟨g, 0, none⟩ (.int .u64 (l : Int))).setCell ⟨g, 1, none⟩ (.int .u64 (m : Int))).setCell ⟨g, 2, none⟩ (.int .u64 (h : Int))
theorem C3.set (k : C3 w g l m h) (l' m' h' : Nat) : C3 (set3 w g l' m' h') g l' m' h' := by
  obtain ⟨c0, c1, c2, f0, f1, f2⟩ := k
  refine ⟨?_, ?_, ?_, by simp [set3, World.frozen?_setCell, f0], by simp [set3, World.frozen?_setCell, f1], by simp [set3, World.frozen?_setCell, f2]⟩
  · rw [set3, World.cell?_setCell_other _ _ _ _ (by simp), World.cell?_setCell_other _ _ _ _ (by simp), World.cell?_setCell_same' _ _ _ (by rw [c0]; rfl)]
  · rw [set3, World.cell?_setCell_other _ _ _ _ (by simp), World.cell?_setCell_same' _ _ _ (by rw [World.cell?_setCell_other _ _ _ _ (by simp), c1]; rfl)]
  · rw [set3, World.cell?_setCell_same' _ _ _ (by rw [World.cell?_setCell_other _ _ _ _ (by simp), World.cell?_setCell_other _ _ _ _ (by simp), c2]; rfl)]
theorem grown_set3 (w : World) (g l m h : Nat) : w.grownBy (set3 w g l m h) (some g) :=
  grown_trans (grown_trans (grown_set w g 0 _) (grown_set _ g 1 _)) (grown_set _ g 2 _)
theorem below_set3 {B : Nat} {w W : World} (hb : Below B w W) {g : Nat} (hg : B ≤ g) (l m h : Nat) : Below B w (set3 W g l m h) :=
  ((hb.setCell (p := ⟨g, 0, none⟩) hg _).setCell (p := ⟨g, 1, none⟩) hg _).setCell (p := ⟨g, 2, none⟩) hg _
end

set_option maxHeartbeats 1000000 in
theorem colplus_any (l m h l' m' h' : Nat) (hl : l < B64) (hm : m < B64) (hl' : l' < B64) (hm' : m' < B64) (hs : cv l m h + cv l' m' h' < B3) : ∃ l2 m2 h2 : Nat, (cv l2 m2 h2 = cv l m h + cv l' m' h' ∧ l2 < B64 ∧ m2 < B64 ∧ h2 < B64) ∧
    ∀ w, Calls Try.prog 102 #[colV l m h, colV l' m' h'] w fun e w' => e = .returned (colV l2 m2 h2) ∧ Below w.heap.size w w' := by
  obtain ⟨s0, d0, hf0, hc0⟩ := add64_zero l l' hl hl'
  obtain ⟨s1, d1, hf1, hc1⟩ := add64_any m m' d0 hm hm' hf0.2.2
  have hsum := col_sum (h := h) (h' := h') hf0.1 hf1.1
  rw [hsum] at hs
  have hlt := cv_high hs
  have h1 : (h' : Int) + (d1 : Int) = ((h' + d1 : Nat) : Int) := by omega
  have h2 : (h : Int) + ((h' + d1 : Nat) : Int) = ((h + (h' + d1) : Nat) : Int) := by omega
  obtain ⟨k1, hk1⟩ : ∃ k1, k1 = h' + d1 := ⟨_, rfl⟩
  obtain ⟨k2, hk2⟩ : ∃ k2, k2 = h + (h' + d1) := ⟨_, rfl⟩
  rw [← hk2] at hsum hlt h2
  rw [← hk1] at h1 h2
  have hw1 : IntKind.u64.wrap (k1 : Int) = (k1 : Int) := by rw [IntKind.wrap_u64]; have : B64 = 18446744073709551616 := rfl; omega
  have hw2 : IntKind.u64.wrap (k2 : Int) = (k2 : Int) := by rw [IntKind.wrap_u64]; have : B64 = 18446744073709551616 := rfl; omega
  refine ⟨s0, s1, k2, ⟨hsum.symm, hf0.2.1, hf1.2.1, hlt⟩, fun w => ?_⟩
  clear hsum hs hlt hk1 hk2 hf0 hf1 hl hm hl' hm'
  go_enter Try.func102, Try.ntmps102
  go_wp2
  exact bodyPost_ret (v := colV s0 s1 k2) (by simp [results, Try.results102, go_sem]) rfl ⟨rfl, (((Below.refl _ _).alloc (Nat.le_refl _) _).alloc (by simp) _).alloc (by simp; omega) _⟩

set_option maxHeartbeats 1000000 in
theorem wide_any (a b : Nat) (ha : a < B64) (hb : b < B64) : ∃ l m : Nat, (cv l m 0 = a * b ∧ l < B64 ∧ m < B64) ∧
    ∀ w, Calls Try.prog 103 #[.int .u64 a, .int .u64 b] w fun e w' => e = .returned (colV l m 0) ∧ Below w.heap.size w w' := by
  obtain ⟨h, l, hf, hc⟩ := Wide_ok a b ha hb
  have hh : h < B64 := high_lt B64 h l (by rw [← hf.1]; have := Nat.mul_lt_mul'' ha hb; exact this)
  refine ⟨l, h, ⟨wide_cv hf.1, hf.2, hh⟩, fun w => ?_⟩
  have Hc := Lib.hid hc
  clear hc hf hh ha hb
  go_enter Try.func103, Try.ntmps103
  go_wp2_with (fail)
  refine (Hc.out _).mono ?_
  rintro e w1 ⟨rfl, hb1⟩
  have hb2 : Below w.heap.size w w1 := ((Below.refl _ w).alloc (Nat.le_refl _) _).trans (hb1.mono (by simp))
  obtain ⟨c0, c1, c2, f0, f1, f2⟩ := (C3.new w 0 0 0 100).below hb1 (by simp)
  have H := Lib.hid hb2
  have e0 : (w1.setCell ⟨w.heap.size, 0, none⟩ (.int .u64 (l : Int))).cell? ⟨w.heap.size, 0, none⟩ = some (.int .u64 (l : Int)) := World.cell?_setCell_same' _ _ _ (by rw [c0]; rfl)
  have e1 : ((w1.setCell ⟨w.heap.size, 0, none⟩ (.int .u64 (l : Int))).setCell ⟨w.heap.size, 1, none⟩ (.int .u64 (h : Int))).cell? ⟨w.heap.size, 1, none⟩ = some (.int .u64 (h : Int)) := World.cell?_setCell_same' _ _ _ (by rw [World.cell?_setCell_other _ _ _ _ (by simp), c1]; rfl)
  have e2 : (((w1.setCell ⟨w.heap.size, 0, none⟩ (.int .u64 (l : Int))).setCell ⟨w.heap.size, 1, none⟩ (.int .u64 (h : Int))).setCell ⟨w.heap.size, 2, none⟩ (.int .u64 0)).cell? ⟨w.heap.size, 2, none⟩ = some (.int .u64 0) := World.cell?_setCell_same' _ _ _ (by rw [World.cell?_setCell_other _ _ _ _ (by simp), World.cell?_setCell_other _ _ _ _ (by simp), c2]; rfl)
  clear hb1 hb2
  go_wp2
  exact bodyPost_ret (v := colV l h 0) (by simp [results, Try.results103, go_sem, e0, e1, e2]) rfl ⟨rfl, below_set3 H.out (Nat.le_refl _) _ _ _⟩

set_option maxHeartbeats 400000 in
theorem next_any (l m h : Nat) (w : World) :
    Calls Try.prog 104 #[colV l m h] w fun e w' => e = .returned (colV m h 0) ∧ Below w.heap.size w w' := by
  go_enter Try.func104, Try.ntmps104
  go_wp2
  exact bodyPost_ret (v := colV m h 0) (by simp [results, Try.results104, go_sem]) rfl ⟨rfl, ((Below.refl _ _).alloc (Nat.le_refl _) _).alloc (by simp) _⟩
end Go.Proofs.Ytekikolhnfofeaa
