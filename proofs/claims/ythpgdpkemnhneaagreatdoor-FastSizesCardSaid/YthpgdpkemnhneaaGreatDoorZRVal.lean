/- The contract of reckonerref03.Value (of short lists). -/
import Derived.Test.YthpgdpkemnhneaaGreatDoorZRZM
import Derived.Test.YthpgdpkemnhneaaGreatDoorZLInts
import Derived.Test.YthpgdpkemnhneaaGreatDoorP8
namespace Go.Proofs.YthpgdpkemnhneaaGreatDoor
open Go.RowKit Go.Shelf
set_option linter.unusedVariables false
set_option linter.unusedSimpArgs false
set_option maxRecDepth 10000

/-- the value of the polynomial with these coefficients -/
def pvF (t : Int) : List Int → Int
  | [] => 0
  | a :: l => pvF t l * t + a
theorem pv_step {acc t z : Int} {k P : Nat} (ht : t.natAbs ≤ 10) (hz : z.natAbs ≤ P) (h : acc.natAbs ≤ P * 11 ^ k) : (acc * t + z).natAbs ≤ P * 11 ^ (k + 1) := by
  have h1 : (acc * t).natAbs ≤ P * 11 ^ k * 10 := by
    rw [Int.natAbs_mul]
    exact Nat.mul_le_mul h ht
  have h2 : P ≤ P * 11 ^ k := Nat.le_mul_of_pos_right P (Nat.pow_pos (by decide))
  rw [Nat.pow_succ, ← Nat.mul_assoc]
  generalize P * 11 ^ k = q at *
  omega
theorem pv_big {x : Int} {k : Nat} (h : x.natAbs ≤ B64 ^ 8 * 11 ^ k) (hk : k ≤ 9) : x.natAbs < B64 ^ 9 := by
  have h1 : B64 ^ 8 * 11 ^ k ≤ B64 ^ 8 * 11 ^ 9 := Nat.mul_le_mul_left _ (Nat.pow_le_pow_right (by decide) hk)
  have h2 : B64 ^ 8 * 11 ^ 9 < B64 ^ 9 := by decide
  omega
theorem va_len {w W : World} {a : Sn} {k n : Nat} (h : Nw w W (.slice a.A a.n a.c) a.n a.xs ∧ Cn a.xs ∧ a.s = decide (a.v < 0)) (hn : n = a.n) (hv : a.v.natAbs < B64 ^ k) : n ≤ k := by
  have hs := (h.1.sc h.2.1).1
  rw [Sn.v, sgn_abs] at hv
  have := (Cn_len hs.2.2.2.1 h.2.1 k).2 hv
  rw [hs.1] at this
  omega
theorem t_small {x : Int} (h : x.natAbs ≤ 10) : x.natAbs < B64 ^ 1 := by
  have : B64 ^ 1 = 18446744073709551616 := by decide
  omega
theorem va_mul {x t : Nat} (hx : x < B64 ^ 9) (ht : t ≤ 10) : x * t < B64 ^ 10 := by
  have h1 : x * t ≤ B64 ^ 9 * 10 := Nat.mul_le_mul (Nat.le_of_lt hx) ht
  have h2 : B64 ^ 9 * 10 < B64 ^ 10 := by decide
  omega
theorem mul_ltZ {w : World} {A A' : Option Addr} {n n' c c' : Nat} {xs ys : List Nat} (h : Sl w A n c xs) (h' : Sl w A' n' c' ys) (hs : n + n' ≤ 4096) : V xs * V ys < Big :=
  Big_of (k := n + n') (by rw [Nat.pow_add]; exact Nat.mul_lt_mul'' h.lt h'.lt) hs
theorem add_ltZ {w : World} {A A' : Option Addr} {n n' c c' : Nat} {xs ys : List Nat} (h : Sl w A n c xs) (h' : Sl w A' n' c' ys) (hs : n ≤ 20) (hs' : n' ≤ 20) : V xs + V ys < Big := by
  have h1 := Nat.lt_of_lt_of_le h.lt (Nat.pow_le_pow_right B64_pos hs)
  have h2 := Nat.lt_of_lt_of_le h'.lt (Nat.pow_le_pow_right B64_pos hs')
  refine Big_of (k := 21) ?_ (by omega)
  have h3 : B64 ^ 20 + B64 ^ 20 < B64 ^ 21 := by decide
  omega
theorem va_inj {s s' : Bool} {A A' : Option Addr} {n n' c c' : Nat} (h : (Value.agg #[.bool s, .slice A n c]) = .agg #[.bool s', .slice A' n' c']) : s = s' ∧ A = A' ∧ n = n' ∧ c = c' := by
  injection h with h
  simp at h
  exact ⟨h.1, h.2.1, h.2.2.1, h.2.2.2⟩
theorem Bk.off2 {W : World} {b g : Nat} {l : List Value} {u v : Value} (h : Bk W b l) (hg : b ≠ g) : Bk ((W.setCell ⟨g, 0, none⟩ u).setCell ⟨g, 1, none⟩ v) b l := fun j z hj => by
  have h0 := h j z hj
  exact ⟨by rw [World.cell?_setCell_other _ _ _ _ (by simp; try omega), World.cell?_setCell_other _ _ _ _ (by simp; try omega)]; exact h0.1, by rw [World.frozen?_setCell, World.frozen?_setCell]; exact h0.2⟩
/-- between two rounds: the sum so far, in its place -/
def VaI (w X W : World) (zs : List Int) (t : Int) (k : Nat) (a : Sn) : Prop :=
  Bk W (w.heap.size + 1) [.bool a.s, .slice a.A a.n a.c] ∧ Zn X W [a] ∧ a.v = pvF t (zs.drop k) ∧ a.v.natAbs ≤ B64 ^ 8 * 11 ^ (zs.length - k) ∧ Below w.heap.size w W ∧ Bk W w.heap.size [.bool false, .slice none 0 0] ∧ w.heap.size + 1 < W.heap.size

end Go.Proofs.YthpgdpkemnhneaaGreatDoor

