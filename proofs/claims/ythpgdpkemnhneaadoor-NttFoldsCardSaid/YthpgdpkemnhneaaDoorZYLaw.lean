/- What the laws of layer 4 begin with. -/
import Derived.Test.YthpgdpkemnhneaaDoorP14
import Derived.Test.YthpgdpkemnhneaaDoorZTabY
namespace Go.Proofs.YthpgdpkemnhneaaDoor
open Go.RowKit Go.Shelf
set_option linter.unusedVariables false
set_option linter.unusedSimpArgs false
set_option maxRecDepth 10000

theorem few4_row (A : Option Addr) (n c : Nat) (m : Nat) (xs : List Nat) (w : World) (hx : Sl w A n c xs) (hm : m ≤ 4096) :
    Calls Tryd.prog 9 #[.slice A n c, .int .i64 m] w fun e w' => ∃ A' k c' us, e = .returned (.slice A' k c') ∧ k ≤ m ∧ Sl w' A' k c' us ∧ us = xs.take m ∧ Nw w w' (.slice A' k c') k us ∧ Below w.heap.size w w' := by
  refine (yfew_ok A n c m xs w hx hm).mono ?_
  rintro e w' ⟨v, rfl, hn, hb⟩
  obtain ⟨A', c', rfl, hs⟩ := hn.sl
  exact ⟨A', min m n, c', _, rfl, Nat.min_le_left _ _, hs, rfl, hn, hb⟩
/-- two rows, as they stand, and the tables -/
def RowY (w wr : World) (A1 A2 : Option Addr) (k1 k2 d1 d2 : Nat) (us vs : List Nat) : Prop := Sl wr A1 k1 d1 us ∧ Sl wr A2 k2 d2 vs ∧ TabY wr ∧ Below w.heap.size w wr
theorem RowY.keep {w wr w' : World} {A1 A2 : Option Addr} {k1 k2 d1 d2 : Nat} {us vs : List Nat} (h : RowY w wr A1 A2 k1 k2 d1 d2 us vs) (hb : Below wr.heap.size wr w') : RowY w w' A1 A2 k1 k2 d1 d2 us vs :=
  ⟨h.1.below hb, h.2.1.below hb, h.2.2.1.below hb, h.2.2.2.trans (hb.mono h.2.2.2.size)⟩
theorem mul_lt4 {w : World} {A A' : Option Addr} {n n' c c' : Nat} {xs ys : List Nat} (h : Sl w A n c xs) (h' : Sl w A' n' c' ys) (hs : n + n' ≤ 4096) : V xs * V ys < Big :=
  Big_of (k := n + n') (by rw [Nat.pow_add]; exact Nat.mul_lt_mul'' h.lt h'.lt) hs
theorem Is_nu4 {w w0 : World} {A A' : Option Addr} {n n' c c' x : Nat} {zs zs' : List Nat} (h : Nu w0 w A n c zs x) (h' : Sl w A' n' c' zs') (hn : n' ≤ 4096) (hv : V zs' = x) :
    Calls Tryd.prog 29 #[.slice A n c, .slice A' n' c'] w fun e w' => e = .returned (.bool true) ∧ Below w.heap.size w w' :=
  Is_ok A A' n n' c c' zs zs' w h.2.2.2.1 hn h.1 h' h.2.1 (by rw [h.2.2.1, hv])
set_option maxHeartbeats 400000 in
theorem YMul_err (A A' : Option Addr) (n n' c c' : Nat) (w : World) (h : 4096 < n ∨ 4096 < n') :
    Calls Tryd.prog 45 #[.slice A n c, .slice A' n' c'] w fun e w' => e = .returned (.tuple #[.slice none 0 0, .int .i64 2]) ∧ Below w.heap.size w w' := by
  have Hk := Lib.hid (chkS_two_big (A := A) (A' := A') (c := c) (c' := c') h)
  clear h
  go_enter Tryd.func45, Tryd.ntmps45
  go_wp2_with (fail)
  refine (checkSizes_two A A' _ _ c c' _ _ w rfl).mono ?_
  rintro e w1 ⟨rfl, hb1⟩
  rw [Hk.out]
  have H1 := Lib.hid hb1
  clear hb1
  go_wp2_with (fail)
  go_ret2
  exact ⟨rfl, H1.out⟩
set_option maxHeartbeats 400000 in
theorem YDigits_big (A : Option Addr) (n c : Nat) (s : Int) (w : World) (h : 4096 < n) :
    Calls Tryd.prog 26 #[.slice A n c, .int .i64 s] w fun e w' => e = .returned (.tuple #[.slice none 0 0, .int .i64 2]) ∧ Below w.heap.size w w' := by
  have hcs := fun t => checkSizes_one A n c t w.heap.size w rfl
  rw [chkS_one_big h] at hcs
  have HC := Lib.hid hcs
  clear h hcs
  go_enter Tryd.func26, Tryd.ntmps26
  go_wp2_with (fail)
  refine (HC.out _).mono ?_
  rintro e w1 ⟨rfl, hb1⟩
  have H1 := Lib.hid hb1
  clear hb1
  go_wp2_with (fail)
  go_ret2
  exact ⟨rfl, H1.out⟩
end Go.Proofs.YthpgdpkemnhneaaDoor

