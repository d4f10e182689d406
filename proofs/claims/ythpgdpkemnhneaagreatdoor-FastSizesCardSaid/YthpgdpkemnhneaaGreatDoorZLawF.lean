/- What the laws of layer 3 begin with. -/
import Derived.Test.YthpgdpkemnhneaaGreatDoorZLFew
import Derived.Test.YthpgdpkemnhneaaGreatDoorZFKar
import Derived.Test.YthpgdpkemnhneaaGreatDoorZTabF
namespace Go.Proofs.YthpgdpkemnhneaaGreatDoor
open Go.RowKit Go.Shelf
set_option linter.unusedVariables false
set_option linter.unusedSimpArgs false
set_option maxRecDepth 10000

theorem few3_row (A : Option Addr) (n c : Nat) (m : Nat) (xs : List Nat) (w : World) (hx : Sl w A n c xs) (hm : m ≤ 4096) :
    Calls Tryz.prog 4 #[.slice A n c, .int .i64 m] w fun e w' => ∃ A' k c' us, e = .returned (.slice A' k c') ∧ k ≤ m ∧ Sl w' A' k c' us ∧ us = xs.take m ∧ Nw w w' (.slice A' k c') k us ∧ Below w.heap.size w w' := by
  refine (ffew_ok A n c m xs w hx hm).mono ?_
  rintro e w' ⟨v, rfl, hn, hb⟩
  obtain ⟨A', c', rfl, hs⟩ := hn.sl
  exact ⟨A', min m n, c', _, rfl, Nat.min_le_left _ _, hs, rfl, hn, hb⟩
/-- one row, as it stands, and the tables -/
def Row1 (w wr : World) (A1 : Option Addr) (k1 d1 : Nat) (us : List Nat) : Prop := Sl wr A1 k1 d1 us ∧ TabF wr ∧ Below w.heap.size w wr
theorem Row1.keep {w wr w' : World} {A1 : Option Addr} {k1 d1 : Nat} {us : List Nat} (h : Row1 w wr A1 k1 d1 us) (hb : Below wr.heap.size wr w') : Row1 w w' A1 k1 d1 us :=
  ⟨h.1.below hb, h.2.1.below hb, h.2.2.trans (hb.mono h.2.2.size)⟩
/-- two rows, as they stand, and the tables -/
def Row2 (w wr : World) (A1 A2 : Option Addr) (k1 k2 d1 d2 : Nat) (us vs : List Nat) : Prop := Sl wr A1 k1 d1 us ∧ Sl wr A2 k2 d2 vs ∧ TabF wr ∧ Below w.heap.size w wr
theorem Row2.keep {w wr w' : World} {A1 A2 : Option Addr} {k1 k2 d1 d2 : Nat} {us vs : List Nat} (h : Row2 w wr A1 A2 k1 k2 d1 d2 us vs) (hb : Below wr.heap.size wr w') : Row2 w w' A1 A2 k1 k2 d1 d2 us vs :=
  ⟨h.1.below hb, h.2.1.below hb, h.2.2.1.below hb, h.2.2.2.trans (hb.mono h.2.2.2.size)⟩
/-- three rows, as they stand, and the tables -/
def Row3 (w wr : World) (A1 A2 A3 : Option Addr) (k1 k2 k3 d1 d2 d3 : Nat) (us vs zs : List Nat) : Prop := Row2 w wr A1 A2 k1 k2 d1 d2 us vs ∧ Sl wr A3 k3 d3 zs
theorem Row3.keep {w wr w' : World} {A1 A2 A3 : Option Addr} {k1 k2 k3 d1 d2 d3 : Nat} {us vs zs : List Nat} (h : Row3 w wr A1 A2 A3 k1 k2 k3 d1 d2 d3 us vs zs) (hb : Below wr.heap.size wr w') : Row3 w w' A1 A2 A3 k1 k2 k3 d1 d2 d3 us vs zs :=
  ⟨h.1.keep hb, h.2.below hb⟩
theorem row_lt3 {w : World} {A : Option Addr} {n c : Nat} {xs : List Nat} (h : Sl w A n c xs) (hn : n ≤ 4096) : V xs < Big := Big_of h.lt hn
theorem mul_lt3 {w : World} {A A' : Option Addr} {n n' c c' : Nat} {xs ys : List Nat} (h : Sl w A n c xs) (h' : Sl w A' n' c' ys) (hs : n + n' ≤ 4096) : V xs * V ys < Big :=
  Big_of (k := n + n') (by rw [Nat.pow_add]; exact Nat.mul_lt_mul'' h.lt h'.lt) hs
theorem Is_nu {w w0 : World} {A A' : Option Addr} {n n' c c' x : Nat} {zs zs' : List Nat} (h : Nu w0 w A n c zs x) (h' : Sl w A' n' c' zs') (hn : n' ≤ 4096) (hv : V zs' = x) :
    Calls Tryz.prog 18 #[.slice A n c, .slice A' n' c'] w fun e w' => e = .returned (.bool true) ∧ Below w.heap.size w w' :=
  Is_ok A A' n n' c c' zs zs' w h.2.2.2.1 hn h.1 h' h.2.1 (by rw [h.2.2.1, hv])
end Go.Proofs.YthpgdpkemnhneaaGreatDoor
