/- The contracts of fast.Karatsuba and fast.Toom. -/
import Derived.Test.YthpgdpkemnhneaaGreatDoorZFProd
import Derived.Test.YthpgdpkemnhneaaGreatDoorP8
namespace Go.Proofs.YthpgdpkemnhneaaGreatDoor
open Go.RowKit Go.Shelf
set_option linter.unusedVariables false
set_option linter.unusedSimpArgs false
set_option maxRecDepth 10000

set_option maxHeartbeats 1000000 in
theorem Karatsuba_ok (least : Nat) (hl3 : 3 ≤ least) (hl64 : least ≤ 64) (A A' : Option Addr) (n n' c c' : Nat) (xs ys : List Nat) (w : World) (hn : n ≤ 4096) (hn' : n' ≤ 4096) (hx : Sl w A n c xs) (hy : Sl w A' n' c' ys) (hT : TabF w) :
    Calls Tryz.prog 10 #[.slice A n c, .slice A' n' c', .int .i64 (least : Int)] w fun e w' => Rs w w' e (V xs * V ys) := by
  have Hx := Lib.hid (And.intro hx (And.intro hy hT))
  have HC := Lib.hid (show chkL (least : Int) [(A, n, c), (A', n', c')] = 0 by rw [chkL, if_pos (chkS_two hn hn'), if_neg (by omega)])
  clear hx hy hT
  go_enter Tryz.func10, Tryz.ntmps10
  go_wp2_with (fail)
  refine (checkLeast_two (least : Int) A A' n n' c c' _ _ w rfl).mono ?_
  rintro e w1 ⟨rfl, hb1⟩
  rw [HC.out]
  have H1 := Lib.hid (And.intro (Hx.out.1.below hb1) (And.intro (Hx.out.2.1.below hb1) (And.intro (Hx.out.2.2.below hb1) hb1)))
  clear hb1
  go_wp2_with (fail)
  refine (product_kara least hl3 hl64 A A' n n' c c' xs ys w1 hn hn' H1.out.1 H1.out.2.1 H1.out.2.2.1).mono ?_
  rintro e w2 hR
  obtain ⟨⟨v, rfl, h1, h2⟩ | ⟨rfl, h2⟩, hb⟩ := hR.from H1.out.2.2.2
  · have H := Lib.hid (And.intro h1 (And.intro h2 hb))
    clear h1 h2 hb hR
    go_wp2_with (fail)
    go_ret2
    exact ⟨.inl ⟨v, rfl, H.out.1, H.out.2.1⟩, H.out.2.2⟩
  · have H := Lib.hid (And.intro h2 hb)
    clear h2 hb hR
    go_wp2_with (fail)
    go_ret2
    exact ⟨.inr ⟨rfl, H.out.1⟩, H.out.2⟩
set_option maxHeartbeats 1000000 in
theorem Karatsuba_err (least : Int) (A A' : Option Addr) (n n' c c' : Nat) (E : Int) (w : World) (hE : chkL least [(A, n, c), (A', n', c')] = E) (hE0 : (E == 0) = false) :
    Calls Tryz.prog 10 #[.slice A n c, .slice A' n' c', .int .i64 least] w fun e w' => e = .returned (.tuple #[.slice none 0 0, .int .i64 E]) ∧ Below w.heap.size w w' := by
  have HC := Lib.hid hE
  have hE2 : (E != 0) = true := by rw [bne, hE0]; rfl
  clear hE
  go_enter Tryz.func10, Tryz.ntmps10
  go_wp2_with (fail)
  refine (checkLeast_two least A A' n n' c c' _ _ w rfl).mono ?_
  rintro e w1 ⟨rfl, hb1⟩
  rw [HC.out]
  have H1 := Lib.hid hb1
  clear hb1
  go_wp2_with (fail)
  go_ret2
  exact ⟨rfl, H1.out⟩

set_option maxHeartbeats 1000000 in
theorem Toom_ok (least : Nat) (hl3 : 3 ≤ least) (hl64 : least ≤ 64) (A A' : Option Addr) (n n' c c' : Nat) (xs ys : List Nat) (w : World) (hn : n ≤ 4096) (hn' : n' ≤ 4096) (hx : Sl w A n c xs) (hy : Sl w A' n' c' ys) (hT : TabF w) :
    Calls Tryz.prog 11 #[.slice A n c, .slice A' n' c', .int .i64 (least : Int)] w fun e w' => Rs w w' e (V xs * V ys) := by
  have Hx := Lib.hid (And.intro hx (And.intro hy hT))
  have HC := Lib.hid (show chkL (least : Int) [(A, n, c), (A', n', c')] = 0 by rw [chkL, if_pos (chkS_two hn hn'), if_neg (by omega)])
  clear hx hy hT
  go_enter Tryz.func11, Tryz.ntmps11
  go_wp2_with (fail)
  refine (checkLeast_two (least : Int) A A' n n' c c' _ _ w rfl).mono ?_
  rintro e w1 ⟨rfl, hb1⟩
  rw [HC.out]
  have H1 := Lib.hid (And.intro (Hx.out.1.below hb1) (And.intro (Hx.out.2.1.below hb1) (And.intro (Hx.out.2.2.below hb1) hb1)))
  clear hb1
  go_wp2_with (fail)
  refine (product_toom least hl3 hl64 A A' n n' c c' xs ys w1 hn hn' H1.out.1 H1.out.2.1 H1.out.2.2.1).mono ?_
  rintro e w2 hR
  obtain ⟨⟨v, rfl, h1, h2⟩ | ⟨rfl, h2⟩, hb⟩ := hR.from H1.out.2.2.2
  · have H := Lib.hid (And.intro h1 (And.intro h2 hb))
    clear h1 h2 hb hR
    go_wp2_with (fail)
    go_ret2
    exact ⟨.inl ⟨v, rfl, H.out.1, H.out.2.1⟩, H.out.2.2⟩
  · have H := Lib.hid (And.intro h2 hb)
    clear h2 hb hR
    go_wp2_with (fail)
    go_ret2
    exact ⟨.inr ⟨rfl, H.out.1⟩, H.out.2⟩
set_option maxHeartbeats 1000000 in
theorem Toom_err (least : Int) (A A' : Option Addr) (n n' c c' : Nat) (E : Int) (w : World) (hE : chkL least [(A, n, c), (A', n', c')] = E) (hE0 : (E == 0) = false) :
    Calls Tryz.prog 11 #[.slice A n c, .slice A' n' c', .int .i64 least] w fun e w' => e = .returned (.tuple #[.slice none 0 0, .int .i64 E]) ∧ Below w.heap.size w w' := by
  have HC := Lib.hid hE
  have hE2 : (E != 0) = true := by rw [bne, hE0]; rfl
  clear hE
  go_enter Tryz.func11, Tryz.ntmps11
  go_wp2_with (fail)
  refine (checkLeast_two least A A' n n' c c' _ _ w rfl).mono ?_
  rintro e w1 ⟨rfl, hb1⟩
  rw [HC.out]
  have H1 := Lib.hid hb1
  clear hb1
  go_wp2_with (fail)
  go_ret2
  exact ⟨rfl, H1.out⟩
end Go.Proofs.YthpgdpkemnhneaaGreatDoor
