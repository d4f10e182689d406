/- The contract of Cmp of the reference 01. -/
import Derived.Test.YtdjeoionafkanaaDoorP1
namespace Go.Proofs.YtdjeoionafkanaaDoor
open Go.RowKit
set_option linter.unusedVariables false
set_option maxRecDepth 10000

set_option maxHeartbeats 1000000 in
theorem R1Cmp_ok (A A' : Option Addr) (n n' c c' : Nat) (xs ys : List Nat) (w : World) (hn : n ≤ 4096) (hn' : n' ≤ 4096) (hx : Sl w A n c xs) (hy : Sl w A' n' c' ys) :
    Calls Tryd.prog 21 #[.slice A n c, .slice A' n' c'] w fun e w' => e = .returned (.int .i64 (cmpI (V xs) (V ys))) ∧ Below w.heap.size w w' := by
  have Hx := Lib.hid (And.intro hx hy)
  clear hx hy
  go_enter Tryd.func21, Tryd.ntmps21
  go_wp2_with (fail)
  refine (Digits_ok A n c xs w hn Hx.out.1).mono ?_
  rintro e w1 ⟨v1, ds, rfl, hd1, hdg1, hv1, hb1⟩
  obtain ⟨A1, c1, rfl, hs1⟩ := hd1.sl
  have H1 := Lib.hid (And.intro hs1 (And.intro hdg1 (And.intro hv1 (And.intro (Hx.out.2.below hb1) hb1))))
  clear hd1 hdg1 hv1 hs1 hb1
  go_wp2_with (fail)
  refine (Digits_ok A' n' c' ys w1 hn' H1.out.2.2.2.1).mono ?_
  rintro e w2 ⟨v2, es, rfl, hd2, hdg2, hv2, hb2⟩
  obtain ⟨A2, c2, rfl, hs2⟩ := hd2.sl
  have H2 := Lib.hid (And.intro (H1.out.1.below hb2) (And.intro hs2 (And.intro hdg2 (And.intro hv2 (H1.out.2.2.2.2.trans (hb2.mono H1.out.2.2.2.2.size))))))
  clear hd2 hdg2 hv2 hs2 hb2
  go_wp2_with (fail)
  refine (Compare_ok _ _ _ _ _ _ ds es _ (by omega) (by omega) H2.out.1 H2.out.2.1 H1.out.2.1 H2.out.2.2.1).mono ?_
  rintro e w3 ⟨rfl, rfl⟩
  rw [H1.out.2.2.1, H2.out.2.2.2.1]
  go_wp2_with (fail)
  go_ret
  exact ⟨rfl, H2.out.2.2.2.2⟩
end Go.Proofs.YtdjeoionafkanaaDoor
