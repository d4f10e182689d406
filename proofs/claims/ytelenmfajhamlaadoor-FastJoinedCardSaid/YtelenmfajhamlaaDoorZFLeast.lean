/- The contract of fast.checkLeast. -/
import Derived.Test.YtelenmfajhamlaaDoorZFUsed
namespace Go.Proofs.YtelenmfajhamlaaDoor
open Go.RowKit Go.Shelf
set_option linter.unusedVariables false
set_option linter.unusedSimpArgs false
set_option maxRecDepth 10000

/-- the error of numbers, and of a least -/
def chkL (least : Int) (ls : List (Option Addr × Nat × Nat)) : Int := if chkS ls = 0 then (if least < 3 ∨ 64 < least then 1 else 0) else chkS ls
theorem chkS_two_or (ls : List (Option Addr × Nat × Nat)) : chkS ls = 0 ∨ chkS ls = 2 := by unfold chkS; split <;> simp
set_option maxHeartbeats 400000 in
theorem checkLeast_any (least : Int) (ls : List (Option Addr × Nat × Nat)) (A : Option Addr) (m c : Nat) (w : World) (hl : ls.length = m) (hm : m ≤ 100000) (hr : Rd w w.heap.size A (svs ls)) :
    Calls Tryd.prog 71 #[.int .i64 least, .slice A m c] w fun e w' => e = .returned (.int .i64 (chkL least ls)) ∧ w = w' := by
  have Hr := Lib.hid (And.intro hl hr)
  clear hl hr
  rcases chkS_two_or ls with h0 | h2
  · have H0 := Lib.hid h0
    by_cases h3 : least < 3
    · have HC := Lib.hid (show chkL least ls = 1 by rw [chkL, if_pos h0, if_pos (by omega)])
      clear h0
      go_enter Tryd.func71, Tryd.ntmps71
      go_wp2_with (fail)
      refine (fcheck_any ls A m c w Hr.out.1 hm Hr.out.2).mono ?_
      rintro e w1 ⟨rfl, rfl⟩
      rw [H0.out]
      go_wp2_with (fail)
      go_ret
      rw [HC.out]
      exact ⟨rfl, rfl⟩
    · by_cases h4 : least > 64
      · have HC := Lib.hid (show chkL least ls = 1 by rw [chkL, if_pos h0, if_pos (by omega)])
        clear h0
        go_enter Tryd.func71, Tryd.ntmps71
        go_wp2_with (fail)
        refine (fcheck_any ls A m c w Hr.out.1 hm Hr.out.2).mono ?_
        rintro e w1 ⟨rfl, rfl⟩
        rw [H0.out]
        go_wp2_with (fail)
        go_ret
        rw [HC.out]
        exact ⟨rfl, rfl⟩
      · have HC := Lib.hid (show chkL least ls = 0 by rw [chkL, if_pos h0, if_neg (by omega)])
        clear h0
        go_enter Tryd.func71, Tryd.ntmps71
        go_wp2_with (fail)
        refine (fcheck_any ls A m c w Hr.out.1 hm Hr.out.2).mono ?_
        rintro e w1 ⟨rfl, rfl⟩
        rw [H0.out]
        go_wp2_with (fail)
        go_ret
        rw [HC.out]
        exact ⟨rfl, rfl⟩
  · have H0 := Lib.hid h2
    have HC := Lib.hid (show chkL least ls = 2 by rw [chkL, h2]; rfl)
    clear h2
    go_enter Tryd.func71, Tryd.ntmps71
    go_wp2_with (fail)
    refine (fcheck_any ls A m c w Hr.out.1 hm Hr.out.2).mono ?_
    rintro e w1 ⟨rfl, rfl⟩
    rw [H0.out]
    go_wp2_with (fail)
    go_ret
    rw [HC.out]
    exact ⟨rfl, rfl⟩
theorem checkLeast_two (least : Int) (A A' : Option Addr) (n n' c c' : Nat) (t : TypeId) (b : Nat) (w : World) (hb : b = w.heap.size) :
    Calls Tryd.prog 71 #[.int .i64 least, .slice (some ⟨b, 0, none⟩) 2 2] (w.alloc (.cells #[.slice A n c, .slice A' n' c'] t)) fun e w' => e = .returned (.int .i64 (chkL least [(A, n, c), (A', n', c')])) ∧ Below w.heap.size w w' := by
  subst hb
  refine (checkLeast_any least [(A, n, c), (A', n', c')] _ 2 2 _ rfl (by omega) (fun _ => ⟨w.heap.size, 0, rfl, by simp, fun j u hj => ?_⟩)).mono (by rintro e w' ⟨rfl, rfl⟩; exact ⟨rfl, (Below.refl _ _).alloc (Nat.le_refl _) _⟩)
  match j, hj with
  | 0, hj => simp [svs] at hj; subst hj; simp
  | 1, hj => simp [svs] at hj; subst hj; simp
theorem checkLeast_one (least : Int) (A : Option Addr) (n c : Nat) (t : TypeId) (b : Nat) (w : World) (hb : b = w.heap.size) :
    Calls Tryd.prog 71 #[.int .i64 least, .slice (some ⟨b, 0, none⟩) 1 1] (w.alloc (.cells #[.slice A n c] t)) fun e w' => e = .returned (.int .i64 (chkL least [(A, n, c)])) ∧ Below w.heap.size w w' := by
  subst hb
  refine (checkLeast_any least [(A, n, c)] _ 1 1 _ rfl (by omega) (fun _ => ⟨w.heap.size, 0, rfl, by simp, fun j u hj => ?_⟩)).mono (by rintro e w' ⟨rfl, rfl⟩; exact ⟨rfl, (Below.refl _ _).alloc (Nat.le_refl _) _⟩)
  match j, hj with
  | 0, hj => simp [svs] at hj; subst hj; simp
end Go.Proofs.YtelenmfajhamlaaDoor
