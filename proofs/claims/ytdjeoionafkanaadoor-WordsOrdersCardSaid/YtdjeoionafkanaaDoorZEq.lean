/- The contracts of the law's few and equal, as rows. -/
import Derived.Test.YtdjeoionafkanaaDoorZFew
namespace Go.Proofs.YtdjeoionafkanaaDoor
open Go.RowKit
set_option linter.unusedVariables false

theorem few_ok (A : Option Addr) (n c : Nat) (m : Nat) (xs : List Nat) (w : World) (hx : Sl w A n c xs) (hm : m ≤ 4096) :
    Calls Tryd.prog 12 #[.slice A n c, .int .i64 m] w fun e w' => ∃ v, e = .returned v ∧ Nw w w' v (min m n) (xs.take m) ∧ Below w.heap.size w w' := by
  refine (few_any A n c m xs w hx.1 hx.2.1 hx.2.2.1 hm hx.2.2.2.2).mono ?_
  rintro e w' ⟨v, rfl, ho, hb⟩
  have hl : (xs.take m).length = min m n := by rw [List.length_take, hx.1]
  exact ⟨v, rfl, ⟨hl, Ws_take hx.2.2.2.1 m, hl ▸ ho⟩, hb⟩
set_option maxHeartbeats 400000 in
theorem equal_ok (A A' : Option Addr) (n n' c c' : Nat) (xs ys : List Nat) (w : World) (hx : Sl w A n c xs) (hy : Sl w A' n' c' ys) :
    Calls Tryd.prog 14 #[.slice A n c, .slice A' n' c'] w fun e w' => ∃ v v', ∃ k, ∃ ps qs, e = .returned (.tuple #[v, v']) ∧ k ≤ 40 ∧ Nw w w' v k ps ∧ Nw w w' v' k qs ∧ Below w.heap.size w w' := by
  have Hx := Lib.hid hx
  have Hy := Lib.hid hy
  clear hx hy
  go_enter Tryd.func14, Tryd.ntmps14
  go_wp2_with (fail)
  · refine (few_ok _ _ _ 40 xs _ Hx.out (by omega)).mono ?_
    rintro e w1 ⟨v, rfl, hn1, hb1⟩
    have H1 := Lib.hid (And.intro hn1 hb1)
    clear hn1 hb1
    go_wp2_with (fail)
    refine (few_ok _ _ _ 40 ys _ (Hy.out.below H1.out.2) (by omega)).mono ?_
    rintro e w2 ⟨v', rfl, hn2, hb2⟩
    have H2 := Lib.hid (And.intro hn2 hb2)
    clear hn2 hb2
    go_wp2_with (fail)
    go_ret2
    obtain ⟨hn1, hb1⟩ := H1.out
    obtain ⟨hn2, hb2⟩ := H2.out
    rw [show min 40 n = 40 by omega] at hn1
    rw [show min 40 n' = 40 by omega] at hn2
    exact ⟨v, v', 40, _, _, rfl, by omega, hn1.later (Nat.le_refl _) hb2, ⟨hn2.1, hn2.2.1, own_base hn2.2.2 hb1.size⟩, hb1.trans (hb2.mono hb1.size)⟩
  · refine (few_ok _ _ _ n' xs _ Hx.out (by omega)).mono ?_
    rintro e w1 ⟨v, rfl, hn1, hb1⟩
    have H1 := Lib.hid (And.intro hn1 hb1)
    clear hn1 hb1
    go_wp2_with (fail)
    refine (few_ok _ _ _ n' ys _ (Hy.out.below H1.out.2) (by omega)).mono ?_
    rintro e w2 ⟨v', rfl, hn2, hb2⟩
    have H2 := Lib.hid (And.intro hn2 hb2)
    clear hn2 hb2
    go_wp2_with (fail)
    go_ret2
    obtain ⟨hn1, hb1⟩ := H1.out
    obtain ⟨hn2, hb2⟩ := H2.out
    rw [show min n' n = n' by omega] at hn1
    rw [show min n' n' = n' by omega] at hn2
    exact ⟨v, v', n', _, _, rfl, by omega, hn1.later (Nat.le_refl _) hb2, ⟨hn2.1, hn2.2.1, own_base hn2.2.2 hb1.size⟩, hb1.trans (hb2.mono hb1.size)⟩
  · refine (few_ok _ _ _ n xs _ Hx.out (by omega)).mono ?_
    rintro e w1 ⟨v, rfl, hn1, hb1⟩
    have H1 := Lib.hid (And.intro hn1 hb1)
    clear hn1 hb1
    go_wp2_with (fail)
    refine (few_ok _ _ _ n ys _ (Hy.out.below H1.out.2) (by omega)).mono ?_
    rintro e w2 ⟨v', rfl, hn2, hb2⟩
    have H2 := Lib.hid (And.intro hn2 hb2)
    clear hn2 hb2
    go_wp2_with (fail)
    go_ret2
    obtain ⟨hn1, hb1⟩ := H1.out
    obtain ⟨hn2, hb2⟩ := H2.out
    rw [show min n n = n by omega] at hn1
    rw [show min n n' = n by omega] at hn2
    exact ⟨v, v', n, _, _, rfl, by omega, hn1.later (Nat.le_refl _) hb2, ⟨hn2.1, hn2.2.1, own_base hn2.2.2 hb1.size⟩, hb1.trans (hb2.mono hb1.size)⟩
end Go.Proofs.YtdjeoionafkanaaDoor
