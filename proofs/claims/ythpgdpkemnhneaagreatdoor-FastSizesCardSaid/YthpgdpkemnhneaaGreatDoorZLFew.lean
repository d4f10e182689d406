/- The contract of the law's few. -/
import Derived.Test.YthpgdpkemnhneaaGreatDoorP1
namespace Go.Proofs.YthpgdpkemnhneaaGreatDoor
open Go.RowKit
set_option linter.unusedVariables false
set_option linter.unusedSimpArgs false

set_option maxHeartbeats 400000 in
theorem ffew_any (A : Option Addr) (n c : Nat) (m : Nat) (xs : List Nat) (w : World) (hn : xs.length = n) (hnc : n ≤ c) (hc : c ≤ 9223372036854775807) (hm : m ≤ 4096)
    (hr : Rd w w.heap.size A (uvs xs)) :
    Calls Tryz.prog 4 #[.slice A n c, .int .i64 m] w fun e w' => ∃ v, e = .returned v ∧ w'.ownsRow w.heap.size 44 1 v (xs.take m).length (uvs (xs.take m)) ∧ Below w.heap.size w w' := by
  obtain ⟨i0, hi, hz0, hz1, hz2⟩ := info_parts Tryz.info44
  have Hn := Lib.hid hn
  clear hn
  rcases Nat.lt_or_ge m n with hlt | hge
  · have hl : (uvs (xs.take m)).length = m := by rw [uvs_length, List.length_take, Hn.out]; omega
    have hr2 : Rd w w.heap.size A (uvs (xs.take m)) := by rw [uvs_take]; exact hr.take m
    have Hl := Lib.hid hl
    have Hr := Lib.hid hr2
    clear hl hr hr2
    go_enter Tryz.func4, Tryz.ntmps4
    go_wp2_with (at_builtin; refine wpList_append_rd _ rfl (.tmp 6) (.tmp 12) 23 rfl w.heap.size 44 i0 (.int .u64 0) Tryz.underlying23 hi hz0 hz1 hz2 rfl _ 0 [] rfl (World.ownsRow_nil _ _ _ _) w.heap.size A m c (uvs (xs.take m)) rfl Hl.out Hr.out (uvs_one _) (by omega) (by omega) ?_)
    intro v' w' hown hgrow hblk
    go_wp2
    go_ret
    refine ⟨v', rfl, ?_, (Below.refl _ _).grown hgrow (Nat.le_refl _) (by intro k hk; cases hk)⟩
    have := Hl.out
    rw [uvs_length] at this
    rw [this]
    simpa using hown
  · have hl : (uvs xs).length = n := by rw [uvs_length, Hn.out]
    have Hl := Lib.hid hl
    have Hr := Lib.hid hr
    clear hl hr
    go_enter Tryz.func4, Tryz.ntmps4
    go_wp2_with (at_builtin; refine wpList_append_rd _ rfl (.tmp 6) (.tmp 12) 23 rfl w.heap.size 44 i0 (.int .u64 0) Tryz.underlying23 hi hz0 hz1 hz2 rfl _ 0 [] rfl (World.ownsRow_nil _ _ _ _) w.heap.size A n c (uvs xs) rfl Hl.out Hr.out (uvs_one _) (by omega) (by omega) ?_)
    intro v' w' hown hgrow hblk
    go_wp2
    go_ret
    refine ⟨v', rfl, ?_, (Below.refl _ _).grown hgrow (Nat.le_refl _) (by intro k hk; cases hk)⟩
    rw [List.take_of_length_le (by rw [Hn.out]; exact hge), Hn.out]
    simpa using hown
theorem ffew_ok (A : Option Addr) (n c : Nat) (m : Nat) (xs : List Nat) (w : World) (hx : Sl w A n c xs) (hm : m ≤ 4096) :
    Calls Tryz.prog 4 #[.slice A n c, .int .i64 m] w fun e w' => ∃ v, e = .returned v ∧ Nw w w' v (min m n) (xs.take m) ∧ Below w.heap.size w w' := by
  refine (ffew_any A n c m xs w hx.1 hx.2.1 hx.2.2.1 hm hx.2.2.2.2).mono ?_
  rintro e w' ⟨v, rfl, ho, hb⟩
  have hl : (xs.take m).length = min m n := by rw [List.length_take, hx.1]
  exact ⟨v, rfl, ⟨hl, Ws_take hx.2.2.2.1 m, hl ▸ ho⟩, hb⟩
end Go.Proofs.YthpgdpkemnhneaaGreatDoor
