/- The contract of words.Negate; words.Cmp where a row is too long. -/
import Derived.Test.YtdjeoionafkanaaDoorP1
namespace Go.Proofs.YtdjeoionafkanaaDoor
open Go.RowKit
set_option linter.unusedVariables false

set_option maxHeartbeats 400000 in
theorem Cmp_err (A A' : Option Addr) (n n' c c' : Nat) (z : Int) (w : World) (hz : chk [(n : Int), (n' : Int)] = z) (h0 : z ≠ 0) (hn : n ≤ 9223372036854775807) (hn' : n' ≤ 9223372036854775807) :
    Calls Tryd.prog 13 #[.slice A n c, .slice A' n' c'] w fun e w' => e = .returned (.tuple #[.int .i64 0, .int .i64 z]) ∧ Below w.heap.size w w' := by
  have Hz := Lib.hid hz
  clear hz
  go_enter Tryd.func13, Tryd.ntmps13
  go_wp2_with (go_at_call 66; refine (checkLengths_two n n' _ _ (by simp)).mono ?_; rintro e w' ⟨rfl, rfl⟩; rw [Hz.out])
  refine bodyPost_ret (v := .tuple #[.int .i64 0, .int .i64 z]) (by simp [results, go_sem]) rfl ?_
  exact ⟨rfl, ((((Below.refl _ _).alloc (Nat.le_refl _) _).alloc (by simp) _).alloc (by simp; omega) _).alloc (by simp; omega) _⟩

set_option maxHeartbeats 400000 in
theorem Negate_err (A : Option Addr) (n c : Nat) (w : World) (hn : 4096 < n) (hn' : n ≤ 9223372036854775807) :
    Calls Tryd.prog 15 #[.slice A n c] w fun e w' => e = .returned (.tuple #[.slice none 0 0, .bool false, .int .i64 2]) ∧ Below w.heap.size w w' := by
  have Hz := Lib.hid (chk_one_big n hn)
  go_enter Tryd.func15, Tryd.ntmps15
  go_wp2_with (go_at_call 66; refine (checkLengths_one n _ _ (by simp)).mono ?_; rintro e w' ⟨rfl, rfl⟩; rw [Hz.out])
  go_ret3
  exact ⟨rfl, (Below.refl _ _).alloc (Nat.le_refl _) _⟩

set_option maxHeartbeats 400000 in
theorem Negate_ok (A : Option Addr) (n c : Nat) (xs : List Nat) (w : World) (hn : n ≤ 4096) (hx : Sl w A n c xs) :
    Calls Tryd.prog 15 #[.slice A n c] w fun e w' => ∃ v zs, ∃ d : Nat, e = .returned (.tuple #[v, .bool (decide (d = 1)), .int .i64 0]) ∧ d ≤ 1 ∧
      d * B64 ^ n = V zs + V xs ∧ Nw w w' v n zs ∧ Below w.heap.size w w' := by
  obtain ⟨i0, hi, hz0, hz1, hz2⟩ := info_parts Tryd.info23
  have Hk := Lib.hid (chk_one n hn)
  have Hx := Lib.hid hx
  clear hx
  go_enter Tryd.func15, Tryd.ntmps15
  go_wp2_with (first | (go_at_call 66; refine (checkLengths_one n _ _ (by simp)).mono ?_; rintro e w' ⟨rfl, rfl⟩; rw [Hk.out]) | (at_make; refine wpList_make_full _ rfl _ _ 22 rfl w.heap.size 23 i0 (.int .u64 0) 1 Tryd.underlying22 hi hz0 hz1 .i64 .i64 _ _ n rfl rfl rfl rfl (by rw [hz2]; omega) (by unfold maxLen; omega) (by simp) ?_))
  intro w1 hown hgrow
  have hb0 : Below w.heap.size w (w.alloc (.cells #[.int .i64 (n : Int)] 3)) := (Below.refl _ _).alloc (Nat.le_refl _) _
  have hb1 := below_of_grown hgrow (Nat.le_refl _)
  have hsl := Nw_zeros hown (show n ≤ 9223372036854775807 by omega)
  simp only [World.size_alloc] at hsl hb1 hgrow
  have hb : Below w.heap.size w w1 := hb0.trans (hb1.mono (by simp))
  have H1 := Lib.hid (And.intro hsl (And.intro (Hx.out.below hb) hb))
  clear hown hgrow hb0 hb1 hsl hb
  go_wp2_with (fail)
  refine (Sub_ok _ _ n n c (List.replicate n 0) xs 0 w1 hn H1.out.1 H1.out.2.1 (by decide)).mono ?_
  rintro e w2 ⟨v, zs, d, rfl, hd, hv, hnw, hbw⟩
  have H2 := Lib.hid (And.intro hv (And.intro hnw hbw))
  clear hv hnw hbw
  go_wp2_with (fail)
  go_ret3
  obtain ⟨hv, hnw, hbw⟩ := H2.out
  rw [V_zeros] at hv
  refine ⟨v, zs, d, ?_, hd, by omega, ⟨hnw.1, hnw.2.1, own_base hnw.2.2 H1.out.2.2.size⟩, H1.out.2.2.trans (hbw.mono H1.out.2.2.size)⟩
  have hb : ((d : Int) == 1) = decide (d = 1) := by rw [Bool.eq_iff_iff]; simp; omega
  rw [hb]
  rfl
end Go.Proofs.YtdjeoionafkanaaDoor
