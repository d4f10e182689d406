/- The contract of Negate of the reference 01. -/
import Derived.Test.YtdjeoionafkanaaDoorZMkR
import Derived.Test.YtdjeoionafkanaaDoorP1
namespace Go.Proofs.YtdjeoionafkanaaDoor
open Go.RowKit
set_option linter.unusedVariables false
set_option maxRecDepth 10000

/-- zeros, digits: side by side -/
def ZD (w wr : World) (Az A1 : Option Addr) (m cz c1 : Nat) (ds : List Nat) (x : Nat) : Prop :=
  Sl wr Az m cz (List.replicate m 0) ∧ Sl wr A1 m c1 ds ∧ Dg ds ∧ VD ds = x ∧ Below w.heap.size w wr

theorem DigitsN_ok {N n : Nat} (hN : N = 2 * n) (A : Option Addr) (c : Nat) (xs : List Nat) (w : World) (hn : n ≤ 4096) (hx : Sl w A n c xs) :
    Calls Tryd.prog 71 #[.slice A n c] w fun e w' => ∃ v ds, e = .returned v ∧ Nw w w' v N ds ∧ Dg ds ∧ VD ds = V xs ∧ Below w.heap.size w w' := by
  subst hN
  exact Digits_ok A n c xs w hn hx
set_option maxHeartbeats 1000000 in
theorem RNegate_ok (A : Option Addr) (n c : Nat) (xs : List Nat) (w : World) (hn : n ≤ 4096) (hx : Sl w A n c xs) :
    Calls Tryd.prog 16 #[.slice A n c] w fun e w' => ∃ v zs, ∃ d : Nat, e = .returned (.tuple #[v, .bool (decide (d = 1))]) ∧ d ≤ 1 ∧
      d * B64 ^ n = V zs + V xs ∧ Nw w w' v n zs ∧ Below w.heap.size w w' := by
  obtain ⟨i0, hi, hz0, hz1, hz2⟩ := info_parts Tryd.info23
  have Hx := Lib.hid hx
  obtain ⟨N, hN⟩ : ∃ N, N = 2 * n := ⟨_, rfl⟩
  have h2n : (2 : Int) * (n : Int) = (N : Int) := by omega
  have h2w : IntKind.i64.wrap ((2 : Int) * (n : Int)) = (N : Int) := by rw [h2n]; exact IntWalk.i64_in _ (by omega)
  have h2v : IntKind.i64.wrap (N : Int) = (N : Int) := IntWalk.i64_in _ (by omega)
  have hN9 : N ≤ 9000 := by omega
  have HN := Lib.hid hN
  clear hx hN
  go_enter Tryd.func16, Tryd.ntmps16
  go_wp2_with (fail)
  go_region_held3 (fun w' => True) (trivial)
    (first
      | (refine upon_make_full _ 22 w1.heap.size 23 i0 (.int .u64 0) 1 Tryd.underlying22 hi hz0 hz1 .i64 .i64 N (by rw [hz2]; omega) (by unfold maxLen; omega) (Nat.le_refl _) ?_; intro w2 hown hgrow; have HB : Hid (ZD w w2 _ A1 N N c1 ds (V xs)) := ⟨(Nw_zeros (n := N) (B := w1.heap.size) (by rw [Nat.mul_one] at hown; exact hown) (by omega)), H1.out.1.below (below_of_grown hgrow (Nat.le_refl _)), H1.out.2.1, H1.out.2.2.1, H1.out.2.2.2.trans ((below_of_grown hgrow (Nat.le_refl _)).mono H1.out.2.2.2.size)⟩; clear hown hgrow H1)
      | (refine upon_make_full _ 22 w.heap.size 23 i0 (.int .u64 0) 1 Tryd.underlying22 hi hz0 hz1 .i64 .i64 N (by rw [hz2]; omega) (by unfold maxLen; omega) (Nat.le_refl _) ?_; intro w2 hown hgrow; have HZ := Lib.hid (And.intro (Nw_zeros (n := N) (B := w.heap.size) (by rw [Nat.mul_one] at hown; exact hown) (by omega)) (show Below w.heap.size w w2 from belowA (below_of_grown hgrow (Nat.le_refl _)))); clear hown hgrow)
      | (go_at_call 71; refine (DigitsN_ok HN.out _ _ xs w2 (by omega) (Hx.out.below HZ.out.2)).mono ?_; rintro e w3 ⟨v1, ds, rfl, hn1, hd1, hv1, hb1⟩; obtain ⟨A1, c1, rfl, hs1⟩ := hn1.sl; have HB : Hid (ZD w w3 _ A1 N N c1 ds (V xs)) := ⟨HZ.out.1.below hb1, hs1, hd1, hv1, HZ.out.2.trans (hb1.mono HZ.out.2.size)⟩; clear hs1 hd1 hv1 hb1 hn1 HZ)
      | (go_at_call 71; refine (DigitsN_ok HN.out _ _ xs w.drew (by omega) Hx.out).mono ?_; rintro e w1 ⟨v1, ds, rfl, hn1, hd1, hv1, hb1⟩; obtain ⟨A1, c1, rfl, hs1⟩ := hn1.sl; have H1 := Lib.hid (And.intro hs1 (And.intro hd1 (And.intro hv1 (belowA hb1)))); clear hs1 hd1 hv1 hb1 hn1)
      | (go_at_call 70; refine (Minus_ok _ _ N N _ _ _ _ _ (by omega) (by omega) HB.out.1 HB.out.2.1 (fun d hd => by rw [List.eq_of_mem_replicate hd]; decide) HB.out.2.2.1).mono ?_; rintro e w4 ⟨v4, out, bo, rfl, hbo, hn4, hd4, hv4, hb4⟩; obtain ⟨A4, c4, rfl, hs4⟩ := hn4.sl; have H4 := Lib.hid (And.intro hs4 (And.intro hd4 (And.intro (show VD out + V xs = bo * B64 ^ n by rw [← HB.out.2.2.2.1, ← pow_H, ← HN.out]; have h9 := hv4; rw [List.take_of_length_le (by rw [HB.out.2.1.1]; omega)] at h9; rw [h9]; rw [VD_zeros, Nat.zero_add]) (And.intro hbo (HB.out.2.2.2.2.trans (hb4.mono HB.out.2.2.2.2.size)))))); clear hs4 hd4 hv4 hb4 hn4 HB hbo))
  all_goals (go_wp2_with (fail))
  all_goals (refine (Row_any _ N n c4 out _ HN.out (by omega) H4.out.1 H4.out.2.1).mono ?_)
  all_goals (rintro e w5 ⟨v5, zs, rfl, hn5, hv5, hb5⟩)
  all_goals (have H5 := Lib.hid (And.intro hn5 (And.intro hv5 hb5)); clear hn5 hv5 hb5)
  all_goals (go_wp2_with (fail))
  all_goals (go_ret2)
  all_goals (obtain ⟨h1, h2, h3, h4, h5⟩ := H4.out)
  all_goals (refine ⟨v5, zs, bo, ?_, h4, by rw [H5.out.2.1, h3], ⟨H5.out.1.1, H5.out.1.2.1, own_base H5.out.1.2.2 h5.size⟩, h5.trans (H5.out.2.2.mono h5.size)⟩)
  all_goals (rw [show ((bo : Int) == 1) = decide (bo = 1) by rw [Bool.eq_iff_iff]; simp; omega])
  all_goals rfl
end Go.Proofs.YtdjeoionafkanaaDoor
