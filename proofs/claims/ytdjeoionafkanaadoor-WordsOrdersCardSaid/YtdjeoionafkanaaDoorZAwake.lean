/- The contract of the law's awake: whatever the world, it returns true and makes memory alone. -/
import Derived.Test.YtdjeoionafkanaaDoorZCases
namespace Go.Proofs.YtdjeoionafkanaaDoor
open Go.RowKit
set_option linter.unusedVariables false

/-- A row of one word that lies in memory. -/
def One (w : World) (A : Option Addr) (c : Nat) (x : Nat) : Prop := Sl w A 1 c [x]
theorem One.below {w w' : World} {A : Option Addr} {c x : Nat} (h : One w A c x) (hb : Below w.heap.size w w') : One w' A c x := Sl.below h hb
theorem same_one (w : World) (A : Option Addr) (c x : Nat) (hx : x < B64) (h : One w A c x) :
    Calls Tryd.prog 22 #[.slice A 1 c, .slice (some ⟨w.heap.size, 0, none⟩) 1 1] (W1 w x) fun e w' => e = .returned (.bool true) ∧ Below w.heap.size w w' := by
  refine (same_any A _ 1 1 c 1 [x] [x] (W1 w x) (Sl.below h (W1_below w x)) (Sl_one w x hx) (by decide)).mono ?_
  rintro e w' ⟨rfl, m, rfl⟩
  exact ⟨by simp, below_drewN (W1_below w x) m⟩
theorem Add_full (w : World) : Calls Tryd.prog 79 #[.slice (some ⟨w.heap.size, 0, none⟩) 1 1, .slice (some ⟨w.heap.size + 1, 0, none⟩) 1 1, .int .u64 0] ((w.alloc (.cells #[.int .u64 18446744073709551615] 23)).alloc (.cells #[.int .u64 1] 23)) fun e w' =>
    ∃ A c, e = .returned (.tuple #[.slice A 1 c, .int .u64 1, .int .i64 0]) ∧ One w' A c 0 ∧ Below w.heap.size w w' := by
  refine (Add_two w 18446744073709551615 1 (by decide) (by decide)).mono ?_
  rintro e w' ⟨A, c, z, d, rfl, ⟨hz, hd, hv⟩, hs, hb⟩
  obtain ⟨rfl, rfl⟩ := case_add B64 z d (by decide) hz hd hv
  exact ⟨A, c, rfl, hs, hb⟩
theorem Sub_full (w : World) : Calls Tryd.prog 69 #[.slice (some ⟨w.heap.size, 0, none⟩) 1 1, .slice (some ⟨w.heap.size + 1, 0, none⟩) 1 1, .int .u64 0] ((w.alloc (.cells #[.int .u64 0] 23)).alloc (.cells #[.int .u64 1] 23)) fun e w' =>
    ∃ A c, e = .returned (.tuple #[.slice A 1 c, .int .u64 1, .int .i64 0]) ∧ One w' A c 18446744073709551615 ∧ Below w.heap.size w w' := by
  refine (Sub_two w 0 1 (by decide) (by decide)).mono ?_
  rintro e w' ⟨A, c, z, d, rfl, ⟨hz, hd, hv⟩, hs, hb⟩
  obtain ⟨rfl, rfl⟩ := case_sub B64 z d (by decide) hz hd hv
  exact ⟨A, c, rfl, hs, hb⟩
theorem MulWord_full (w : World) : Calls Tryd.prog 80 #[.slice (some ⟨w.heap.size, 0, none⟩) 1 1, .int .u64 18446744073709551615, .int .u64 18446744073709551615] (w.alloc (.cells #[.int .u64 18446744073709551615] 23)) fun e w' =>
    ∃ A c, e = .returned (.tuple #[.slice A 1 c, .int .u64 18446744073709551615, .int .i64 0]) ∧ One w' A c 0 ∧ Below w.heap.size w w' := by
  refine (Mul_one w 18446744073709551615 18446744073709551615 18446744073709551615 (by decide) (by decide) (by decide)).mono ?_
  rintro e w' ⟨A, c, z, d, rfl, ⟨hz, hd, hv⟩, hs, hb⟩
  obtain ⟨rfl, rfl⟩ := case_mul B64 z d (by decide) hz hd hv
  exact ⟨A, c, rfl, hs, hb⟩
theorem DivWord_third (w : World) : Calls Tryd.prog 81 #[.slice (some ⟨w.heap.size, 0, none⟩) 1 1, .int .u64 3, .int .u64 1] (w.alloc (.cells #[.int .u64 0] 23)) fun e w' =>
    ∃ A c, e = .returned (.tuple #[.slice A 1 c, .int .u64 1, .int .i64 0]) ∧ One w' A c 6148914691236517205 ∧ Below w.heap.size w w' := by
  refine (Div_one w 0 3 1 (by decide) (by decide) (by decide)).mono ?_
  rintro e w' ⟨A, c, z, d, rfl, ⟨hz, hd, hv⟩, hs, hb⟩
  obtain ⟨rfl, rfl⟩ := case_div B64 z d (by decide) hz hd hv
  exact ⟨A, c, rfl, hs, hb⟩
theorem Right_three (w : World) : Calls Tryd.prog 82 #[.slice (some ⟨w.heap.size, 0, none⟩) 1 1, .int .i64 1] (w.alloc (.cells #[.int .u64 3] 23)) fun e w' =>
    ∃ A c, e = .returned (.tuple #[.slice A 1 c, .int .u64 9223372036854775808, .int .i64 0]) ∧ One w' A c 1 ∧ Below w.heap.size w w' := by
  refine (Right_one w 3 1 (by decide) (by decide)).mono ?_
  rintro e w' ⟨A, c, z, d, rfl, ⟨hd, hv⟩, hs, hb⟩
  obtain ⟨rfl, rfl⟩ := case_right (2 ^ 1) z d (by decide) hd hv
  exact ⟨A, c, rfl, hs, hb⟩

set_option maxHeartbeats 1000000 in
theorem awake_any (w : World) : Calls Tryd.prog 23 #[] w fun e w' => e = .returned (.bool true) ∧ Below w.heap.size w w' := by
  go_enter Tryd.func23, Tryd.ntmps23
  go_wp2_with (fail)
  refine (Add_full _).mono ?_
  rintro e w1 ⟨A1, c1, rfl, h1, b1⟩
  have H1 := Lib.hid h1
  clear h1
  have b1' : Below w.heap.size w w1 := b1
  clear b1
  go_wp2_with (fail)
  refine (Sub_full _).mono ?_
  rintro e w2 ⟨A2, c2, rfl, h2, b2⟩
  have H1' := H1.out.below b2
  have B2 := b1'.trans (b2.mono b1'.size)
  have HH1 := Lib.hid H1'
  have H2 := Lib.hid h2
  clear h2 H1 H1' b2 b1'
  go_wp2_with (fail)
  refine (MulWord_full _).mono ?_
  rintro e w3 ⟨A3, c3, rfl, h3, b3⟩
  have K1 := Lib.hid (HH1.out.below b3)
  have K2 := Lib.hid (H2.out.below b3)
  have K3 := Lib.hid h3
  have B3 := B2.trans (b3.mono B2.size)
  clear HH1 H2 h3 B2 b3
  go_wp2_with (fail)
  refine (DivWord_third _).mono ?_
  rintro e w4 ⟨A4, c4, rfl, h4, b4⟩
  have L1 := Lib.hid (K1.out.below b4)
  have L2 := Lib.hid (K2.out.below b4)
  have L3 := Lib.hid (K3.out.below b4)
  have L4 := Lib.hid h4
  have B4 := B3.trans (b4.mono B3.size)
  clear K1 K2 K3 h4 B3 b4
  go_wp2_with (fail)
  refine (Right_three _).mono ?_
  rintro e w5 ⟨A5, c5, rfl, h5, b5⟩
  have M1 := Lib.hid (L1.out.below b5)
  have M2 := Lib.hid (L2.out.below b5)
  have M3 := Lib.hid (L3.out.below b5)
  have M4 := Lib.hid (L4.out.below b5)
  have M5 := Lib.hid h5
  have B5 := B4.trans (b5.mono B4.size)
  clear L1 L2 L3 L4 h5 B4 b5
  go_wp2_with (fail)
  refine (Inverse_3 _).mono ?_
  rintro e w6 ⟨rfl, rfl⟩
  go_wp2_with (fail)
  refine (Reciprocal_top _).mono ?_
  rintro e w6 ⟨rfl, m, rfl⟩
  go_wp2_with (fail)
  refine (same_one (w5.drewN m) A1 c1 0 (by decide) M1.out).mono ?_
  rintro e w7 ⟨rfl, b7⟩
  have N2 := Lib.hid (One.below (show One (w5.drewN m) A2 c2 _ from M2.out) b7)
  have N3 := Lib.hid (One.below (show One (w5.drewN m) A3 c3 _ from M3.out) b7)
  have N4 := Lib.hid (One.below (show One (w5.drewN m) A4 c4 _ from M4.out) b7)
  have N5 := Lib.hid (One.below (show One (w5.drewN m) A5 c5 _ from M5.out) b7)
  have B7 := (below_drewN B5 m).trans (b7.mono B5.size)
  clear M1 M2 M3 M4 M5 B5 b7
  go_wp2_with (fail)
  refine (same_one w7 A2 c2 18446744073709551615 (by decide) N2.out).mono ?_
  rintro e w8 ⟨rfl, b8⟩
  have P3 := Lib.hid (N3.out.below b8)
  have P4 := Lib.hid (N4.out.below b8)
  have P5 := Lib.hid (N5.out.below b8)
  have B8 := B7.trans (b8.mono B7.size)
  clear N2 N3 N4 N5 B7 b8
  go_wp2_with (fail)
  refine (same_one w8 A3 c3 0 (by decide) P3.out).mono ?_
  rintro e w9 ⟨rfl, b9⟩
  have R4 := Lib.hid (P4.out.below b9)
  have R5 := Lib.hid (P5.out.below b9)
  have B9 := B8.trans (b9.mono B8.size)
  clear P3 P4 P5 B8 b9
  go_wp2_with (fail)
  refine (same_one w9 A4 c4 6148914691236517205 (by decide) R4.out).mono ?_
  rintro e w10 ⟨rfl, b10⟩
  have S5 := Lib.hid (R5.out.below b10)
  have B10 := B9.trans (b10.mono B9.size)
  clear R4 R5 B9 b10
  go_wp2_with (fail)
  refine (same_one w10 A5 c5 1 (by decide) S5.out).mono ?_
  rintro e w11 ⟨rfl, b11⟩
  have B11 := B10.trans (b11.mono B10.size)
  clear S5 B10 b11
  go_wp2_with (fail)
  go_ret
  exact ⟨rfl, B11⟩
end Go.Proofs.YtdjeoionafkanaaDoor
