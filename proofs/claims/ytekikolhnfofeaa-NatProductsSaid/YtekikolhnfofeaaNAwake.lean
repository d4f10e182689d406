/- The contract of the law's awake: whatever the world, it returns true and makes memory alone. -/
import Derived.Test.YtekikolhnfofeaaNPow
import Derived.Test.YtekikolhnfofeaaNDiv
import Derived.Test.YtekikolhnfofeaaParse
namespace Go.Proofs.Ytekikolhnfofeaa
open Go.RowKit Go.Shelf
set_option linter.unusedVariables false
set_option maxRecDepth 100000

/-- a slice of one new word is a row -/
theorem one_sl {w w1 : World} {x : Nat} (hx : x < B64) (h : w1 = W1 w x) : Sl w1 (some ⟨w.heap.size, 0, none⟩) 1 1 [x] := by subst h; exact Sl_one w x hx
theorem Pow_ten (w : World) : Calls Try.prog 25 #[.slice (some ⟨w.heap.size, 0, none⟩) 1 1, .int .i64 20] (w.alloc (.cells #[.int .u64 10] 37)) fun e w' => ∃ A n c zs, e = .returned (.tuple #[.slice A n c, .int .i64 0]) ∧ Nu w w' A n c zs (10 ^ 20) := by
  refine (NPow_ok _ 1 1 [10] 20 (W1 w 10) (by omega) (by omega) (Sl_one w 10 (by decide))).mono ?_
  rintro e w' hR
  rw [V_one] at hR
  obtain ⟨A, n, c, zs, rfl, h⟩ := hR.open (Big_of (k := 2) (by decide) (by omega))
  exact ⟨A, n, c, zs, rfl, h.from (W1_below w 10)⟩
theorem Square_top (w : World) : Calls Try.prog 23 #[.slice (some ⟨w.heap.size, 0, none⟩) 1 1] (w.alloc (.cells #[.int .u64 18446744073709551615] 37)) fun e w' => ∃ A n c zs, e = .returned (.tuple #[.slice A n c, .int .i64 0]) ∧ Nu w w' A n c zs (18446744073709551615 * 18446744073709551615) := by
  refine (NSquare_ok _ 1 1 [18446744073709551615] (W1 w 18446744073709551615) (by omega) (Sl_one w 18446744073709551615 (by decide))).mono ?_
  rintro e w' hR
  rw [V_one] at hR
  obtain ⟨A, n, c, zs, rfl, h⟩ := hR.open (Big_of (k := 2) (by decide) (by omega))
  exact ⟨A, n, c, zs, rfl, h.from (W1_below w _)⟩

theorem DivMod_third (w : World) : Calls Try.prog 28 #[.slice (some ⟨w.heap.size, 0, none⟩) 2 2, .slice (some ⟨w.heap.size + 1, 0, none⟩) 1 1] ((w.alloc (.cells #[.int .u64 7766279631452241920, .int .u64 5] 37)).alloc (.cells #[.int .u64 3] 37)) fun e w' => ∃ A n c zs A' n' c' zs', e = .returned (.tuple #[.slice A n c, .slice A' n' c', .int .i64 0]) ∧ Nu w w' A n c zs 33333333333333333333 ∧ Nu w w' A' n' c' zs' 1 := by
  have h1 := Sl_two w 7766279631452241920 5 (by decide) (by decide)
  have h2 := Sl_one (w.alloc (.cells #[.int .u64 7766279631452241920, .int .u64 5] 37)) 3 (by decide)
  rw [World.size_alloc] at h2
  have hb0 : Below w.heap.size w (w.alloc (.cells #[.int .u64 7766279631452241920, .int .u64 5] 37)) := (Below.refl _ _).alloc (Nat.le_refl _) _
  have hb1 := W1_below (w.alloc (.cells #[.int .u64 7766279631452241920, .int .u64 5] 37)) 3
  have hb := hb0.trans (hb1.mono hb0.size)
  refine (NDivMod_ok _ _ 2 1 2 1 [7766279631452241920, 5] [3] (W1 (w.alloc (.cells #[.int .u64 7766279631452241920, .int .u64 5] 37)) 3) (by omega) (by omega) (h1.below hb1) h2 (by decide) (.inr (by decide))).mono ?_
  rintro e w' ⟨v, v', rfl, hn, hn', hbw⟩
  rw [show V [7766279631452241920, 5] / V [3] = 33333333333333333333 by decide] at hn
  rw [show V [7766279631452241920, 5] % V [3] = 1 by decide] at hn'
  obtain ⟨A, n, c, zs, rfl, h3⟩ := Nu.of hn hbw (Big_of (k := 2) (by decide) (by omega))
  obtain ⟨A', n', c', zs', rfl, h4⟩ := Nu.of hn' hbw (Big_of (k := 1) (by decide) (by omega))
  exact ⟨A, n, c, zs, A', n', c', zs', rfl, h3.from hb, h4.from hb⟩
theorem Sub_below (w : World) : Calls Try.prog 16 #[.slice (some ⟨w.heap.size, 0, none⟩) 1 1, .slice (some ⟨w.heap.size + 1, 0, none⟩) 1 1] ((w.alloc (.cells #[.int .u64 1] 37)).alloc (.cells #[.int .u64 2] 37)) fun e w' => e = .returned (.tuple #[.slice none 0 0, .int .i64 8]) ∧ Below w.heap.size w w' := by
  have h1 := Sl_one w 1 (by decide)
  have h2 := Sl_one (W1 w 1) 2 (by decide)
  have hb := W1_below2 w 1 2
  rw [World.size_alloc] at h2
  refine (NSub_ok _ _ 1 1 1 1 [1] [2] (W1 (W1 w 1) 2) (by omega) (by omega) (h1.below (W1_below (W1 w 1) 2)) h2).mono ?_
  rintro e w' ⟨⟨h3, _⟩ | ⟨_, rfl⟩, hbw⟩
  · rw [V_one, V_one] at h3
    omega
  · exact ⟨rfl, hb.trans (hbw.mono hb.size)⟩
theorem Parse_ten (w : World) : Calls Try.prog 67 #[.string ⟨#[49, 48, 48, 48, 48, 48, 48, 48, 48, 48, 48, 48, 48, 48, 48, 48, 48, 48, 48, 48, 48]⟩] w fun e w' => ∃ A n c zs, e = .returned (.slice A n c) ∧ Nu w w' A n c zs (10 ^ 20) := by
  refine (Parse_ok ⟨#[49, 48, 48, 48, 48, 48, 48, 48, 48, 48, 48, 48, 48, 48, 48, 48, 48, 48, 48, 48, 48]⟩ w (by decide) (of_decide_eq_true (by kernel_rfl))).mono ?_
  rintro e w' hR
  rw [show pv ⟨#[49, 48, 48, 48, 48, 48, 48, 48, 48, 48, 48, 48, 48, 48, 48, 48, 48, 48, 48, 48, 48]⟩ (ByteArray.size ⟨#[49, 48, 48, 48, 48, 48, 48, 48, 48, 48, 48, 48, 48, 48, 48, 48, 48, 48, 48, 48, 48]⟩) = 10 ^ 20 by kernel_rfl] at hR
  exact hR.open (Big_of (k := 2) (by decide) (by omega))
theorem Parse_third (w : World) : Calls Try.prog 67 #[.string ⟨#[51, 51, 51, 51, 51, 51, 51, 51, 51, 51, 51, 51, 51, 51, 51, 51, 51, 51, 51, 51]⟩] w fun e w' => ∃ A n c zs, e = .returned (.slice A n c) ∧ Nu w w' A n c zs 33333333333333333333 := by
  refine (Parse_ok ⟨#[51, 51, 51, 51, 51, 51, 51, 51, 51, 51, 51, 51, 51, 51, 51, 51, 51, 51, 51, 51]⟩ w (by decide) (of_decide_eq_true (by kernel_rfl))).mono ?_
  rintro e w' hR
  rw [show pv ⟨#[51, 51, 51, 51, 51, 51, 51, 51, 51, 51, 51, 51, 51, 51, 51, 51, 51, 51, 51, 51]⟩ (ByteArray.size ⟨#[51, 51, 51, 51, 51, 51, 51, 51, 51, 51, 51, 51, 51, 51, 51, 51, 51, 51, 51, 51]⟩) = 33333333333333333333 by kernel_rfl] at hR
  exact hR.open (Big_of (k := 2) (by decide) (by omega))
/-- Is of two numbers that are the same -/
theorem Is_two {w w0 w0' : World} {A A' : Option Addr} {n n' c c' x : Nat} {zs zs' : List Nat} (h : Nu w0 w A n c zs x) (h' : Nu w0' w A' n' c' zs' x) :
    Calls Try.prog 17 #[.slice A n c, .slice A' n' c'] w fun e w' => e = .returned (.bool true) ∧ Below w.heap.size w w' :=
  Is_ok A A' n n' c c' zs zs' w h.2.2.2.1 h'.2.2.2.1 h.1 h'.1 h.2.1 (by rw [h.2.2.1, h'.2.2.1])
/-- Is of a number and a row -/
theorem Is_row {w w0 : World} {A A' : Option Addr} {n n' c c' x : Nat} {zs zs' : List Nat} (h : Nu w0 w A n c zs x) (h' : Sl w A' n' c' zs') (hn : n' ≤ 4096) (hv : V zs' = x) :
    Calls Try.prog 17 #[.slice A n c, .slice A' n' c'] w fun e w' => e = .returned (.bool true) ∧ Below w.heap.size w w' :=
  Is_ok A A' n n' c c' zs zs' w h.2.2.2.1 hn h.1 h' h.2.1 (by rw [h.2.2.1, hv])
theorem Is_square {w w0 : World} {A : Option Addr} {n c : Nat} {zs : List Nat} (h : Nu w0 w A n c zs (18446744073709551615 * 18446744073709551615)) :
    Calls Try.prog 17 #[.slice A n c, .slice (some ⟨w.heap.size, 0, none⟩) 2 2] (w.alloc (.cells #[.int .u64 1, .int .u64 18446744073709551614] 37)) fun e w' => e = .returned (.bool true) ∧ Below w.heap.size w w' := by
  have hb : Below w.heap.size w (w.alloc (.cells #[.int .u64 1, .int .u64 18446744073709551614] 37)) := (Below.refl _ _).alloc (Nat.le_refl _) _
  refine (Is_row (h.keep hb) (Sl_two w 1 18446744073709551614 (by decide) (by decide)) (by omega) (by decide)).mono ?_
  rintro e w' ⟨rfl, hbw⟩
  exact ⟨rfl, hb.trans (hbw.mono hb.size)⟩
theorem Is_1 {w w0 : World} {A : Option Addr} {n c : Nat} {zs : List Nat} (h : Nu w0 w A n c zs 1) :
    Calls Try.prog 17 #[.slice A n c, .slice (some ⟨w.heap.size, 0, none⟩) 1 1] (w.alloc (.cells #[.int .u64 1] 37)) fun e w' => e = .returned (.bool true) ∧ Below w.heap.size w w' := by
  have hb := W1_below w 1
  refine (Is_row (h.keep hb) (Sl_one w 1 (by decide)) (by omega) (by decide)).mono ?_
  rintro e w' ⟨rfl, hbw⟩
  exact ⟨rfl, hb.trans (hbw.mono hb.size)⟩

set_option maxHeartbeats 4000000 in
theorem nawake_any (w : World) : Calls Try.prog 20 #[] w fun e w' => e = .returned (.bool true) ∧ Below w.heap.size w w' := by
  go_enter Try.func20, Try.ntmps20
  go_wp2_with (fail)
  refine (Pow_ten _).mono ?_
  rintro e w1 ⟨A1, n1, c1, zs1, rfl, h1⟩
  have H1 := Lib.hid h1
  clear h1
  go_wp2_with (fail)
  refine (Square_top _).mono ?_
  rintro e w2 ⟨A2, n2, c2, zs2, rfl, h2⟩
  have H2 := Lib.hid (And.intro (H1.out.keep h2.bel) (h2.from H1.out.bel))
  clear h2 H1
  go_wp2_with (fail)
  refine (DivMod_third _).mono ?_
  rintro e w3 ⟨A3, n3, c3, zs3, A4, n4, c4, zs4, rfl, h3, h4⟩
  have H3 := Lib.hid (And.intro (H2.out.1.keep h3.bel) (And.intro (H2.out.2.keep h3.bel) (And.intro (h3.from H2.out.1.bel) (h4.from H2.out.1.bel))))
  clear h3 h4 H2
  go_wp2_with (fail)
  refine (Sub_below _).mono ?_
  rintro e w4 ⟨rfl, b4⟩
  have H4 := Lib.hid (And.intro (H3.out.1.keep b4) (And.intro (H3.out.2.1.keep b4) (And.intro (H3.out.2.2.1.keep b4) (H3.out.2.2.2.keep b4))))
  clear b4 H3
  go_wp2_with (fail)
  refine (Parse_ten _).mono ?_
  rintro e w5 ⟨A5, n5, c5, zs5, rfl, h5⟩
  have H5 := Lib.hid (And.intro (H4.out.1.keep h5.bel) (And.intro (H4.out.2.1.keep h5.bel) (And.intro (H4.out.2.2.1.keep h5.bel) (And.intro (H4.out.2.2.2.keep h5.bel) h5))))
  clear h5 H4
  go_wp2_with (fail)
  refine (Is_two H5.out.1 H5.out.2.2.2.2).mono ?_
  rintro e w6 ⟨rfl, b6⟩
  have H6 := Lib.hid (And.intro (H5.out.2.1.keep b6) (And.intro (H5.out.2.2.1.keep b6) (H5.out.2.2.2.1.keep b6)))
  clear b6 H5
  go_wp2_with (fail)
  refine (Is_square H6.out.1).mono ?_
  rintro e w7 ⟨rfl, b7⟩
  have H7 := Lib.hid (And.intro (H6.out.2.1.keep b7) (H6.out.2.2.keep b7))
  clear b7 H6
  go_wp2_with (fail)
  refine (Parse_third _).mono ?_
  rintro e w8 ⟨A8, n8, c8, zs8, rfl, h8⟩
  have H8 := Lib.hid (And.intro (H7.out.1.keep h8.bel) (And.intro (H7.out.2.keep h8.bel) h8))
  clear h8 H7
  go_wp2_with (fail)
  refine (Is_two H8.out.1 H8.out.2.2).mono ?_
  rintro e w9 ⟨rfl, b9⟩
  have H9 := Lib.hid (H8.out.2.1.keep b9)
  clear b9 H8
  go_wp2_with (fail)
  refine (Is_1 H9.out).mono ?_
  rintro e w10 ⟨rfl, b10⟩
  have H10 := Lib.hid (H9.out.bel.trans (b10.mono H9.out.bel.size))
  clear b10 H9
  go_wp2_with (fail)
  go_ret
  exact ⟨rfl, H10.out⟩
end Go.Proofs.Ytekikolhnfofeaa
