/- The walk of the law WordsShifts. -/
import Derived.Test.YtnhoodpglbjhhaaRShift
import Derived.Test.YtnhoodpglbjhhaaAwake
import Derived.Test.YtnhoodpglbjhhaaEq
import Derived.Test.YtnhoodpglbjhhaaBacksM
import Derived.OpenShut
namespace Go.Proofs.Ytnhoodpglbjhhaa.wordsShifts
open Go.ChangeShapes Go.RowKit
set_option linter.unusedVariables false

theorem two_sums {us bs : List Nat} {n c d t : Nat} (wa : Ws us) (wb : Ws bs) (la : us.length = n) (lb : bs.length = n) (h1 : V us + c * B64 ^ n = t) (h2 : V bs + d * B64 ^ n = t) : bs = us ∧ d = c := by
  have l1 := V_lt us wa
  have l2 := V_lt bs wb
  rw [la] at l1
  rw [lb] at l2
  obtain ⟨e1, e2⟩ := uniq (d := d) (e := c) l2 l1 (by omega)
  exact ⟨V_inj bs us wb wa (by omega) e1, e2⟩
theorem two_quos {us bs : List Nat} {n c d p t : Nat} (wa : Ws us) (wb : Ws bs) (la : us.length = n) (lb : bs.length = n) (hc : c < p) (hd : d < p) (h1 : V us * p + c = t) (h2 : V bs * p + d = t) : bs = us ∧ d = c := by
  obtain ⟨e1, e2⟩ := uniq (x := d) (y := c) (d := V bs) (e := V us) hd hc (by omega)
  exact ⟨V_inj bs us wb wa (by omega) e2, e1⟩

set_option maxRecDepth 100000 in
set_option maxHeartbeats 2000000 in
theorem walk (w : World) (a0 : Option Addr) (n0 c0 : Nat) (xs : List Nat) (hx : Sl w a0 n0 c0 xs) (a1 : Int) (w1 : (Lit.int .i64 a1).wf = true) :
    Calls Try.prog 6 #[.slice a0 n0 c0, .int .i64 a1] w fun e w' => e = .returned (.bool true) ∧ Below w.heap.size w w' := by
  have Hx := Lib.hid hx
  clear hx w1
  go_enter Try.func6, Try.ntmps6
  go_wp2_with (fail)
  refine (few_ok _ _ _ 40 xs _ Hx.out (by omega)).mono ?_
  rintro e w1 ⟨v1, rfl, hn1, hb1⟩
  obtain ⟨k, hk, hk'⟩ : ∃ k, min 40 n0 = k ∧ k ≤ 40 := ⟨_, rfl, by omega⟩
  rw [hk] at hn1
  obtain ⟨A, c, rfl, hs1⟩ := hn1.sl
  generalize xs.take 40 = ps at *
  have H1 := Lib.hid (And.intro hs1 hb1)
  clear hn1 hs1 hb1 hk
  go_wp2_with (fail)
  go_loopw [1, 6] (fun sv iv wr => ∃ (m : Nat) (s : Int), m ≤ 2 ∧ iv = .int .i64 m ∧ sv = .int .i64 s ∧ Hid (Sl wr A k c ps ∧ Below w.heap.size w wr)) (fun _ iv _ => 2 - (intOf iv).toNat)
  case atStart => exact ⟨0, a1, by omega, rfl, rfl, H1⟩
  case round =>
    clear H1
    obtain ⟨m, s, hm, rfl, rfl, hH⟩ := hrel
    by_cases hlt : m < 2
    · obtain ⟨u, cc, hu, hu1, hu2⟩ := u64_mod s
      clear hu1 hu2
      obtain ⟨t, ht, ht1⟩ : ∃ t : Nat, (u : Int) % 64 = (t : Int) ∧ t ≤ 63 := ⟨u % 64, by omega, by omega⟩
      rcases (show s < 0 ∨ 63 < s ∨ (0 ≤ s ∧ s ≤ 63) by omega) with hs | hs | ⟨hs, hs'⟩
      · go_wp2_with (fail)
        refine (Left_arg _ k _ s _ (by omega) (.inl hs)).mono ?_
        rintro e w3 ⟨rfl, b3⟩
        have H3 := Lib.hid (And.intro (hH.out.1.below b3) (hH.out.2.trans (b3.mono hH.out.2.size)))
        clear hH b3
        go_wp2_with (fail)
        refine (Right_arg _ k _ s _ (by omega) (.inl hs)).mono ?_
        rintro e w4 ⟨rfl, b4⟩
        have H4 := Lib.hid (And.intro (H3.out.1.below b4) (H3.out.2.trans (b4.mono H3.out.2.size)))
        clear H3 b4
        go_wp2_with (fail)
        go_roundw
        case rel => exact ⟨m + 1, (t : Int), by omega, by go_num, by first | rfl | rw [ht], H4⟩
        case measure => simp [intOf]; omega
      · go_wp2_with (fail)
        refine (Left_arg _ k _ s _ (by omega) (.inr hs)).mono ?_
        rintro e w3 ⟨rfl, b3⟩
        have H3 := Lib.hid (And.intro (hH.out.1.below b3) (hH.out.2.trans (b3.mono hH.out.2.size)))
        clear hH b3
        go_wp2_with (fail)
        refine (Right_arg _ k _ s _ (by omega) (.inr hs)).mono ?_
        rintro e w4 ⟨rfl, b4⟩
        have H4 := Lib.hid (And.intro (H3.out.1.below b4) (H3.out.2.trans (b4.mono H3.out.2.size)))
        clear H3 b4
        go_wp2_with (fail)
        go_roundw
        case rel => exact ⟨m + 1, (t : Int), by omega, by go_num, by first | rfl | rw [ht], H4⟩
        case measure => simp [intOf]; omega
      · obtain ⟨z, rfl⟩ := Int.eq_ofNat_of_zero_le hs
        have hz : z ≤ 63 := by omega
        go_wp2_with (fail)
        refine (Left_ok _ _ _ ps z _ (by omega) hH.out.1 hz).mono ?_
        rintro e w3 ⟨v3, z3, d3, rfl, hd3, hv3, hn3, b3⟩
        obtain ⟨P3, g3, rfl, hP3⟩ := hn3.sl
        have H3 := Lib.hid (And.intro (hH.out.1.below b3) (And.intro (hH.out.2.trans (b3.mono hH.out.2.size)) (And.intro hP3 hv3)))
        clear hH b3 hP3 hv3 hn3 hd3
        go_wp2_with (fail)
        refine (Right_ok _ _ _ ps z _ (by omega) H3.out.1 hz).mono ?_
        rintro e w4 ⟨v4, z4, d4, rfl, hd4, hv4, hn4, b4⟩
        obtain ⟨P4, g4, rfl, hP4⟩ := hn4.sl
        obtain ⟨D4, hD4⟩ : ∃ D4 : Nat, d4 * 2 ^ (64 - z) = D4 := ⟨_, rfl⟩
        rw [hD4]
        have H4 := Lib.hid (And.intro (H3.out.1.below b4) (And.intro (H3.out.2.1.trans (b4.mono H3.out.2.1.size)) (And.intro (H3.out.2.2.1.below b4) (And.intro hP4 (And.intro hv4 (And.intro hd4 hD4))))))
        clear b4 hP4 hv4 hn4 hd4 hD4
        go_wp2_with (fail)
        refine (RLeft_ok _ _ _ ps z _ (by omega) H4.out.1 hz).mono ?_
        rintro e w5 ⟨v5, z5, d5, rfl, hn5, hv5, b5⟩
        obtain ⟨P5, g5, rfl, hP5⟩ := hn5.sl
        obtain ⟨rfl, rfl⟩ := two_sums (c := d3) (d := d5) H4.out.2.2.1.2.2.2.1 hP5.2.2.2.1 H4.out.2.2.1.1 hP5.1 H3.out.2.2.2 hv5
        have H5 := Lib.hid (And.intro (H4.out.1.below b5) (And.intro (H4.out.2.1.trans (b5.mono H4.out.2.1.size)) (And.intro (H4.out.2.2.1.below b5) (And.intro (H4.out.2.2.2.1.below b5) hP5))))
        clear b5 hP5 hv5 hn5 H3
        go_wp2_with (fail)
        refine (RRight_ok _ _ _ ps z _ (by omega) H5.out.1 hz).mono ?_
        rintro e w6 ⟨v6, z6, d6, rfl, hd6, hn6, hv6, b6⟩
        obtain ⟨P6, g6, rfl, hP6⟩ := hn6.sl
        obtain ⟨rfl, rfl⟩ := two_quos (c := d4) (d := d6) H4.out.2.2.2.1.2.2.2.1 hP6.2.2.2.1 H4.out.2.2.2.1.1 hP6.1 H4.out.2.2.2.2.2.1 hd6 H4.out.2.2.2.2.1 hv6
        rw [H4.out.2.2.2.2.2.2]
        have H6 := Lib.hid (And.intro (H5.out.1.below b6) (And.intro (H5.out.2.1.trans (b6.mono H5.out.2.1.size)) (And.intro (H5.out.2.2.1.below b6) (And.intro (H5.out.2.2.2.1.below b6) (And.intro (H5.out.2.2.2.2.below b6) hP6)))))
        clear b6 hP6 hv6 hn6 hd6 H4 H5
        go_wp2_with (fail)
        refine (same_any _ _ _ _ _ _ _ _ _ H6.out.2.2.1 H6.out.2.2.2.2.1 (by omega)).mono ?_
        rintro e w7 ⟨rfl, m1, rfl⟩
        rw [decide_eq_true rfl]
        have H7 : Hid (Sl (w6.drewN m1) A k c ps ∧ Below w.heap.size w (w6.drewN m1) ∧ Sl (w6.drewN m1) P4 k g4 z6 ∧ Sl (w6.drewN m1) P6 k g6 z6) := ⟨H6.out.1, below_drewN H6.out.2.1 m1, H6.out.2.2.2.1, H6.out.2.2.2.2.2⟩
        clear H6
        generalize w6.drewN m1 = w7 at *
        go_wp2_with (fail)
        refine (same_any _ _ _ _ _ _ _ _ _ H7.out.2.2.1 H7.out.2.2.2 (by omega)).mono ?_
        rintro e w8 ⟨rfl, m2, rfl⟩
        rw [decide_eq_true rfl]
        have H8 : Hid (Sl (w7.drewN m2) A k c ps ∧ Below w.heap.size w (w7.drewN m2)) := ⟨H7.out.1, below_drewN H7.out.2.1 m2⟩
        clear H7
        generalize w7.drewN m2 = w8 at *
        go_wp2_with (fail)
        go_roundw
        case rel => exact ⟨m + 1, (t : Int), by omega, by go_num, by first | rfl | rw [ht], H8⟩
        case measure => simp [intOf]; omega
    · go_wp2_with (fail)
      refine (awake_any _).mono ?_
      rintro e w3 ⟨rfl, b3⟩
      go_wp2_with (fail)
      go_ret
      exact ⟨rfl, hH.out.2.trans (b3.mono hH.out.2.size)⟩
end Go.Proofs.Ytnhoodpglbjhhaa.wordsShifts
