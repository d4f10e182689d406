/- The walk of the law NttRoots. -/
import Derived.Test.YtcnambjckmpipaaDoorZYLaw
import Derived.Test.YtcnambjckmpipaaDoorP12
import Derived.OpenShut
namespace Go.Proofs.YtcnambjckmpipaaDoor.nttRoots
open Go.ChangeShapes Go.RowKit
set_option linter.unusedVariables false
set_option linter.unusedSimpArgs false

set_option maxHeartbeats 400000 in
theorem R4Root_ok (k N : Nat) (w : World) (hk : k ≤ 16) (hN : N = 2 ^ k) :
    Calls Tryd.prog 28 #[.int .i64 N] w fun e w' => e = .returned (.int .u64 ((rt k : Nat) : Int)) ∧ Below w.heap.size w w' := by
  have hN16 : N ≤ 65536 := by rw [hN]; exact Nat.pow_le_pow_right (n := 2) (by decide) hk
  have hN0 : 0 < N := by rw [hN]; exact Nat.pow_pos (by decide)
  obtain ⟨q, hq⟩ : ∃ q, q = 18446744069414584320 / N := ⟨_, rfl⟩
  have hqB : q ≤ 18446744069414584320 := by rw [hq]; exact Nat.div_le_self _ _
  have h1 : IntKind.u64.wrap (N : Int) = (N : Int) := wrap_nat N (by have : B64 = 18446744073709551616 := rfl; omega)
  have h2 : ¬ N = 0 := by omega
  have h3 : ¬ (N : Int) = 0 := by omega
  have h4 : (18446744069414584320 : Int).tdiv (N : Int) = (q : Int) := by rw [Int.tdiv_eq_ediv_of_nonneg (by omega), hq]; simp
  have h5 : (18446744069414584320 : Int) / (N : Int) = (q : Int) := by rw [hq]; simp
  have h6 : IntKind.u64.wrap (q : Int) = (q : Int) := wrap_nat q (by have : B64 = 18446744073709551616 := rfl; omega)
  have hr : rt k = 7 ^ q % PP := by
    rw [rt_def, hq, hN]
    rfl
  have hc := R4Pow_ok 7 q w (by decide) (by have : B64 = 18446744073709551616 := rfl; omega)
  rw [← hr] at hc
  have HC := Lib.hid hc
  clear hc hr hq hN hqB
  go_enter Tryd.func28, Tryd.ntmps28
  go_wp2_with (fail)
  refine HC.out.mono ?_
  rintro e w1 ⟨rfl, hb⟩
  have H1 := Lib.hid hb
  clear hb
  go_wp2_with (fail)
  go_ret
  exact ⟨rfl, H1.out⟩
open Classical in
set_option maxRecDepth 100000 in
set_option maxHeartbeats 8000000 in
theorem walk (w : World) (a0 : Int) (w0 : (Lit.int .i64 a0).wf = true) (hT : TabY w) :
    Calls Tryd.prog 4 #[.int .i64 a0] w fun e w' => e = .returned (.bool true) ∧ Below w.heap.size w w' := by
  have hb0 := bounds_i64 w0
  have HT := Lib.hid hT
  clear hT w0
  go_enter Tryd.func4, Tryd.ntmps4
  go_wp2_with (fail)
  go_loopw [0, 3, 4, 5] (fun nv iv _ _ wr => ∃ (k : Nat) (n : Int), k ≤ 2 ∧ iv = .int .i64 k ∧ nv = .int .i64 n ∧ Hid (-9223372036854775808 ≤ n ∧ n ≤ 9223372036854775807 ∧ Below w.heap.size w wr)) (fun _ iv _ _ _ => 2 - (intOf iv).toNat)
  case atStart => exact ⟨0, a0, by omega, rfl, rfl, Lib.hid ⟨by omega, by omega, Below.refl _ _⟩⟩
  case round =>
    obtain ⟨k, n, hk, rfl, rfl, H⟩ := hrel
    by_cases hlt : k < 2
    · have hki : (k : Int) < 2 := by omega
      have hw := IntKind.wrap_u64 n
      obtain ⟨s, hs, hs16⟩ : ∃ s : Nat, (IntKind.u64.wrap n).tmod 17 = (s : Int) ∧ s ≤ 16 := ⟨(IntKind.u64.wrap n % 17).toNat, by rw [Int.tmod_eq_emod_of_nonneg (by rw [hw]; omega)]; omega, by omega⟩
      have hs2 : IntKind.u64.wrap n % 17 = (s : Int) := by rw [← hs, Int.tmod_eq_emod_of_nonneg (by rw [hw]; omega)]
      have hsw : IntKind.u64.wrap (s : Int) = (s : Int) := wrap_nat s (by have : B64 = 18446744073709551616 := rfl; omega)
      have hs0 : (0 : Int) ≤ (s : Int) := by omega
      have hs64 : (s : Int) ≤ 64 := by omega
      have hp : (2 : Nat) ^ s ≤ 65536 := Nat.pow_le_pow_right (n := 2) (by decide) hs16
      obtain ⟨N, hN⟩ : ∃ N : Nat, 2 ^ s = N := ⟨_, rfl⟩
      have hsh : IntKind.i64.wrap (2 ^ s) = (N : Int) := by
        rw [show ((2 : Int) ^ s) = ((2 ^ s : Nat) : Int) by push_cast; rfl, hN]
        exact IntWalk.i64_in _ (by omega)
      have HNn := Lib.hid (show N ≤ 65536 by omega)
      have hrt := YRoot_ok n wr H.out.2.1 H.out.1
      have hlen := fun W => R4Length_ok n W H.out.2.1 H.out.1
      clear hw hp hN
      by_cases hL : IsLen n
      · obtain ⟨j, hj, hn⟩ := id hL
        have hln : Hid (∀ W, Calls Tryd.prog 27 #[.int .i64 n] W fun e w' => e = .returned (.bool true) ∧ W = w') := Lib.hid (by intro W; have := hlen W; rwa [decide_eq_true hL] at this)
        have hr2 : Hid (Calls Tryd.prog 26 #[.int .i64 n] wr fun e w' => e = .returned (.tuple #[.int .u64 ((rt j : Nat) : Int), .int .i64 0]) ∧ Below wr.heap.size wr w') := Lib.hid (hrt.mono (by
          rintro e w' ⟨⟨k', hk', h2, rfl⟩ | ⟨h, -⟩, hb⟩
          · obtain rfl : k' = j := two_inj (by omega)
            exact ⟨rfl, hb⟩
          · exact absurd hL h))
        have hr4 : Hid (∀ W, Calls Tryd.prog 28 #[.int .i64 n] W fun e w' => e = .returned (.int .u64 ((rt j : Nat) : Int)) ∧ Below W.heap.size W w') := Lib.hid (by intro W; rw [hn]; exact R4Root_ok j _ W hj rfl)
        clear hL hlen hrt hn
        go_wp2_with (fail)
        refine hr2.out.mono ?_
        rintro e w1 ⟨rfl, b1⟩
        have H1 := Lib.hid (H.out.2.2.trans (b1.mono H.out.2.2.size))
        clear b1
        go_wp2_with (fail)
        refine (hln.out _).mono ?_
        rintro e w2 ⟨rfl, rfl⟩
        go_wp2_with (fail)
        refine (hr4.out _).mono ?_
        rintro e w3 ⟨rfl, b3⟩
        have H3 := Lib.hid (H1.out.trans (b3.mono H1.out.size))
        clear b3 H1
        go_wp2_with (fail)
        go_roundw
        case rel => exact ⟨k + 1, N, by omega, by go_num, rfl, Lib.hid ⟨by omega, by have := HNn.out; omega, H3.out⟩⟩
        case measure => simp [intOf]; omega
      · have hln : Hid (∀ W, Calls Tryd.prog 27 #[.int .i64 n] W fun e w' => e = .returned (.bool false) ∧ W = w') := Lib.hid (by intro W; have := hlen W; rwa [decide_eq_false hL] at this)
        have hr2 : Hid (Calls Tryd.prog 26 #[.int .i64 n] wr fun e w' => e = .returned (.tuple #[.int .u64 0, .int .i64 1]) ∧ Below wr.heap.size wr w') := Lib.hid (hrt.mono (by
          rintro e w' ⟨⟨k', hk', h2, rfl⟩ | ⟨h, rfl⟩, hb⟩
          · exact absurd ⟨k', hk', h2⟩ hL
          · exact ⟨rfl, hb⟩))
        clear hL hlen hrt
        go_wp2_with (fail)
        refine hr2.out.mono ?_
        rintro e w1 ⟨rfl, b1⟩
        have H1 := Lib.hid (H.out.2.2.trans (b1.mono H.out.2.2.size))
        clear b1
        go_wp2_with (fail)
        refine (hln.out _).mono ?_
        rintro e w2 ⟨rfl, rfl⟩
        go_wp2_with (fail)
        go_roundw
        case rel => exact ⟨k + 1, N, by omega, by go_num, rfl, Lib.hid ⟨by omega, by have := HNn.out; omega, H1.out⟩⟩
        case measure => simp [intOf]; omega
    · have hki : ¬ (k : Int) < 2 := by omega
      obtain rfl : k = 2 := by omega
      go_wp2_with (fail)
      refine (yawake_any _ (HT.out.below H.out.2.2)).mono ?_
      rintro e w1 ⟨rfl, b1⟩
      have H1 := Lib.hid (H.out.2.2.trans (b1.mono H.out.2.2.size))
      clear b1
      go_wp2_with (fail)
      go_ret
      exact ⟨rfl, H1.out⟩
end Go.Proofs.YtcnambjckmpipaaDoor.nttRoots
