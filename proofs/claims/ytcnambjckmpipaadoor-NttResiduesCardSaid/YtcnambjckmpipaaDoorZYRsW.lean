/- The walk of the law NttResidues. -/
import Derived.Test.YtcnambjckmpipaaDoorZYLaw
import Derived.Test.YtcnambjckmpipaaDoorP12
import Derived.OpenShut
namespace Go.Proofs.YtcnambjckmpipaaDoor.nttResidues
open Go.ChangeShapes Go.RowKit
set_option linter.unusedVariables false
set_option linter.unusedSimpArgs false

theorem op_yes {ok : Prop} [Decidable ok] {x : Nat} {e : Ending} (h : OpR ok x e) (hk : ok) : e = .returned (.tuple #[.int .u64 (x : Int), .int .i64 0]) := by
  unfold OpR at h
  rwa [if_pos hk, if_pos hk] at h
theorem op_no {ok : Prop} [Decidable ok] {x : Nat} {e : Ending} (h : OpR ok x e) (hk : ¬ ok) : e = .returned (.tuple #[.int .u64 0, .int .i64 1]) := by
  unfold OpR at h
  rw [if_neg hk, if_neg hk] at h
  exact h
/-- a contract: whatever the world, the call answers so and makes memory alone -/
def An (f : FuncId) (args : Array Value) (v : Value) : Prop := ∀ W, Calls Tryd.prog f args W fun e w' => e = .returned v ∧ Below W.heap.size W w'
theorem An.of {f : FuncId} {args : Array Value} {v : Value} (h : ∀ W, Calls Tryd.prog f args W fun e w' => e = .returned v ∧ W = w') : An f args v := fun W => (h W).mono (by rintro e w' ⟨rfl, rfl⟩; exact ⟨rfl, Below.refl _ _⟩)
theorem ans_big_x {a b k : Nat} (ha : a < B64) (hb : b < B64) (hk : k < B64) (hA : PP ≤ a) : ∃ XR1 XR2 : Nat, An 13 #[.int .u64 (a : Int), .int .u64 (b : Int)] (.tuple #[.int .u64 0, .int .i64 1]) ∧ An 14 #[.int .u64 (a : Int), .int .u64 (b : Int)] (.tuple #[.int .u64 0, .int .i64 1]) ∧ An 15 #[.int .u64 (a : Int), .int .u64 (b : Int)] (.tuple #[.int .u64 0, .int .i64 1]) ∧ An 16 #[.int .u64 (a : Int), .int .u64 (k : Int)] (.tuple #[.int .u64 0, .int .i64 1]) ∧ An 17 #[.int .u64 (a : Int)] (.tuple #[.int .u64 0, .int .i64 1]) ∧ An 23 #[.int .u64 (a : Int), .int .u64 (b : Int)] (.int .u64 ((XR1 : Nat) : Int)) ∧ An 24 #[.int .u64 (a : Int), .int .u64 (b : Int)] (.int .u64 ((XR1 : Nat) : Int)) ∧ An 23 #[.int .u64 (k : Int), .int .u64 (a : Int)] (.int .u64 ((XR2 : Nat) : Int)) ∧ An 24 #[.int .u64 (k : Int), .int .u64 (a : Int)] (.int .u64 ((XR2 : Nat) : Int)) := by
  refine ⟨(a * B64 + b) % PP, (k * B64 + a) % PP, ?_, ?_, ?_, ?_, ?_, ?_, ?_, ?_, ?_⟩
  · exact fun W => (YAdd_ok a b W ha hb).mono (by rintro e w' ⟨h, b1⟩; exact ⟨op_no h (fun h9 => by omega), b1⟩)
  · exact fun W => (YSub_ok a b W ha hb).mono (by rintro e w' ⟨h, b1⟩; exact ⟨op_no h (fun h9 => by omega), b1⟩)
  · exact fun W => (YTimes_ok a b W ha hb).mono (by rintro e w' ⟨h, b1⟩; exact ⟨op_no h (fun h9 => by omega), b1⟩)
  · exact fun W => (YPow_ok a k W ha hk).mono (by rintro e w' ⟨h, b1⟩; exact ⟨op_no h (by omega), b1⟩)
  · exact fun W => (YInverse_ok a W ha).mono (by rintro e w' ⟨rfl, b1⟩; rw [if_neg (by omega), if_pos hA]; exact ⟨rfl, b1⟩)
  · exact An.of fun W => Reduce_ok a b W ha hb
  · exact fun W => R4Reduce_ok a b W ha hb
  · exact An.of fun W => Reduce_ok k a W hk ha
  · exact fun W => R4Reduce_ok k a W hk ha
theorem ans_zero_big {a b k : Nat} (ha : a < B64) (hb : b < B64) (hk : k < B64) (hA : a = 0) (hB : PP ≤ b) : ∃ XPow XR1 XR2 : Nat, An 13 #[.int .u64 (a : Int), .int .u64 (b : Int)] (.tuple #[.int .u64 0, .int .i64 1]) ∧ An 14 #[.int .u64 (a : Int), .int .u64 (b : Int)] (.tuple #[.int .u64 0, .int .i64 1]) ∧ An 15 #[.int .u64 (a : Int), .int .u64 (b : Int)] (.tuple #[.int .u64 0, .int .i64 1]) ∧ An 16 #[.int .u64 (a : Int), .int .u64 (k : Int)] (.tuple #[.int .u64 ((XPow : Nat) : Int), .int .i64 0]) ∧ An 17 #[.int .u64 (a : Int)] (.tuple #[.int .u64 0, .int .i64 5]) ∧ An 21 #[.int .u64 (a : Int), .int .u64 (k : Int)] (.int .u64 ((XPow : Nat) : Int)) ∧ An 23 #[.int .u64 (a : Int), .int .u64 (b : Int)] (.int .u64 ((XR1 : Nat) : Int)) ∧ An 24 #[.int .u64 (a : Int), .int .u64 (b : Int)] (.int .u64 ((XR1 : Nat) : Int)) ∧ An 23 #[.int .u64 (k : Int), .int .u64 (a : Int)] (.int .u64 ((XR2 : Nat) : Int)) ∧ An 24 #[.int .u64 (k : Int), .int .u64 (a : Int)] (.int .u64 ((XR2 : Nat) : Int)) := by
  refine ⟨a ^ k % PP, (a * B64 + b) % PP, (k * B64 + a) % PP, ?_, ?_, ?_, ?_, ?_, ?_, ?_, ?_, ?_, ?_⟩
  · exact fun W => (YAdd_ok a b W ha hb).mono (by rintro e w' ⟨h, b1⟩; exact ⟨op_no h (fun h9 => by omega), b1⟩)
  · exact fun W => (YSub_ok a b W ha hb).mono (by rintro e w' ⟨h, b1⟩; exact ⟨op_no h (fun h9 => by omega), b1⟩)
  · exact fun W => (YTimes_ok a b W ha hb).mono (by rintro e w' ⟨h, b1⟩; exact ⟨op_no h (fun h9 => by omega), b1⟩)
  · exact fun W => (YPow_ok a k W ha hk).mono (by rintro e w' ⟨h, b1⟩; exact ⟨op_yes h (by rw [hA]; decide), b1⟩)
  · exact fun W => (YInverse_ok a W ha).mono (by rintro e w' ⟨rfl, b1⟩; rw [if_neg (by omega), if_neg (by rw [hA]; decide), if_pos hA]; exact ⟨rfl, b1⟩)
  · exact fun W => R4Pow_ok a k W ha hk
  · exact An.of fun W => Reduce_ok a b W ha hb
  · exact fun W => R4Reduce_ok a b W ha hb
  · exact An.of fun W => Reduce_ok k a W hk ha
  · exact fun W => R4Reduce_ok k a W hk ha
theorem ans_zero_ok {a b k : Nat} (ha : a < B64) (hb : b < B64) (hk : k < B64) (hA : a = 0) (hB : b < PP) : ∃ XAdd XSub XTimes XPow XR1 XR2 : Nat, An 13 #[.int .u64 (a : Int), .int .u64 (b : Int)] (.tuple #[.int .u64 ((XAdd : Nat) : Int), .int .i64 0]) ∧ An 14 #[.int .u64 (a : Int), .int .u64 (b : Int)] (.tuple #[.int .u64 ((XSub : Nat) : Int), .int .i64 0]) ∧ An 15 #[.int .u64 (a : Int), .int .u64 (b : Int)] (.tuple #[.int .u64 ((XTimes : Nat) : Int), .int .i64 0]) ∧ An 16 #[.int .u64 (a : Int), .int .u64 (k : Int)] (.tuple #[.int .u64 ((XPow : Nat) : Int), .int .i64 0]) ∧ An 17 #[.int .u64 (a : Int)] (.tuple #[.int .u64 0, .int .i64 5]) ∧ An 18 #[.int .u64 (a : Int), .int .u64 (b : Int)] (.int .u64 ((XAdd : Nat) : Int)) ∧ An 19 #[.int .u64 (a : Int), .int .u64 (b : Int)] (.int .u64 ((XSub : Nat) : Int)) ∧ An 20 #[.int .u64 (a : Int), .int .u64 (b : Int)] (.int .u64 ((XTimes : Nat) : Int)) ∧ An 21 #[.int .u64 (a : Int), .int .u64 (k : Int)] (.int .u64 ((XPow : Nat) : Int)) ∧ An 23 #[.int .u64 (a : Int), .int .u64 (b : Int)] (.int .u64 ((XR1 : Nat) : Int)) ∧ An 24 #[.int .u64 (a : Int), .int .u64 (b : Int)] (.int .u64 ((XR1 : Nat) : Int)) ∧ An 23 #[.int .u64 (k : Int), .int .u64 (a : Int)] (.int .u64 ((XR2 : Nat) : Int)) ∧ An 24 #[.int .u64 (k : Int), .int .u64 (a : Int)] (.int .u64 ((XR2 : Nat) : Int)) := by
  refine ⟨(a + b) % PP, (a + (PP - b)) % PP, a * b % PP, a ^ k % PP, (a * B64 + b) % PP, (k * B64 + a) % PP, ?_, ?_, ?_, ?_, ?_, ?_, ?_, ?_, ?_, ?_, ?_, ?_, ?_⟩
  · exact fun W => (YAdd_ok a b W ha hb).mono (by rintro e w' ⟨h, b1⟩; exact ⟨op_yes h ⟨(by rw [hA]; decide), hB⟩, b1⟩)
  · exact fun W => (YSub_ok a b W ha hb).mono (by rintro e w' ⟨h, b1⟩; exact ⟨op_yes h ⟨(by rw [hA]; decide), hB⟩, b1⟩)
  · exact fun W => (YTimes_ok a b W ha hb).mono (by rintro e w' ⟨h, b1⟩; exact ⟨op_yes h ⟨(by rw [hA]; decide), hB⟩, b1⟩)
  · exact fun W => (YPow_ok a k W ha hk).mono (by rintro e w' ⟨h, b1⟩; exact ⟨op_yes h (by rw [hA]; decide), b1⟩)
  · exact fun W => (YInverse_ok a W ha).mono (by rintro e w' ⟨rfl, b1⟩; rw [if_neg (by omega), if_neg (by rw [hA]; decide), if_pos hA]; exact ⟨rfl, b1⟩)
  · exact fun W => R4Add_ok a b W ha hb
  · exact fun W => R4Sub_ok a b W ha hB
  · exact fun W => R4Times_ok a b W ha hb
  · exact fun W => R4Pow_ok a k W ha hk
  · exact An.of fun W => Reduce_ok a b W ha hb
  · exact fun W => R4Reduce_ok a b W ha hb
  · exact An.of fun W => Reduce_ok k a W hk ha
  · exact fun W => R4Reduce_ok k a W hk ha
theorem ans_one_big {a b k : Nat} (ha : a < B64) (hb : b < B64) (hk : k < B64) (hA : a < PP) (h0 : 0 < a) (hB : PP ≤ b) : ∃ XPow XInv XR1 XR2 : Nat, An 13 #[.int .u64 (a : Int), .int .u64 (b : Int)] (.tuple #[.int .u64 0, .int .i64 1]) ∧ An 14 #[.int .u64 (a : Int), .int .u64 (b : Int)] (.tuple #[.int .u64 0, .int .i64 1]) ∧ An 15 #[.int .u64 (a : Int), .int .u64 (b : Int)] (.tuple #[.int .u64 0, .int .i64 1]) ∧ An 16 #[.int .u64 (a : Int), .int .u64 (k : Int)] (.tuple #[.int .u64 ((XPow : Nat) : Int), .int .i64 0]) ∧ An 17 #[.int .u64 (a : Int)] (.tuple #[.int .u64 ((XInv : Nat) : Int), .int .i64 0]) ∧ An 21 #[.int .u64 (a : Int), .int .u64 (k : Int)] (.int .u64 ((XPow : Nat) : Int)) ∧ An 22 #[.int .u64 (a : Int)] (.int .u64 ((XInv : Nat) : Int)) ∧ An 23 #[.int .u64 (a : Int), .int .u64 (b : Int)] (.int .u64 ((XR1 : Nat) : Int)) ∧ An 24 #[.int .u64 (a : Int), .int .u64 (b : Int)] (.int .u64 ((XR1 : Nat) : Int)) ∧ An 23 #[.int .u64 (k : Int), .int .u64 (a : Int)] (.int .u64 ((XR2 : Nat) : Int)) ∧ An 24 #[.int .u64 (k : Int), .int .u64 (a : Int)] (.int .u64 ((XR2 : Nat) : Int)) := by
  refine ⟨a ^ k % PP, a ^ (PP - 2) % PP, (a * B64 + b) % PP, (k * B64 + a) % PP, ?_, ?_, ?_, ?_, ?_, ?_, ?_, ?_, ?_, ?_, ?_⟩
  · exact fun W => (YAdd_ok a b W ha hb).mono (by rintro e w' ⟨h, b1⟩; exact ⟨op_no h (fun h9 => by omega), b1⟩)
  · exact fun W => (YSub_ok a b W ha hb).mono (by rintro e w' ⟨h, b1⟩; exact ⟨op_no h (fun h9 => by omega), b1⟩)
  · exact fun W => (YTimes_ok a b W ha hb).mono (by rintro e w' ⟨h, b1⟩; exact ⟨op_no h (fun h9 => by omega), b1⟩)
  · exact fun W => (YPow_ok a k W ha hk).mono (by rintro e w' ⟨h, b1⟩; exact ⟨op_yes h hA, b1⟩)
  · exact fun W => (YInverse_ok a W ha).mono (by rintro e w' ⟨rfl, b1⟩; rw [if_pos ⟨h0, hA⟩, if_neg (by omega), if_neg (by omega)]; exact ⟨rfl, b1⟩)
  · exact fun W => R4Pow_ok a k W ha hk
  · exact fun W => R4Inverse_ok a W ha
  · exact An.of fun W => Reduce_ok a b W ha hb
  · exact fun W => R4Reduce_ok a b W ha hb
  · exact An.of fun W => Reduce_ok k a W hk ha
  · exact fun W => R4Reduce_ok k a W hk ha
theorem ans_one_ok {a b k : Nat} (ha : a < B64) (hb : b < B64) (hk : k < B64) (hA : a < PP) (h0 : 0 < a) (hB : b < PP) : ∃ XAdd XSub XTimes XPow XInv XR1 XR2 : Nat, An 13 #[.int .u64 (a : Int), .int .u64 (b : Int)] (.tuple #[.int .u64 ((XAdd : Nat) : Int), .int .i64 0]) ∧ An 14 #[.int .u64 (a : Int), .int .u64 (b : Int)] (.tuple #[.int .u64 ((XSub : Nat) : Int), .int .i64 0]) ∧ An 15 #[.int .u64 (a : Int), .int .u64 (b : Int)] (.tuple #[.int .u64 ((XTimes : Nat) : Int), .int .i64 0]) ∧ An 16 #[.int .u64 (a : Int), .int .u64 (k : Int)] (.tuple #[.int .u64 ((XPow : Nat) : Int), .int .i64 0]) ∧ An 17 #[.int .u64 (a : Int)] (.tuple #[.int .u64 ((XInv : Nat) : Int), .int .i64 0]) ∧ An 18 #[.int .u64 (a : Int), .int .u64 (b : Int)] (.int .u64 ((XAdd : Nat) : Int)) ∧ An 19 #[.int .u64 (a : Int), .int .u64 (b : Int)] (.int .u64 ((XSub : Nat) : Int)) ∧ An 20 #[.int .u64 (a : Int), .int .u64 (b : Int)] (.int .u64 ((XTimes : Nat) : Int)) ∧ An 21 #[.int .u64 (a : Int), .int .u64 (k : Int)] (.int .u64 ((XPow : Nat) : Int)) ∧ An 22 #[.int .u64 (a : Int)] (.int .u64 ((XInv : Nat) : Int)) ∧ An 23 #[.int .u64 (a : Int), .int .u64 (b : Int)] (.int .u64 ((XR1 : Nat) : Int)) ∧ An 24 #[.int .u64 (a : Int), .int .u64 (b : Int)] (.int .u64 ((XR1 : Nat) : Int)) ∧ An 23 #[.int .u64 (k : Int), .int .u64 (a : Int)] (.int .u64 ((XR2 : Nat) : Int)) ∧ An 24 #[.int .u64 (k : Int), .int .u64 (a : Int)] (.int .u64 ((XR2 : Nat) : Int)) := by
  refine ⟨(a + b) % PP, (a + (PP - b)) % PP, a * b % PP, a ^ k % PP, a ^ (PP - 2) % PP, (a * B64 + b) % PP, (k * B64 + a) % PP, ?_, ?_, ?_, ?_, ?_, ?_, ?_, ?_, ?_, ?_, ?_, ?_, ?_, ?_⟩
  · exact fun W => (YAdd_ok a b W ha hb).mono (by rintro e w' ⟨h, b1⟩; exact ⟨op_yes h ⟨hA, hB⟩, b1⟩)
  · exact fun W => (YSub_ok a b W ha hb).mono (by rintro e w' ⟨h, b1⟩; exact ⟨op_yes h ⟨hA, hB⟩, b1⟩)
  · exact fun W => (YTimes_ok a b W ha hb).mono (by rintro e w' ⟨h, b1⟩; exact ⟨op_yes h ⟨hA, hB⟩, b1⟩)
  · exact fun W => (YPow_ok a k W ha hk).mono (by rintro e w' ⟨h, b1⟩; exact ⟨op_yes h hA, b1⟩)
  · exact fun W => (YInverse_ok a W ha).mono (by rintro e w' ⟨rfl, b1⟩; rw [if_pos ⟨h0, hA⟩, if_neg (by omega), if_neg (by omega)]; exact ⟨rfl, b1⟩)
  · exact fun W => R4Add_ok a b W ha hb
  · exact fun W => R4Sub_ok a b W ha hB
  · exact fun W => R4Times_ok a b W ha hb
  · exact fun W => R4Pow_ok a k W ha hk
  · exact fun W => R4Inverse_ok a W ha
  · exact An.of fun W => Reduce_ok a b W ha hb
  · exact fun W => R4Reduce_ok a b W ha hb
  · exact An.of fun W => Reduce_ok k a W hk ha
  · exact fun W => R4Reduce_ok k a W hk ha

set_option maxRecDepth 100000 in
set_option maxHeartbeats 16000000 in
theorem walk (w : World) (a0 : Int) (w0 : (Lit.int .u64 a0).wf = true) (a1 : Int) (w1 : (Lit.int .u64 a1).wf = true) (a2 : Int) (w2 : (Lit.int .u64 a2).wf = true) (hT : TabY w) :
    Calls Tryd.prog 3 #[.int .u64 a0, .int .u64 a1, .int .u64 a2] w fun e w' => e = .returned (.bool true) ∧ Below w.heap.size w w' := by
  have hBB : B64 = 18446744073709551616 := rfl
  have b0 := bounds_u64 w0
  have b1 := bounds_u64 w1
  have b2 := bounds_u64 w2
  obtain ⟨a, rfl⟩ := Int.eq_ofNat_of_zero_le (show 0 ≤ a0 by omega)
  obtain ⟨b, rfl⟩ := Int.eq_ofNat_of_zero_le (show 0 ≤ a1 by omega)
  obtain ⟨k, rfl⟩ := Int.eq_ofNat_of_zero_le (show 0 ≤ a2 by omega)
  have HT := Lib.hid hT
  have HK := Lib.hid (show k < B64 by omega)
  have H0 := Lib.hid (show a < B64 ∧ b < B64 by omega)
  clear hT w0 w1 w2 b0 b1 b2 hBB
  go_enter Tryd.func3, Tryd.ntmps3
  go_wp2_with (fail)
  go_loopw [0, 1, 7, 8, 9, 10, 11, 12, 13, 14, 15, 16, 17, 129, 146] (fun av bv iv _ _ _ _ _ _ _ _ _ _ _ _ wr => ∃ (i a b : Nat), i ≤ 2 ∧ iv = .int .i64 i ∧ av = .int .u64 a ∧ bv = .int .u64 b ∧ Hid (a < B64 ∧ b < B64 ∧ Below w.heap.size w wr)) (fun _ _ iv _ _ _ _ _ _ _ _ _ _ _ _ _ => 2 - (intOf iv).toNat)
  case atStart => exact ⟨0, a, b, by omega, rfl, rfl, rfl, Lib.hid ⟨H0.out.1, H0.out.2, Below.refl _ _⟩⟩
  case round =>
    clear H0
    obtain ⟨i, a, b, hi, rfl, rfl, rfl, H⟩ := hrel
    by_cases hlt : i < 2
    · have hki : (i : Int) < 2 := by omega
      have hPP : PP = 18446744069414584321 := rfl
      have hBB : B64 = 18446744073709551616 := rfl
      obtain ⟨a2, ha2, ha3, ha4⟩ : ∃ a2 : Nat, (a : Int).tmod 18446744069414584321 = (a2 : Int) ∧ (a : Int) % 18446744069414584321 = (a2 : Int) ∧ a2 < B64 := ⟨a % 18446744069414584321, by rw [Int.tmod_eq_emod_of_nonneg (by omega)]; omega, by omega, by omega⟩
      obtain ⟨b2, hb2, hb3, hb4⟩ : ∃ b2 : Nat, (b : Int).tmod 18446744069414584321 = (b2 : Int) ∧ (b : Int) % 18446744069414584321 = (b2 : Int) ∧ b2 < B64 := ⟨b % 18446744069414584321, by rw [Int.tmod_eq_emod_of_nonneg (by omega)]; omega, by omega, by omega⟩
      have ha5 : IntKind.u64.wrap (a2 : Int) = (a2 : Int) := wrap_nat a2 ha4
      have hb5 : IntKind.u64.wrap (b2 : Int) = (b2 : Int) := wrap_nat b2 hb4
      have HN := Lib.hid (And.intro ha4 hb4)
      have HR := Lib.hid (And.intro ha2 (And.intro ha3 (And.intro ha5 (And.intro hb2 (And.intro hb3 hb5)))))
      clear ha4 hb4 ha2 ha3 ha5 hb2 hb3 hb5
      by_cases hA9 : PP ≤ a
      · have hA := hA9; clear hA9
        obtain ⟨XR1, XR2, hall⟩ := ans_big_x H.out.1 H.out.2.1 HK.out hA
        have HAll := Lib.hid hall
        have fa : (18446744069414584321 : Int) ≤ (a : Int) := by omega
        clear hall hPP hBB hA
        have HB := Lib.hid H.out.2.2
        clear H
        go_wp2_with (fail)
        refine (HAll.out.1 _).mono ?_
        rintro e w3 ⟨rfl, bb⟩
        have HB0 := Lib.hid (HB.out.trans (bb.mono HB.out.size))
        clear bb HB
        go_wp2_with (fail)
        refine (HAll.out.2.1 _).mono ?_
        rintro e w4 ⟨rfl, bb⟩
        have HB1 := Lib.hid (HB0.out.trans (bb.mono HB0.out.size))
        clear bb HB0
        go_wp2_with (fail)
        refine (HAll.out.2.2.1 _).mono ?_
        rintro e w5 ⟨rfl, bb⟩
        have HB2 := Lib.hid (HB1.out.trans (bb.mono HB1.out.size))
        clear bb HB1
        go_wp2_with (fail)
        refine (HAll.out.2.2.2.1 _).mono ?_
        rintro e w6 ⟨rfl, bb⟩
        have HB3 := Lib.hid (HB2.out.trans (bb.mono HB2.out.size))
        clear bb HB2
        go_wp2_with (fail)
        refine (HAll.out.2.2.2.2.1 _).mono ?_
        rintro e w7 ⟨rfl, bb⟩
        have HB4 := Lib.hid (HB3.out.trans (bb.mono HB3.out.size))
        clear bb HB3
        go_wp2_with (fail)
        refine (HAll.out.2.2.2.2.2.1 _).mono ?_
        rintro e w8 ⟨rfl, bb⟩
        have HB5 := Lib.hid (HB4.out.trans (bb.mono HB4.out.size))
        clear bb HB4
        go_wp2_with (fail)
        refine (HAll.out.2.2.2.2.2.2.1 _).mono ?_
        rintro e w9 ⟨rfl, bb⟩
        have HB6 := Lib.hid (HB5.out.trans (bb.mono HB5.out.size))
        clear bb HB5
        go_wp2_with (fail)
        refine (HAll.out.2.2.2.2.2.2.2.1 _).mono ?_
        rintro e w10 ⟨rfl, bb⟩
        have HB7 := Lib.hid (HB6.out.trans (bb.mono HB6.out.size))
        clear bb HB6
        go_wp2_with (fail)
        refine (HAll.out.2.2.2.2.2.2.2.2 _).mono ?_
        rintro e w11 ⟨rfl, bb⟩
        have HB8 := Lib.hid (HB7.out.trans (bb.mono HB7.out.size))
        clear bb HB7
        obtain ⟨q1, q2, q3, q4, q5, q6⟩ := HR.out
        go_wp2_with (fail)
        go_roundw
        case rel => exact ⟨i + 1, a2, b2, by omega, by go_num, rfl, rfl, Lib.hid ⟨HN.out.1, HN.out.2, HB8.out⟩⟩
        case measure => simp [intOf]; omega
      · by_cases h09 : 0 < a
        · have hA : a < PP := by omega
          have h0 := h09
          clear hA9 h09
          by_cases hB9 : PP ≤ b
          · have hB := hB9; clear hB9
            obtain ⟨XPow, XInv, XR1, XR2, hall⟩ := ans_one_big H.out.1 H.out.2.1 HK.out hA h0 hB
            have HAll := Lib.hid hall
            have fa : ¬ (18446744069414584321 : Int) ≤ (a : Int) := by omega
            have fa2 : decide ((18446744069414584321 : Int) ≤ (a : Int)) = false := decide_eq_false fa
            clear fa
            have fb : (18446744069414584321 : Int) ≤ (b : Int) := by omega
            have f0 : ¬ (a : Int) = 0 := by omega
            have f1 : ((a : Int) == 0) = false := by simp; omega
            have f2 : ¬ a = 0 := by omega
            clear hall hPP hBB hA h0 hB
            have HB := Lib.hid H.out.2.2
            clear H
            go_wp2_with (fail)
            refine (HAll.out.1 _).mono ?_
            rintro e w3 ⟨rfl, bb⟩
            have HB0 := Lib.hid (HB.out.trans (bb.mono HB.out.size))
            clear bb HB
            go_wp2_with (fail)
            refine (HAll.out.2.1 _).mono ?_
            rintro e w4 ⟨rfl, bb⟩
            have HB1 := Lib.hid (HB0.out.trans (bb.mono HB0.out.size))
            clear bb HB0
            go_wp2_with (fail)
            refine (HAll.out.2.2.1 _).mono ?_
            rintro e w5 ⟨rfl, bb⟩
            have HB2 := Lib.hid (HB1.out.trans (bb.mono HB1.out.size))
            clear bb HB1
            go_wp2_with (fail)
            refine (HAll.out.2.2.2.1 _).mono ?_
            rintro e w6 ⟨rfl, bb⟩
            have HB3 := Lib.hid (HB2.out.trans (bb.mono HB2.out.size))
            clear bb HB2
            go_wp2_with (fail)
            refine (HAll.out.2.2.2.2.1 _).mono ?_
            rintro e w7 ⟨rfl, bb⟩
            have HB4 := Lib.hid (HB3.out.trans (bb.mono HB3.out.size))
            clear bb HB3
            go_wp2_with (fail)
            refine (HAll.out.2.2.2.2.2.1 _).mono ?_
            rintro e w8 ⟨rfl, bb⟩
            have HB5 := Lib.hid (HB4.out.trans (bb.mono HB4.out.size))
            clear bb HB4
            go_wp2_with (fail)
            refine (HAll.out.2.2.2.2.2.2.1 _).mono ?_
            rintro e w9 ⟨rfl, bb⟩
            have HB6 := Lib.hid (HB5.out.trans (bb.mono HB5.out.size))
            clear bb HB5
            go_wp2_with (fail)
            refine (HAll.out.2.2.2.2.2.2.2.1 _).mono ?_
            rintro e w10 ⟨rfl, bb⟩
            have HB7 := Lib.hid (HB6.out.trans (bb.mono HB6.out.size))
            clear bb HB6
            go_wp2_with (fail)
            refine (HAll.out.2.2.2.2.2.2.2.2.1 _).mono ?_
            rintro e w11 ⟨rfl, bb⟩
            have HB8 := Lib.hid (HB7.out.trans (bb.mono HB7.out.size))
            clear bb HB7
            go_wp2_with (fail)
            refine (HAll.out.2.2.2.2.2.2.2.2.2.1 _).mono ?_
            rintro e w12 ⟨rfl, bb⟩
            have HB9 := Lib.hid (HB8.out.trans (bb.mono HB8.out.size))
            clear bb HB8
            go_wp2_with (fail)
            refine (HAll.out.2.2.2.2.2.2.2.2.2.2 _).mono ?_
            rintro e w13 ⟨rfl, bb⟩
            have HB10 := Lib.hid (HB9.out.trans (bb.mono HB9.out.size))
            clear bb HB9
            obtain ⟨q1, q2, q3, q4, q5, q6⟩ := HR.out
            go_wp2_with (fail)
            go_roundw
            case rel => exact ⟨i + 1, a2, b2, by omega, by go_num, rfl, rfl, Lib.hid ⟨HN.out.1, HN.out.2, HB10.out⟩⟩
            case measure => simp [intOf]; omega
          · have hB : b < PP := by omega
            clear hB9
            obtain ⟨XAdd, XSub, XTimes, XPow, XInv, XR1, XR2, hall⟩ := ans_one_ok H.out.1 H.out.2.1 HK.out hA h0 hB
            have HAll := Lib.hid hall
            have fa : ¬ (18446744069414584321 : Int) ≤ (a : Int) := by omega
            have fa2 : decide ((18446744069414584321 : Int) ≤ (a : Int)) = false := decide_eq_false fa
            clear fa
            have fb : ¬ (18446744069414584321 : Int) ≤ (b : Int) := by omega
            have fb2 : decide ((18446744069414584321 : Int) ≤ (b : Int)) = false := decide_eq_false fb
            clear fb
            have f0 : ¬ (a : Int) = 0 := by omega
            have f1 : ((a : Int) == 0) = false := by simp; omega
            have f2 : ¬ a = 0 := by omega
            clear hall hPP hBB hA h0 hB
            have HB := Lib.hid H.out.2.2
            clear H
            go_wp2_with (fail)
            refine (HAll.out.1 _).mono ?_
            rintro e w3 ⟨rfl, bb⟩
            have HB0 := Lib.hid (HB.out.trans (bb.mono HB.out.size))
            clear bb HB
            go_wp2_with (fail)
            refine (HAll.out.2.1 _).mono ?_
            rintro e w4 ⟨rfl, bb⟩
            have HB1 := Lib.hid (HB0.out.trans (bb.mono HB0.out.size))
            clear bb HB0
            go_wp2_with (fail)
            refine (HAll.out.2.2.1 _).mono ?_
            rintro e w5 ⟨rfl, bb⟩
            have HB2 := Lib.hid (HB1.out.trans (bb.mono HB1.out.size))
            clear bb HB1
            go_wp2_with (fail)
            refine (HAll.out.2.2.2.1 _).mono ?_
            rintro e w6 ⟨rfl, bb⟩
            have HB3 := Lib.hid (HB2.out.trans (bb.mono HB2.out.size))
            clear bb HB2
            go_wp2_with (fail)
            refine (HAll.out.2.2.2.2.1 _).mono ?_
            rintro e w7 ⟨rfl, bb⟩
            have HB4 := Lib.hid (HB3.out.trans (bb.mono HB3.out.size))
            clear bb HB3
            go_wp2_with (fail)
            refine (HAll.out.2.2.2.2.2.1 _).mono ?_
            rintro e w8 ⟨rfl, bb⟩
            have HB5 := Lib.hid (HB4.out.trans (bb.mono HB4.out.size))
            clear bb HB4
            go_wp2_with (fail)
            refine (HAll.out.2.2.2.2.2.2.1 _).mono ?_
            rintro e w9 ⟨rfl, bb⟩
            have HB6 := Lib.hid (HB5.out.trans (bb.mono HB5.out.size))
            clear bb HB5
            go_wp2_with (fail)
            refine (HAll.out.2.2.2.2.2.2.2.1 _).mono ?_
            rintro e w10 ⟨rfl, bb⟩
            have HB7 := Lib.hid (HB6.out.trans (bb.mono HB6.out.size))
            clear bb HB6
            go_wp2_with (fail)
            refine (HAll.out.2.2.2.2.2.2.2.2.1 _).mono ?_
            rintro e w11 ⟨rfl, bb⟩
            have HB8 := Lib.hid (HB7.out.trans (bb.mono HB7.out.size))
            clear bb HB7
            go_wp2_with (fail)
            refine (HAll.out.2.2.2.2.2.2.2.2.2.1 _).mono ?_
            rintro e w12 ⟨rfl, bb⟩
            have HB9 := Lib.hid (HB8.out.trans (bb.mono HB8.out.size))
            clear bb HB8
            go_wp2_with (fail)
            refine (HAll.out.2.2.2.2.2.2.2.2.2.2.1 _).mono ?_
            rintro e w13 ⟨rfl, bb⟩
            have HB10 := Lib.hid (HB9.out.trans (bb.mono HB9.out.size))
            clear bb HB9
            go_wp2_with (fail)
            refine (HAll.out.2.2.2.2.2.2.2.2.2.2.2.1 _).mono ?_
            rintro e w14 ⟨rfl, bb⟩
            have HB11 := Lib.hid (HB10.out.trans (bb.mono HB10.out.size))
            clear bb HB10
            go_wp2_with (fail)
            refine (HAll.out.2.2.2.2.2.2.2.2.2.2.2.2.1 _).mono ?_
            rintro e w15 ⟨rfl, bb⟩
            have HB12 := Lib.hid (HB11.out.trans (bb.mono HB11.out.size))
            clear bb HB11
            go_wp2_with (fail)
            refine (HAll.out.2.2.2.2.2.2.2.2.2.2.2.2.2 _).mono ?_
            rintro e w16 ⟨rfl, bb⟩
            have HB13 := Lib.hid (HB12.out.trans (bb.mono HB12.out.size))
            clear bb HB12
            obtain ⟨q1, q2, q3, q4, q5, q6⟩ := HR.out
            go_wp2_with (fail)
            go_roundw
            case rel => exact ⟨i + 1, a2, b2, by omega, by go_num, rfl, rfl, Lib.hid ⟨HN.out.1, HN.out.2, HB13.out⟩⟩
            case measure => simp [intOf]; omega
        · have hA : a = 0 := by omega
          clear hA9 h09
          by_cases hB9 : PP ≤ b
          · have hB := hB9; clear hB9
            obtain ⟨XPow, XR1, XR2, hall⟩ := ans_zero_big H.out.1 H.out.2.1 HK.out hA hB
            have HAll := Lib.hid hall
            have fa : ¬ (18446744069414584321 : Int) ≤ (a : Int) := by omega
            have fa2 : decide ((18446744069414584321 : Int) ≤ (a : Int)) = false := decide_eq_false fa
            clear fa
            have fb : (18446744069414584321 : Int) ≤ (b : Int) := by omega
            subst hA
            clear hall hPP hBB hB
            have HB := Lib.hid H.out.2.2
            clear H
            go_wp2_with (fail)
            refine (HAll.out.1 _).mono ?_
            rintro e w3 ⟨rfl, bb⟩
            have HB0 := Lib.hid (HB.out.trans (bb.mono HB.out.size))
            clear bb HB
            go_wp2_with (fail)
            refine (HAll.out.2.1 _).mono ?_
            rintro e w4 ⟨rfl, bb⟩
            have HB1 := Lib.hid (HB0.out.trans (bb.mono HB0.out.size))
            clear bb HB0
            go_wp2_with (fail)
            refine (HAll.out.2.2.1 _).mono ?_
            rintro e w5 ⟨rfl, bb⟩
            have HB2 := Lib.hid (HB1.out.trans (bb.mono HB1.out.size))
            clear bb HB1
            go_wp2_with (fail)
            refine (HAll.out.2.2.2.1 _).mono ?_
            rintro e w6 ⟨rfl, bb⟩
            have HB3 := Lib.hid (HB2.out.trans (bb.mono HB2.out.size))
            clear bb HB2
            go_wp2_with (fail)
            refine (HAll.out.2.2.2.2.1 _).mono ?_
            rintro e w7 ⟨rfl, bb⟩
            have HB4 := Lib.hid (HB3.out.trans (bb.mono HB3.out.size))
            clear bb HB3
            go_wp2_with (fail)
            refine (HAll.out.2.2.2.2.2.1 _).mono ?_
            rintro e w8 ⟨rfl, bb⟩
            have HB5 := Lib.hid (HB4.out.trans (bb.mono HB4.out.size))
            clear bb HB4
            go_wp2_with (fail)
            refine (HAll.out.2.2.2.2.2.2.1 _).mono ?_
            rintro e w9 ⟨rfl, bb⟩
            have HB6 := Lib.hid (HB5.out.trans (bb.mono HB5.out.size))
            clear bb HB5
            go_wp2_with (fail)
            refine (HAll.out.2.2.2.2.2.2.2.1 _).mono ?_
            rintro e w10 ⟨rfl, bb⟩
            have HB7 := Lib.hid (HB6.out.trans (bb.mono HB6.out.size))
            clear bb HB6
            go_wp2_with (fail)
            refine (HAll.out.2.2.2.2.2.2.2.2.1 _).mono ?_
            rintro e w11 ⟨rfl, bb⟩
            have HB8 := Lib.hid (HB7.out.trans (bb.mono HB7.out.size))
            clear bb HB7
            go_wp2_with (fail)
            refine (HAll.out.2.2.2.2.2.2.2.2.2 _).mono ?_
            rintro e w12 ⟨rfl, bb⟩
            have HB9 := Lib.hid (HB8.out.trans (bb.mono HB8.out.size))
            clear bb HB8
            obtain ⟨q1, q2, q3, q4, q5, q6⟩ := HR.out
            go_wp2_with (fail)
            go_roundw
            case rel => exact ⟨i + 1, 0, b2, by omega, by go_num, rfl, rfl, Lib.hid ⟨B64_pos, HN.out.2, HB9.out⟩⟩
            case measure => simp [intOf]; omega
          · have hB : b < PP := by omega
            clear hB9
            obtain ⟨XAdd, XSub, XTimes, XPow, XR1, XR2, hall⟩ := ans_zero_ok H.out.1 H.out.2.1 HK.out hA hB
            have HAll := Lib.hid hall
            have fa : ¬ (18446744069414584321 : Int) ≤ (a : Int) := by omega
            have fa2 : decide ((18446744069414584321 : Int) ≤ (a : Int)) = false := decide_eq_false fa
            clear fa
            have fb : ¬ (18446744069414584321 : Int) ≤ (b : Int) := by omega
            have fb2 : decide ((18446744069414584321 : Int) ≤ (b : Int)) = false := decide_eq_false fb
            clear fb
            subst hA
            clear hall hPP hBB hB
            have HB := Lib.hid H.out.2.2
            clear H
            go_wp2_with (fail)
            refine (HAll.out.1 _).mono ?_
            rintro e w3 ⟨rfl, bb⟩
            have HB0 := Lib.hid (HB.out.trans (bb.mono HB.out.size))
            clear bb HB
            go_wp2_with (fail)
            refine (HAll.out.2.1 _).mono ?_
            rintro e w4 ⟨rfl, bb⟩
            have HB1 := Lib.hid (HB0.out.trans (bb.mono HB0.out.size))
            clear bb HB0
            go_wp2_with (fail)
            refine (HAll.out.2.2.1 _).mono ?_
            rintro e w5 ⟨rfl, bb⟩
            have HB2 := Lib.hid (HB1.out.trans (bb.mono HB1.out.size))
            clear bb HB1
            go_wp2_with (fail)
            refine (HAll.out.2.2.2.1 _).mono ?_
            rintro e w6 ⟨rfl, bb⟩
            have HB3 := Lib.hid (HB2.out.trans (bb.mono HB2.out.size))
            clear bb HB2
            go_wp2_with (fail)
            refine (HAll.out.2.2.2.2.1 _).mono ?_
            rintro e w7 ⟨rfl, bb⟩
            have HB4 := Lib.hid (HB3.out.trans (bb.mono HB3.out.size))
            clear bb HB3
            go_wp2_with (fail)
            refine (HAll.out.2.2.2.2.2.1 _).mono ?_
            rintro e w8 ⟨rfl, bb⟩
            have HB5 := Lib.hid (HB4.out.trans (bb.mono HB4.out.size))
            clear bb HB4
            go_wp2_with (fail)
            refine (HAll.out.2.2.2.2.2.2.1 _).mono ?_
            rintro e w9 ⟨rfl, bb⟩
            have HB6 := Lib.hid (HB5.out.trans (bb.mono HB5.out.size))
            clear bb HB5
            go_wp2_with (fail)
            refine (HAll.out.2.2.2.2.2.2.2.1 _).mono ?_
            rintro e w10 ⟨rfl, bb⟩
            have HB7 := Lib.hid (HB6.out.trans (bb.mono HB6.out.size))
            clear bb HB6
            go_wp2_with (fail)
            refine (HAll.out.2.2.2.2.2.2.2.2.1 _).mono ?_
            rintro e w11 ⟨rfl, bb⟩
            have HB8 := Lib.hid (HB7.out.trans (bb.mono HB7.out.size))
            clear bb HB7
            go_wp2_with (fail)
            refine (HAll.out.2.2.2.2.2.2.2.2.2.1 _).mono ?_
            rintro e w12 ⟨rfl, bb⟩
            have HB9 := Lib.hid (HB8.out.trans (bb.mono HB8.out.size))
            clear bb HB8
            go_wp2_with (fail)
            refine (HAll.out.2.2.2.2.2.2.2.2.2.2.1 _).mono ?_
            rintro e w13 ⟨rfl, bb⟩
            have HB10 := Lib.hid (HB9.out.trans (bb.mono HB9.out.size))
            clear bb HB9
            go_wp2_with (fail)
            refine (HAll.out.2.2.2.2.2.2.2.2.2.2.2.1 _).mono ?_
            rintro e w14 ⟨rfl, bb⟩
            have HB11 := Lib.hid (HB10.out.trans (bb.mono HB10.out.size))
            clear bb HB10
            go_wp2_with (fail)
            refine (HAll.out.2.2.2.2.2.2.2.2.2.2.2.2 _).mono ?_
            rintro e w15 ⟨rfl, bb⟩
            have HB12 := Lib.hid (HB11.out.trans (bb.mono HB11.out.size))
            clear bb HB11
            obtain ⟨q1, q2, q3, q4, q5, q6⟩ := HR.out
            go_wp2_with (fail)
            go_roundw
            case rel => exact ⟨i + 1, 0, b2, by omega, by go_num, rfl, rfl, Lib.hid ⟨B64_pos, HN.out.2, HB12.out⟩⟩
            case measure => simp [intOf]; omega
    · have hki : ¬ (i : Int) < 2 := by omega
      obtain rfl : i = 2 := by omega
      go_wp2_with (fail)
      refine (yawake_any _ (HT.out.below H.out.2.2)).mono ?_
      rintro e w1 ⟨rfl, b1⟩
      have H1 := Lib.hid (H.out.2.2.trans (b1.mono H.out.2.2.size))
      clear b1
      go_wp2_with (fail)
      go_ret
      exact ⟨rfl, H1.out⟩
end Go.Proofs.YtcnambjckmpipaaDoor.nttResidues
