/- The contracts of words.Inverse, words.Reciprocal. -/
import Derived.Test.YtdjeoionafkanaaDoorP3
namespace Go.Proofs.YtdjeoionafkanaaDoor
open Go.RowKit
set_option linter.unusedVariables false

theorem u64_mod (a : Int) : ∃ (n : Nat) (c : Int), IntKind.u64.wrap a = (n : Int) ∧ n < B64 ∧ a = n + c * 18446744073709551616 := by
  refine ⟨(a % 18446744073709551616).toNat, a / 18446744073709551616, ?_, ?_, ?_⟩
  · rw [IntKind.wrap_u64]; omega
  · have : B64 = 18446744073709551616 := rfl
    omega
  · omega

/-- one step of Newton's inverse -/
theorem newton_step (w v c1 c2 c3 v' a b M : Int) (h : M ∣ w * v - 1) (ha : a = w * v - c1 * M * M) (hb : b = 2 - a - c2 * M * M) (hv : v' = v * b - c3 * M * M) : M * M ∣ w * v' - 1 := by
  obtain ⟨t, ht⟩ := h
  refine ⟨-(t * t) + w * v * c1 - w * v * c2 - w * c3, ?_⟩
  have : w * v = 1 + M * t := by omega
  subst ha hb hv
  grind

theorem inv_start (w : Nat) (h : w % 2 = 1) : (8 : Int) ∣ (w : Int) * w - 1 := by
  have h8 : w % 8 = 1 ∨ w % 8 = 3 ∨ w % 8 = 5 ∨ w % 8 = 7 := by omega
  have : w * w % 8 = 1 := by
    rw [Nat.mul_mod]
    rcases h8 with e | e | e | e <;> rw [e]
  have h2 : ((w * w : Nat) : Int) = (w : Int) * w := by simp
  rw [← h2]
  omega

/-- the modulus behind k steps -/
def invM : Nat → Int
  | 0 => 8
  | 1 => 64
  | 2 => 4096
  | 3 => 16777216
  | 4 => 281474976710656
  | _ => 18446744073709551616

theorem inv_step (w v k : Nat) (hk : k < 5) (h : invM k ∣ (w : Int) * v - 1) : ∃ v' : Nat, IntKind.u64.wrap ((v : Int) * IntKind.u64.wrap (2 - IntKind.u64.wrap ((w : Int) * v))) = (v' : Int) ∧ v' < B64 ∧ invM (k + 1) ∣ (w : Int) * v' - 1 := by
  obtain ⟨a, c1, e1, l1, h1⟩ := u64_mod ((w : Int) * v)
  rw [e1]
  obtain ⟨b, c2, e2, l2, h2⟩ := u64_mod (2 - (a : Int))
  rw [e2]
  obtain ⟨v', c3, e3, l3, h3⟩ := u64_mod ((v : Int) * b)
  refine ⟨v', e3, l3, ?_⟩
  have key : ∀ M q : Int, M * M * q = 18446744073709551616 → M ∣ (w : Int) * v - 1 → M * M ∣ (w : Int) * v' - 1 := fun M q hq hM =>
    newton_step w v (c1 * q) (c2 * q) (c3 * q) v' a b M hM (by rw [show c1 * q * M * M = c1 * (M * M * q) by grind, hq]; omega) (by rw [show c2 * q * M * M = c2 * (M * M * q) by grind, hq]; omega) (by rw [show c3 * q * M * M = c3 * (M * M * q) by grind, hq]; omega)
  match k, hk, h with
  | 0, _, h => exact key 8 288230376151711744 (by decide) h
  | 1, _, h => exact key 64 4503599627370496 (by decide) h
  | 2, _, h => exact key 4096 1099511627776 (by decide) h
  | 3, _, h => exact key 16777216 65536 (by decide) h
  | 4, _, h =>
    have h32 : (4294967296 : Int) ∣ (w : Int) * v - 1 := Int.dvd_trans (by decide) h
    exact key 4294967296 1 (by decide) h32

set_option maxHeartbeats 400000 in
theorem Inverse_ok (w : Nat) (hw : w < B64) (h1 : w % 2 = 1) : ∃ v : Nat, (v < B64 ∧ w * v % B64 = 1) ∧
    ∀ W, Calls Tryd.prog 83 #[.int .u64 w] W fun e W' => e = .returned (.tuple #[.int .u64 (v : Int), .int .i64 0]) ∧ W = W' := by
  have hs := inv_start w h1
  obtain ⟨v1, a1, b1, d1⟩ := inv_step w w 0 (by decide) hs
  obtain ⟨v2, a2, b2, d2⟩ := inv_step w v1 1 (by decide) d1
  obtain ⟨v3, a3, b3, d3⟩ := inv_step w v2 2 (by decide) d2
  obtain ⟨v4, a4, b4, d4⟩ := inv_step w v3 3 (by decide) d3
  obtain ⟨v5, a5, b5, d5⟩ := inv_step w v4 4 (by decide) d4
  refine ⟨v5, ⟨b5, ?_⟩, fun W => ?_⟩
  · have hB : B64 = 18446744073709551616 := rfl
    rw [hB]
    have h2 : ((w * v5 : Nat) : Int) = (w : Int) * v5 := by simp
    have d5' : (18446744073709551616 : Int) ∣ (w : Int) * v5 - 1 := d5
    rw [← h2] at d5'
    omega
  · have e0 : ((w : Int) % 2 == 0) = false := by simp; omega
    clear hs d1 d2 d3 d4 d5 b1 b2 b3 b4 b5 hw
    go_enter Tryd.func83, Tryd.ntmps83
    go_wp2
    go_loop [4, 9] (fun v i => (i = .int .i64 0 ∧ v = .int .u64 w) ∨ (i = .int .i64 1 ∧ v = .int .u64 v1) ∨ (i = .int .i64 2 ∧ v = .int .u64 v2) ∨ (i = .int .i64 3 ∧ v = .int .u64 v3) ∨ (i = .int .i64 4 ∧ v = .int .u64 v4) ∨ (i = .int .i64 5 ∧ v = .int .u64 v5)) (fun _ i => 5 - (intOf i).toNat)
    case atStart => exact .inl ⟨rfl, rfl⟩
    case round =>
      rcases hrel with ⟨rfl, rfl⟩ | ⟨rfl, rfl⟩ | ⟨rfl, rfl⟩ | ⟨rfl, rfl⟩ | ⟨rfl, rfl⟩ | ⟨rfl, rfl⟩
      · go_wp2
        go_round
        case rel => exact .inr (.inl ⟨rfl, rfl⟩)
        case measure => simp [intOf]
      · go_wp2
        go_round
        case rel => exact .inr (.inr (.inl ⟨rfl, rfl⟩))
        case measure => simp [intOf]
      · go_wp2
        go_round
        case rel => exact .inr (.inr (.inr (.inl ⟨rfl, rfl⟩)))
        case measure => simp [intOf]
      · go_wp2
        go_round
        case rel => exact .inr (.inr (.inr (.inr (.inl ⟨rfl, rfl⟩))))
        case measure => simp [intOf]
      · go_wp2
        go_round
        case rel => exact .inr (.inr (.inr (.inr (.inr ⟨rfl, rfl⟩))))
        case measure => simp [intOf]
      · go_wp2
        go_ret2
        exact ⟨rfl, rfl⟩
set_option maxHeartbeats 400000 in
theorem Inverse_arg (w : Nat) (h1 : w % 2 = 0) (W : World) : Calls Tryd.prog 83 #[.int .u64 w] W fun e W' => e = .returned (.tuple #[.int .u64 0, .int .i64 1]) ∧ W = W' := by
  have e0 : ((w : Int) % 2 == 0) = true := by simp; omega
  go_enter Tryd.func83, Tryd.ntmps83
  go_wp2
  go_ret2
  exact ⟨rfl, rfl⟩

theorem not_word (d : Nat) (hd : d < B64) : bits BinOp.xor IntKind.u64 (if IntKind.u64.signed = true then -1 else IntKind.u64.max) (d : Int) = ((B64 - 1 - d : Nat) : Int) := by
  have hB : B64 = 18446744073709551616 := rfl
  show IntKind.u64.wrap ((BitVec.ofInt 64 18446744073709551615 ^^^ BitVec.ofInt 64 (d : Int)).toNat : Int) = _
  have h1 : BitVec.ofInt 64 18446744073709551615 = BitVec.allOnes 64 := by decide
  have h2 : (BitVec.ofInt 64 (d : Int)).toNat = d := by
    rw [BitVec.ofInt_natCast, BitVec.toNat_ofNat]
    exact Nat.mod_eq_of_lt (by omega)
  rw [h1, BitVec.allOnes_xor, BitVec.toNat_not, h2, IntKind.wrap_u64]
  omega

theorem recip_eq (b d v r : Nat) (hd : d < b) (h : (b - 1 - d) * b + (b - 1) = v * d + r) : b * b = (v + b) * d + r + 1 := by
  have h1 : (b - 1 - d) * b + (b - 1) + 1 + d * b = b * b := by
    have e : (b - 1 - d) * b + b + d * b = (b - 1 - d + 1 + d) * b := by grind
    rw [show (b - 1 - d) * b + (b - 1) + 1 + d * b = (b - 1 - d) * b + b + d * b by omega, e]
    congr 1
    omega
  have h2 : (v + b) * d = v * d + d * b := by grind
  omega

set_option maxHeartbeats 400000 in
theorem Reciprocal_ok (d : Nat) (h1 : 9223372036854775808 ≤ d) (hd : d < B64) : ∃ v r : Nat, (B64 * B64 = (v + B64) * d + r + 1 ∧ r < d ∧ v < B64) ∧
    ∀ W, Calls Tryd.prog 84 #[.int .u64 d] W fun e W' => e = .returned (.tuple #[.int .u64 (v : Int), .int .i64 0]) ∧ ∃ n, W' = W.drewN n := by
  have hB : B64 = 18446744073709551616 := rfl
  obtain ⟨q, r, hf, hcall⟩ := div64_any (B64 - 1 - d) (B64 - 1) d (by omega) (by omega) hd
  refine ⟨q, r, ⟨recip_eq B64 d q r hd hf.1, hf.2.1, hf.2.2⟩, fun W => ?_⟩
  have e1 : decide ((d : Int) < 9223372036854775808) = false := by simp; omega
  have EX := not_word d hd
  rw [show ((B64 - 1 : Nat) : Int) = 18446744073709551615 by decide] at hcall
  generalize B64 - 1 - d = c at *
  have Hc := Lib.hid hcall
  clear hf hcall hd h1 hB
  go_enter Tryd.func84, Tryd.ntmps84
  go_wp2_with (go_at_call 153; refine (Hc.out _).mono ?_; rintro e w' ⟨rfl, n, rfl⟩)
  go_ret2
  exact ⟨rfl, n, rfl⟩
set_option maxHeartbeats 400000 in
theorem Reciprocal_arg (d : Nat) (h1 : d < 9223372036854775808) (W : World) : Calls Tryd.prog 84 #[.int .u64 d] W fun e W' => e = .returned (.tuple #[.int .u64 0, .int .i64 1]) ∧ W = W' := by
  have e1 : decide ((d : Int) < 9223372036854775808) = true := by simp; omega
  clear h1
  go_enter Tryd.func84, Tryd.ntmps84
  go_wp2
  go_ret2
  exact ⟨rfl, rfl⟩
end Go.Proofs.YtdjeoionafkanaaDoor
