/- Single words: sums and differences with a carry, products. -/
import Derived.Shelf.Bits.Mul64
import Derived.Laws.Externs
import Derived.Test.YtekikolhnfofeaaProg
import Derived.Test.YtekikolhnfofeaaBase
namespace Go.Proofs.Ytekikolhnfofeaa
open Go.RowKit
set_option linter.unusedVariables false

/-- the base of words -/
def B64 : Nat := 18446744073709551616

open Go.Shelf in
def lays264_ren : Go.Shelf.Ren := ⟨fun | 264 => 135 | n => n, fun | 53 => 37 | 46 => 35 | n => n, fun | n => n⟩
theorem lays264 : Go.Proofs.Lays.n264 Try.prog lays264_ren := {
  mixed := by kernel_rfl
  f264 := Try.func135.trans (congrArg some (by kernel_rfl))
  t46 := Try.underlying35
  a46 := Try.isAgg35
  z46 := Try.sizeOf35
  v46 := Try.zeroValue35
  t53 := Try.underlying37
  a53 := Try.isAgg37
  z53 := Try.sizeOf37
  v53 := Try.zeroValue37 }

theorem mul64_any (x y : Nat) (hx : x < B64) (hy : y < B64) : ∃ h l : Nat, (x * y = h * B64 + l ∧ l < B64 ∧ h + 2 ≤ B64) ∧
    ∀ w, Calls Try.prog 135 #[.int .u64 x, .int .u64 y] w fun e w' => e = .returned (.tuple #[.int .u64 (h : Int), .int .u64 (l : Int)]) ∧ w = w' := by
  refine ⟨x * y / B64, x * y % B64, ⟨?_, ?_, ?_⟩, fun w => (Any.bits_Mul64 lays264 x y hx hy w).mono fun e w' h => ⟨h.1, h.2.symm⟩⟩
  · have := Nat.div_add_mod (x * y) B64
    rw [Nat.mul_comm B64] at this
    exact this.symm
  · exact Nat.mod_lt _ (by decide)
  · have h1 : x * y ≤ (B64 - 1) * (B64 - 1) := Nat.mul_le_mul (by omega) (by omega)
    have h2 : (B64 - 1) * (B64 - 1) < (B64 - 1) * B64 := Nat.mul_lt_mul_of_pos_left (by decide) (by decide)
    have h3 : x * y / B64 < B64 - 1 := Nat.div_lt_of_lt_mul (Nat.lt_of_le_of_lt h1 (Nat.lt_of_lt_of_eq h2 (Nat.mul_comm _ _)))
    have h4 : 2 ≤ B64 := by decide
    omega

theorem add64_any (x y c : Nat) (hx : x < B64) (hy : y < B64) (hc : c ≤ 1) : ∃ s d : Nat, (x + y + c = s + d * B64 ∧ s < B64 ∧ d ≤ 1) ∧
    ∀ w, (callFunc 95 #[.int .u64 x, .int .u64 y, .int .u64 c]).run Try.prog w = .ok (.value (.tuple #[.int .u64 (s : Int), .int .u64 (d : Int)])) w := by
  refine ⟨(x + y + c) % B64, (x + y + c) / B64, ⟨?_, Nat.mod_lt _ (by decide), ?_⟩, fun w => ?_⟩
  · have := Nat.mod_add_div (x + y + c) B64
    rw [Nat.mul_comm B64] at this
    exact this.symm
  · have : (x + y + c) / B64 < 2 := Nat.div_lt_of_lt_mul (by omega)
    omega
  · rw [run_callFunc_extern Try.func95 (by kernel_rfl) (by kernel_rfl) (by kernel_rfl) (e := add64Entry) (by kernel_rfl), run_add64 x y c (by omega) (by omega) (by omega) (by omega)]
    simp only [Result.andThen, B64]
    congr 5

theorem add64_zero (x y : Nat) (hx : x < B64) (hy : y < B64) : ∃ s d : Nat, (x + y = s + d * B64 ∧ s < B64 ∧ d ≤ 1) ∧
    ∀ w, (callFunc 95 #[.int .u64 x, .int .u64 y, .int .u64 0]).run Try.prog w = .ok (.value (.tuple #[.int .u64 (s : Int), .int .u64 (d : Int)])) w :=
  add64_any x y 0 hx hy (by omega)

/-- the model's entry for Sub64 -/
def subEntry : Array Value → Sem Value := fun args => do
  let (x, y, b) ← Extern.MathBitsCarry.three "Sub64" args
  pure (Extern.MathBitsCarry.pair ((x + Extern.MathBitsCarry.m64 - y - b) % Extern.MathBitsCarry.m64) (if x < y + b then 1 else 0))
theorem run_subEntry {P : Program} (x y b : Nat) (hb : b ≤ 1) (w : World) :
    (subEntry #[.int .u64 x, .int .u64 y, .int .u64 b]).run P w =
      .ok (.tuple #[.int .u64 (((x + B64 - y - b) % B64 : Nat) : Int), .int .u64 ((if x < y + b then 1 else 0 : Nat) : Int)]) w := by
  have : b = 0 ∨ b = 1 := by omega
  rcases this with rfl | rfl <;> rfl

theorem sub64_any (x y c : Nat) (hx : x < B64) (hy : y < B64) (hc : c ≤ 1) : ∃ s d : Nat, (x + d * B64 = s + y + c ∧ s < B64 ∧ d ≤ 1) ∧
    ∀ w, (callFunc 97 #[.int .u64 x, .int .u64 y, .int .u64 c]).run Try.prog w = .ok (.value (.tuple #[.int .u64 (s : Int), .int .u64 (d : Int)])) w := by
  refine ⟨(x + B64 - y - c) % B64, if x < y + c then 1 else 0, ⟨?_, Nat.mod_lt _ (by decide), by split <;> omega⟩, fun w => ?_⟩
  · have hB : 0 < B64 := by decide
    split
    · rename_i h
      rw [Nat.mod_eq_of_lt (by omega)]
      omega
    · rename_i h
      rw [show x + B64 - y - c = (x - y - c) + B64 by omega, Nat.add_mod_right, Nat.mod_eq_of_lt (by omega)]
      omega
  · rw [run_callFunc_extern Try.func97 (by kernel_rfl) (by kernel_rfl) (by kernel_rfl) (e := subEntry) (by kernel_rfl), run_subEntry x y c hc]
    rfl

theorem sub64_zero (x y : Nat) (hx : x < B64) (hy : y < B64) : ∃ s d : Nat, (x + d * B64 = s + y ∧ s < B64 ∧ d ≤ 1) ∧
    ∀ w, (callFunc 97 #[.int .u64 x, .int .u64 y, .int .u64 0]).run Try.prog w = .ok (.value (.tuple #[.int .u64 (s : Int), .int .u64 (d : Int)])) w :=
  sub64_any x y 0 hx hy (by omega)

theorem returned_agg2 {a b c d : Int} (h : a = b) (k : c = d) : Ending.returned (.agg #[.int .u64 a, .int .u64 c]) = .returned (.agg #[.int .u64 b, .int .u64 d]) := by rw [h, k]

set_option maxHeartbeats 400000 in
theorem times_any (a b : Nat) (ha : a < B64) (hb : b < B64) : ∃ h l : Nat, (a * b = h * B64 + l ∧ l < B64 ∧ h + 2 ≤ B64) ∧
    ∀ w, Calls Try.prog 129 #[.int .u64 a, .int .u64 b] w fun e w' => e = .returned (.agg #[.int .u64 (h : Int), .int .u64 (l : Int)]) ∧ Below w.heap.size w w' := by
  obtain ⟨h, l, hf, hcall⟩ := mul64_any a b ha hb
  refine ⟨h, l, hf, fun w => ?_⟩
  have Hc := Lib.hid hcall
  clear hf hcall ha hb
  go_enter Try.func129, Try.ntmps129
  go_wp2_with (go_at_call 135; refine (Hc.out _).mono ?_; rintro e w' ⟨rfl, rfl⟩)
  exact bodyPost_ret (v := .agg #[.int .u64 (h : Int), .int .u64 (l : Int)]) (by simp [results, Try.results129, go_sem]) rfl ⟨rfl, (Below.refl _ _).alloc (Nat.le_refl _) _⟩

theorem prod_room1 (b x y c : Nat) (hx : x < b) (hy : y < b) (hc : c < b) : x * y + c < b * b := by
  have h1 : x * y ≤ (b - 1) * y := Nat.mul_le_mul_right _ (by omega)
  have h2 : (b - 1) * y + y = b * y := by rw [← Nat.succ_mul]; congr 1; omega
  have h3 : b * y + b ≤ b * b := by rw [← Nat.mul_succ]; exact Nat.mul_le_mul_left _ hy
  omega
theorem prod_room2 (b x y c d : Nat) (hx : x < b) (hy : y < b) (hc : c < b) (hd : d < b) : x * y + c + d < b * b := by
  have h1 : x * y ≤ (b - 1) * (b - 1) := Nat.mul_le_mul (by omega) (by omega)
  have h2 : (b - 1) * (b - 1) + (b - 1) = (b - 1) * b := by rw [← Nat.mul_succ]; congr 1; omega
  have h3 : (b - 1) * b + b = b * b := by rw [← Nat.succ_mul]; congr 1; omega
  omega
theorem high_lt (b h l : Nat) (h0 : h * b + l < b * b) : h < b := by
  rcases Nat.lt_or_ge h b with h1 | h1
  · exact h1
  · have := Nat.mul_le_mul_right b h1
    omega

theorem sub_room (b x y c h l d z s : Nat) (hx : x < b) (hy : y < b) (hc : c < b) (hs : x * y + c = h * b + l) (h1 : z + d * b = s + l) (h2 : s < b) (h3 : d ≤ 1) (hz : z < b) : h + d < b := by
  have g1 : x * y ≤ (b - 1) * (b - 1) := Nat.mul_le_mul (by omega) (by omega)
  have g2 : (b - 1) * (b - 1) + (b - 1) = (b - 1) * b := by rw [← Nat.mul_succ]; congr 1; omega
  have g3 : h * b + l ≤ (b - 1) * b := by omega
  rcases Nat.lt_or_ge h (b - 1) with h4 | h4
  · omega
  · have g4 := Nat.mul_le_mul_right b h4
    have hl : l = 0 := by omega
    have hd : d = 0 := by
      rcases Nat.eq_zero_or_pos d with h5 | h5
      · exact h5
      · have : d = 1 := by omega
        subst this
        omega
    have h6 : h < b := high_lt b h l (by
      have : (b - 1) * b + b = b * b := by rw [← Nat.succ_mul]; congr 1; omega
      omega)
    omega

set_option maxHeartbeats 400000 in
theorem plus_any (h l x : Nat) (hs : h * B64 + l + x < B64 * B64) (hl : l < B64) (hx : x < B64) : ∃ h2 l2 : Nat, (h * B64 + l + x = h2 * B64 + l2 ∧ l2 < B64 ∧ h2 < B64) ∧
    ∀ w, Calls Try.prog 134 #[.agg #[.int .u64 (h : Int), .int .u64 (l : Int)], .int .u64 x] w fun e w' => e = .returned (.agg #[.int .u64 (h2 : Int), .int .u64 (l2 : Int)]) ∧ Below w.heap.size w w' := by
  obtain ⟨s, d, hf, hcall⟩ := add64_zero l x hl hx
  have hd := hf.2.2
  have hsum : h * B64 + l + x = (h + d) * B64 + s := by rw [Nat.add_mul]; omega
  have hlt : h + d < B64 := high_lt B64 (h + d) s (by rw [← hsum]; exact hs)
  have h1 : ((h + d : Nat) : Int) = (h : Int) + d := by omega
  have hle : (h : Int) + d ≤ 18446744073709551615 := by have : B64 = 18446744073709551616 := rfl; omega
  refine ⟨h + d, s, ⟨hsum, hf.2.1, hlt⟩, fun w => ?_⟩
  have H1 := Lib.hid h1
  clear hf h1 hx hl hs hsum hlt
  go_enter Try.func134, Try.ntmps134
  go_wp2
  exact bodyPost_ret (v := .agg #[.int .u64 ((h : Int) + d), .int .u64 (s : Int)]) (by simp [results, Try.results134, go_sem]) rfl ⟨returned_agg2 H1.out.symm rfl, ((Below.refl _ _).alloc (Nat.le_refl _) _).alloc (by simp) _⟩
end Go.Proofs.Ytekikolhnfofeaa
