/- The contract of words.Count, over its table. -/
import Derived.Test.YtalcikmngglplaaDoorP1
import Derived.Laws.Bits64b
namespace Go.Proofs.YtalcikmngglplaaDoor
open Go.RowKit Go.Shelf
set_option linter.unusedVariables false
set_option linter.unusedSimpArgs false
set_option maxRecDepth 10000

/-- the bits 1 among the lowest k; the place of the lowest bit 1 among them, or k; the bits 0 above the highest one of them -/
def pcn (x : Nat) : Nat → Nat
  | 0 => 0
  | k + 1 => pcn x k + x / 2 ^ k % 2
def tzn (x : Nat) : Nat → Nat
  | 0 => 0
  | k + 1 => if tzn x k = k then (if x / 2 ^ k % 2 = 1 then k else k + 1) else tzn x k
def lzn (x : Nat) : Nat → Nat
  | 0 => 0
  | k + 1 => if x / 2 ^ k % 2 = 1 then 0 else lzn x k + 1
def tab0 : List Nat := [4, 3, 2, 2, 1, 1, 1, 1, 0, 0, 0, 0, 0, 0, 0, 0]
def tab1 : List Nat := [4, 0, 1, 0, 2, 0, 1, 0, 3, 0, 1, 0, 2, 0, 1, 0]
def tab2 : List Nat := [0, 1, 1, 2, 1, 2, 2, 3, 1, 2, 2, 3, 2, 3, 3, 4]
theorem pcn_le (x : Nat) : ∀ k, pcn x k ≤ k
  | 0 => Nat.le_refl _
  | k + 1 => by have := pcn_le x k; rw [pcn]; omega
theorem tzn_le (x : Nat) : ∀ k, tzn x k ≤ k
  | 0 => Nat.le_refl _
  | k + 1 => by have := tzn_le x k; rw [tzn]; split; split <;> omega; omega
theorem lzn_le (x : Nat) : ∀ k, lzn x k ≤ k
  | 0 => Nat.le_refl _
  | k + 1 => by have := lzn_le x k; rw [lzn]; split <;> omega
/-- four bits at a time -/
theorem four_bits (x i : Nat) : ∃ f, x / 2 ^ i % 16 = f ∧ f < 16 ∧ x / 2 ^ i % 2 = f % 2 ∧ x / 2 ^ (i + 1) % 2 = f / 2 % 2 ∧ x / 2 ^ (i + 2) % 2 = f / 4 % 2 ∧ x / 2 ^ (i + 3) % 2 = f / 8 % 2 := by
  refine ⟨_, rfl, Nat.mod_lt _ (by decide), ?_, ?_, ?_, ?_⟩
  · omega
  · rw [Nat.pow_add, ← Nat.div_div_eq_div_mul]; generalize x / 2 ^ i = y; omega
  · rw [Nat.pow_add, ← Nat.div_div_eq_div_mul]; generalize x / 2 ^ i = y; omega
  · rw [Nat.pow_add, ← Nat.div_div_eq_div_mul]; generalize x / 2 ^ i = y; omega
theorem count_step (x i : Nat) : ∃ f, x / 2 ^ i % 16 = f ∧ f < 16 ∧ pcn x (i + 4) = pcn x i + tab2.getD f 0 ∧ lzn x (i + 4) = (if f = 0 then lzn x i else 0) + tab0.getD f 0 ∧ tzn x (i + 4) = (if tzn x i = i then tzn x i + tab1.getD f 0 else tzn x i) := by
  obtain ⟨f, hf, hf16, b0, b1, b2, b3⟩ := four_bits x i
  have hle := tzn_le x i
  refine ⟨f, hf, hf16, ?_, ?_, ?_⟩
  · show pcn x i + x / 2 ^ i % 2 + x / 2 ^ (i + 1) % 2 + x / 2 ^ (i + 2) % 2 + x / 2 ^ (i + 3) % 2 = _
    rw [b0, b1, b2, b3]
    generalize pcn x i = p
    clear hf b0 b1 b2 b3 hle
    have : f = 0 ∨ f = 1 ∨ f = 2 ∨ f = 3 ∨ f = 4 ∨ f = 5 ∨ f = 6 ∨ f = 7 ∨ f = 8 ∨ f = 9 ∨ f = 10 ∨ f = 11 ∨ f = 12 ∨ f = 13 ∨ f = 14 ∨ f = 15 := by omega
    rcases this with rfl | rfl | rfl | rfl | rfl | rfl | rfl | rfl | rfl | rfl | rfl | rfl | rfl | rfl | rfl | rfl <;> simp [tab2]
  · have e : ∀ k, lzn x (k + 1) = if x / 2 ^ k % 2 = 1 then 0 else lzn x k + 1 := fun k => rfl
    rw [e (i + 3), e (i + 2), e (i + 1), e i, b0, b1, b2, b3]
    generalize lzn x i = p
    clear hf b0 b1 b2 b3 hle e
    have : f = 0 ∨ f = 1 ∨ f = 2 ∨ f = 3 ∨ f = 4 ∨ f = 5 ∨ f = 6 ∨ f = 7 ∨ f = 8 ∨ f = 9 ∨ f = 10 ∨ f = 11 ∨ f = 12 ∨ f = 13 ∨ f = 14 ∨ f = 15 := by omega
    rcases this with rfl | rfl | rfl | rfl | rfl | rfl | rfl | rfl | rfl | rfl | rfl | rfl | rfl | rfl | rfl | rfl <;> simp [tab0]
  · have e : ∀ k, tzn x (k + 1) = if tzn x k = k then (if x / 2 ^ k % 2 = 1 then k else k + 1) else tzn x k := fun k => rfl
    rw [e (i + 3), e (i + 2), e (i + 1), e i, b0, b1, b2, b3]
    generalize tzn x i = p at *
    clear hf b0 b1 b2 b3 e
    have : f = 0 ∨ f = 1 ∨ f = 2 ∨ f = 3 ∨ f = 4 ∨ f = 5 ∨ f = 6 ∨ f = 7 ∨ f = 8 ∨ f = 9 ∨ f = 10 ∨ f = 11 ∨ f = 12 ∨ f = 13 ∨ f = 14 ∨ f = 15 := by omega
    by_cases hp : p = i
    · subst hp
      rcases this with rfl | rfl | rfl | rfl | rfl | rfl | rfl | rfl | rfl | rfl | rfl | rfl | rfl | rfl | rfl | rfl <;> simp [tab1]
    · have h1 : p ≠ i + 1 := by omega
      have h2 : p ≠ i + 2 := by omega
      have h3 : p ≠ i + 3 := by omega
      simp [hp, h1, h2, h3]
/-- what the table holds -/
def TabC (W : World) : Prop := ∀ f, f < 16 → W.cell? ⟨0, f, none⟩ = some (.int .i64 ((tab0.getD f 0 : Nat) : Int)) ∧ W.cell? ⟨0, 16 + f, none⟩ = some (.int .i64 ((tab1.getD f 0 : Nat) : Int)) ∧ W.cell? ⟨0, 32 + f, none⟩ = some (.int .i64 ((tab2.getD f 0 : Nat) : Int))
theorem TabC.below {w w' : World} (h : TabC w) (hb : Below w.heap.size w w') : TabC w' := fun f hf => by
  obtain ⟨h1, h2, h3⟩ := h f hf
  exact ⟨(hb.cell (World.block_lt_of_cell? _ _ h1)).trans h1, (hb.cell (World.block_lt_of_cell? _ _ h2)).trans h2, (hb.cell (World.block_lt_of_cell? _ _ h3)).trans h3⟩
theorem and_fifteen (z : Nat) (hz : z < B64) : bits BinOp.and IntKind.u64 (z : Int) 15 = ((z % 16 : Nat) : Int) := by
  have := bits_and_u64_nat z 15 hz (by decide)
  rw [show z &&& 15 = z % 16 from Nat.and_two_pow_sub_one_eq_mod z 4] at this
  exact this
set_option maxHeartbeats 2000000 in
theorem Count_ok' (x : Nat) (w : World) (hx : x < B64) (hT : TabC w) :
    Calls Tryd.prog 26 #[.int .u64 x] w fun e w' => e = .returned (.tuple #[.int .i64 ((lzn x 64 : Nat) : Int), .int .i64 ((tzn x 64 : Nat) : Int), .int .i64 ((pcn x 64 : Nat) : Int)]) ∧ w = w' := by
  have HT := Lib.hid hT
  have Hx := Lib.hid hx
  clear hT hx
  go_enter Tryd.func26, Tryd.ntmps26
  go_wp2
  go_loop [2, 3, 4, 5] (fun lv tv ov iv => ∃ i l t p : Nat, i ≤ 64 ∧ Hid (∃ k, i = 4 * k) ∧ lv = .int .i64 l ∧ tv = .int .i64 t ∧ ov = .int .i64 p ∧ iv = .int .i64 i ∧ l ≤ 64 ∧ t ≤ 64 ∧ p ≤ 64 ∧ Hid (l = lzn x i ∧ t = tzn x i ∧ p = pcn x i)) (fun _ _ _ iv => 64 - (intOf iv).toNat)
  case atStart => exact ⟨0, 0, 0, 0, by omega, ⟨0, rfl⟩, rfl, rfl, rfl, rfl, by omega, by omega, by omega, rfl, rfl, rfl⟩
  case round =>
    obtain ⟨i, l, t, p, hi, hi4, rfl, rfl, rfl, rfl, hl, ht, hp, hH⟩ := hrel
    by_cases hlt : i < 64
    · have hii : (i : Int) < 64 := by omega
      have hi60 : i ≤ 60 := by obtain ⟨k, hk⟩ := hi4.out; omega
      obtain ⟨f, hf, hf16, e1, e2, e3⟩ := count_step x i
      obtain ⟨c1, c2, c3⟩ := HT.out f hf16
      obtain ⟨y, hy⟩ : ∃ y, x / 2 ^ i = y := ⟨_, rfl⟩
      have hyB : y < B64 := by rw [← hy]; exact Nat.lt_of_le_of_lt (Nat.div_le_self _ _) Hx.out
      have hsh : (x : Int) / 2 ^ i = (y : Int) := by rw [← hy]; simp
      rw [hy] at hf
      have hyw : IntKind.u64.wrap (y : Int) = (y : Int) := by rw [IntKind.wrap_u64]; have : B64 = 18446744073709551616 := rfl; omega
      have hand := and_fifteen y hyB
      rw [hf] at hand
      have q1 : tab0.getD f 0 ≤ 4 ∧ tab1.getD f 0 ≤ 4 ∧ tab2.getD f 0 ≤ 4 := by
        have : ∀ f, f < 16 → tab0.getD f 0 ≤ 4 ∧ tab1.getD f 0 ≤ 4 ∧ tab2.getD f 0 ≤ 4 := by decide
        exact this f hf16
      obtain ⟨m1, m2, m3⟩ := hH.out
      have b1 := lzn_le x (i + 4)
      have b2 := tzn_le x (i + 4)
      have b3 := pcn_le x (i + 4)
      rw [← m1] at e2
      rw [← m2] at e3
      rw [← m3] at e1
      generalize tab0.getD f 0 = u0 at *
      generalize tab1.getD f 0 = u1 at *
      generalize tab2.getD f 0 = u2 at *
      have hfi : (f : Int) < 16 := by omega
      have hi4' : Hid (∃ k, i + 4 = 4 * k) := by obtain ⟨k, hk⟩ := hi4.out; exact ⟨k + 1, by omega⟩
      have HE := Lib.hid (And.intro e1 (And.intro e2 (And.intro e3 (And.intro b1 (And.intro b2 b3)))))
      have hcs : ((f : Int) == 0) = true ∧ f = 0 ∨ ((f : Int) == 0) = false ∧ f ≠ 0 := by
        rcases Nat.eq_zero_or_pos f with h | h
        · left; simp [h]
        · right; constructor
          · simp; omega
          · omega
      have hct : ((t : Int) == (i : Int)) = true ∧ t = i ∨ ((t : Int) == (i : Int)) = false ∧ t ≠ i := by
        by_cases h : t = i
        · left; simp [h]
        · right; constructor
          · simp; omega
          · exact h
      clear hf hyB hy e1 e2 e3 m1 m2 m3 b1 b2 b3 hH hi4
      rcases hcs with ⟨h1, h2⟩ | ⟨h1, h2⟩ <;> rcases hct with ⟨h3, h4⟩ | ⟨h3, h4⟩
      · subst h2
        subst h4
        simp only [Nat.add_zero] at c2 c3
        clear h1 h3
        go_wp2
        obtain ⟨e1, e2, e3, b1, b2, b3⟩ := HE.out
        rw [if_pos rfl] at e2
        rw [if_pos rfl] at e3
        refine ⟨⟨t + 4, l + u0, t + u1, p + u2, by omega, hi4', congrArg (Value.int .i64) (by omega), congrArg (Value.int .i64) (by omega), congrArg (Value.int .i64) (by omega), congrArg (Value.int .i64) (by omega), by omega, by omega, by omega, by omega, by omega, by omega⟩, ?_⟩
        show 64 - Int.toNat ((t : Int) + 4) < 64 - Int.toNat ((t : Int))
        omega
      · subst h2
        simp only [Nat.add_zero] at c2 c3
        clear h1
        go_wp2
        obtain ⟨e1, e2, e3, b1, b2, b3⟩ := HE.out
        rw [if_pos rfl] at e2
        rw [if_neg h4] at e3
        refine ⟨⟨i + 4, l + u0, t, p + u2, by omega, hi4', congrArg (Value.int .i64) (by omega), congrArg (Value.int .i64) (by omega), congrArg (Value.int .i64) (by omega), congrArg (Value.int .i64) (by omega), by omega, by omega, by omega, by omega, by omega, by omega⟩, ?_⟩
        show 64 - Int.toNat ((i : Int) + 4) < 64 - Int.toNat ((i : Int))
        omega
      · subst h4
        clear h3
        go_wp2
        obtain ⟨e1, e2, e3, b1, b2, b3⟩ := HE.out
        rw [if_neg h2] at e2
        rw [if_pos rfl] at e3
        refine ⟨⟨t + 4, 0 + u0, t + u1, p + u2, by omega, hi4', congrArg (Value.int .i64) (by omega), congrArg (Value.int .i64) (by omega), congrArg (Value.int .i64) (by omega), congrArg (Value.int .i64) (by omega), by omega, by omega, by omega, by omega, by omega, by omega⟩, ?_⟩
        show 64 - Int.toNat ((t : Int) + 4) < 64 - Int.toNat ((t : Int))
        omega
      · go_wp2
        obtain ⟨e1, e2, e3, b1, b2, b3⟩ := HE.out
        rw [if_neg h2] at e2
        rw [if_neg h4] at e3
        refine ⟨⟨i + 4, 0 + u0, t, p + u2, by omega, hi4', congrArg (Value.int .i64) (by omega), congrArg (Value.int .i64) (by omega), congrArg (Value.int .i64) (by omega), congrArg (Value.int .i64) (by omega), by omega, by omega, by omega, by omega, by omega, by omega⟩, ?_⟩
        show 64 - Int.toNat ((i : Int) + 4) < 64 - Int.toNat ((i : Int))
        omega
    · have hii : ¬ (i : Int) < 64 := by omega
      have hi64 : i = 64 := by omega
      have h := hH.out
      rw [hi64] at h
      have H := Lib.hid h
      clear h hH
      go_wp2
      go_ret3
      obtain ⟨h1, h2, h3⟩ := H.out
      rw [h1, h2, h3]
      exact ⟨rfl, rfl⟩
end Go.Proofs.YtalcikmngglplaaDoor
