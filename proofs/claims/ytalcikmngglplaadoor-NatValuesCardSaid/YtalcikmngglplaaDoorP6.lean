/- Pieces of the proofs, together: RBitM, RBit. -/
import Derived.Test.YtalcikmngglplaaDoorP1

namespace Go.Proofs.YtalcikmngglplaaDoor
open Go.RowKit Go.Shelf
set_option linter.unusedVariables false
set_option maxRecDepth 10000

/-- the bit of 2^i -/
def bitOf (x : Nat) (i : Int) : Bool := decide (0 ≤ i) && decide (x / 2 ^ i.toNat % 2 = 1)
theorem bitOf_nat (x i : Nat) : bitOf x (i : Int) = decide (x / 2 ^ i % 2 = 1) := by simp [bitOf]
theorem bitOf_word {xs : List Nat} (hw : Ws xs) {i q r y : Nat} (hy : xs[q]? = some y) (hi : i = 64 * q + r) (hr : r ≤ 63) : bitOf (V xs) (i : Int) = decide (y / 2 ^ r % 2 = 1) := by
  have hl : q < xs.length := by
    rcases Nat.lt_or_ge q xs.length with h1 | h1
    · exact h1
    · rw [List.getElem?_eq_none h1] at hy; cases hy
  rw [bitOf_nat, hi, Nat.pow_add, Nat.pow_mul, show (2 : Nat) ^ 64 = B64 from rfl, ← Nat.div_div_eq_div_mul, ← V_dropped hw (by omega), V_drop _ _ _ hy]
  have hB : B64 = 2 ^ r * (2 * 2 ^ (63 - r)) := by
    rw [← Nat.pow_succ', ← Nat.pow_add, show r + (63 - r + 1) = 64 by omega]; rfl
  rw [hB, Nat.mul_assoc, Nat.add_mul_div_left _ _ (Nat.pow_pos (by decide)), Nat.mul_assoc, Nat.add_mul_mod_self_left]
theorem bitOf_out {xs : List Nat} (hw : Ws xs) {n i q r : Nat} (hn : xs.length = n) (hi : i = 64 * q + r) (h : n ≤ q) : bitOf (V xs) (i : Int) = false := by
  rw [bitOf_nat]
  have h1 : V xs < 2 ^ i := by
    refine Nat.lt_of_lt_of_le (V_lt _ hw) ?_
    rw [hi, Nat.pow_add, Nat.pow_mul, show (2 : Nat) ^ 64 = B64 from rfl, hn]
    exact Nat.le_trans (Nat.pow_le_pow_right B64_pos h) (Nat.le_mul_of_pos_right _ (Nat.pow_pos (by decide)))
  rw [Nat.div_eq_of_lt h1]
  rfl
theorem and_one (z : Nat) (hz : z < B64) : bits BinOp.and IntKind.u64 (z : Int) 1 = ((z % 2 : Nat) : Int) := by
  have := bits_and_u64_nat z 1 hz (by decide)
  rw [show z &&& 1 = z % 2 from Nat.and_two_pow_sub_one_eq_mod z 1] at this
  exact this

end Go.Proofs.YtalcikmngglplaaDoor

namespace Go.Proofs.YtalcikmngglplaaDoor
open Go.RowKit Go.Shelf
set_option linter.unusedVariables false
set_option maxRecDepth 10000

set_option maxHeartbeats 1000000 in
theorem R2Bit_same (A : Option Addr) (n c : Nat) (xs : List Nat) (i : Int) (w : World) (hn : n ≤ 100000) (hi : i ≤ 9223372036854775807) (hx : Sl w A n c xs) :
    Calls Tryd.prog 27 #[.slice A n c, .int .i64 i] w fun e w' => e = .returned (.bool (bitOf (V xs) i)) ∧ w = w' := by
  by_cases h0 : 0 ≤ i
  · obtain ⟨s, rfl⟩ := Int.eq_ofNat_of_zero_le h0
    obtain ⟨q, r, hqr, hr, hq1, hq2, hr1, hr2⟩ : ∃ q r : Nat, s = 64 * q + r ∧ r ≤ 63 ∧ (s : Int).tdiv 64 = (q : Int) ∧ (s : Int) / 64 = (q : Int) ∧ (s : Int).tmod 64 = (r : Int) ∧ (s : Int) % 64 = (r : Int) :=
      ⟨s / 64, s % 64, by omega, by omega, by rw [Int.tdiv_eq_ediv_of_nonneg (by omega)]; omega, by omega, by rw [Int.tmod_eq_emod_of_nonneg (by omega)]; omega, by omega⟩
    have hqw : IntKind.i64.wrap (q : Int) = (q : Int) := IntWalk.i64_in _ (by omega)
    have Hx := Lib.hid hx
    clear hx hi
    rcases Nat.lt_or_ge q n with hqn | hqn
    · have hqi : (q : Int) < (n : Int) := by omega
      have hql : q < xs.length := by rw [Hx.out.1]; exact hqn
      have hg := List.getElem?_eq_getElem hql
      have hyB : xs[q] < B64 := Hx.out.2.2.2.1 _ (List.getElem_mem hql)
      obtain ⟨b, o, rfl, hb, hcx⟩ := Hx.out.2.2.2.2.at (uvs_get hg)
      generalize xs[q] = y at *
      have HB := Lib.hid (bitOf_word Hx.out.2.2.2.1 hg hqr hr)
      obtain ⟨z, hz⟩ : ∃ z, y / 2 ^ r = z := ⟨_, rfl⟩
      have hzB : z < B64 := by rw [← hz]; exact Nat.lt_of_le_of_lt (Nat.div_le_self _ _) hyB
      have hz1 : (y : Int) / 2 ^ r = (z : Int) := by rw [← hz]; simp
      rw [hz] at HB
      have hzw : IntKind.u64.wrap (z : Int) = (z : Int) := by rw [IntKind.wrap_u64]; have : B64 = 18446744073709551616 := rfl; omega
      obtain ⟨d, hd⟩ : ∃ d, z % 2 = d := ⟨_, rfl⟩
      rw [hd] at HB
      have hm1 : (z : Int).tmod 2 = (d : Int) := by rw [Int.tmod_eq_emod_of_nonneg (by omega), ← hd]; omega
      have hm2 : (z : Int) % 2 = (d : Int) := by rw [← hd]; omega
      have hdw : IntKind.u64.wrap (d : Int) = (d : Int) := by rw [IntKind.wrap_u64]; omega
      have hd2 : d = 0 ∨ d = 1 := by omega
      clear hz hd hzB hyB hg hql hqr
      go_enter Tryd.func27, Tryd.ntmps27
      go_wp2
      go_ret
      rw [HB.out]
      refine ⟨?_, rfl⟩
      rcases hd2 with rfl | rfl <;> rfl
    · have hqi : ¬ (q : Int) < (n : Int) := by omega
      have HB := Lib.hid (bitOf_out Hx.out.2.2.2.1 Hx.out.1 hqr hqn)
      clear hqr
      go_enter Tryd.func27, Tryd.ntmps27
      go_wp2
      go_ret
      rw [HB.out]
      exact ⟨rfl, rfl⟩
  · have hb : bitOf (V xs) i = false := by simp [bitOf, h0]
    rw [hb]
    clear hx hi hb
    go_enter Tryd.func27, Tryd.ntmps27
    go_wp2
    go_ret
    exact ⟨rfl, rfl⟩
theorem R2Bit_ok (A : Option Addr) (n c : Nat) (xs : List Nat) (i : Int) (w : World) (hn : n ≤ 100000) (hi : i ≤ 9223372036854775807) (hx : Sl w A n c xs) :
    Calls Tryd.prog 27 #[.slice A n c, .int .i64 i] w fun e w' => e = .returned (.bool (bitOf (V xs) i)) ∧ Below w.heap.size w w' :=
  (R2Bit_same A n c xs i w hn hi hx).mono fun e w' h => ⟨h.1, by rw [← h.2]; exact Below.refl _ _⟩
end Go.Proofs.YtalcikmngglplaaDoor
