/- What awake asks: calls at fixed words. -/
import Derived.Test.YtdjeoionafkanaaDoorP1
import Derived.Test.YtdjeoionafkanaaDoorZMulWord
import Derived.Test.YtdjeoionafkanaaDoorZInv
import Derived.Test.YtdjeoionafkanaaDoorP3
import Derived.Test.YtdjeoionafkanaaDoorP4
import Derived.Test.YtdjeoionafkanaaDoorZSame
namespace Go.Proofs.YtdjeoionafkanaaDoor
open Go.RowKit
set_option linter.unusedVariables false

theorem case_add (b z d : Nat) (hb : 1 < b) (hz : z < b) (hd : d ≤ 1) (h : z + d * b = (b - 1) + 1 + 0) : z = 0 ∧ d = 1 := by
  rcases Nat.lt_or_ge d 1 with h1 | h1
  · have : d = 0 := by omega
    subst this
    omega
  · have : d = 1 := by omega
    subst this
    omega
theorem case_sub (b z d : Nat) (hb : 1 < b) (hz : z < b) (hd : d ≤ 1) (h : 0 + d * b = z + 1 + 0) : z = b - 1 ∧ d = 1 := by
  rcases Nat.lt_or_ge d 1 with h1 | h1
  · have : d = 0 := by omega
    subst this
    omega
  · have : d = 1 := by omega
    subst this
    omega
theorem case_mul (b z d : Nat) (hb : 1 < b) (hz : z < b) (hd : d < b) (h : z + d * b = (b - 1) * (b - 1) + (b - 1)) : z = 0 ∧ d = b - 1 := by
  have h1 : (b - 1) * (b - 1) + (b - 1) = (b - 1) * b := by rw [← Nat.mul_succ]; congr 1; omega
  rw [h1] at h
  have h2 : d = b - 1 := by
    rcases Nat.lt_trichotomy d (b - 1) with h3 | h3 | h3
    · have := Nat.mul_le_mul_right b (show d + 1 ≤ b - 1 by omega)
      rw [Nat.add_mul] at this
      omega
    · exact h3
    · omega
  subst h2
  omega

theorem case_div (b z r : Nat) (hb : b % 3 = 1) (hz : z < b) (hr : r < 3) (h : z * 3 + r = 1 * b + 0) : z = b / 3 ∧ r = 1 := by omega
theorem case_right (p z d : Nat) (hp : p = 2) (hd : d < p) (h : z * p + d = 3) : z = 1 ∧ d = 1 := by
  subst hp
  omega

/-- Add of two words -/
theorem Add_two (w : World) (x y : Nat) (hx : x < B64) (hy : y < B64) : Calls Tryd.prog 79 #[.slice (some ⟨w.heap.size, 0, none⟩) 1 1, .slice (some ⟨w.heap.size + 1, 0, none⟩) 1 1, .int .u64 (0 : Nat)] (W1 (W1 w x) y) fun e w' =>
    ∃ A c, ∃ z d : Nat, e = .returned (.tuple #[.slice A 1 c, .int .u64 d, .int .i64 0]) ∧ (z < B64 ∧ d ≤ 1 ∧ z + d * B64 = x + y + 0) ∧ Sl w' A 1 c [z] ∧ Below w.heap.size w w' := by
  have h1 := Sl_one w x hx
  have h2 := Sl_one (W1 w x) y hy
  have hb := W1_below2 w x y
  rw [World.size_alloc] at h2
  refine (Add_ok _ _ 1 1 1 [x] [y] 0 _ (by decide) (h1.below (W1_below (W1 w x) y)) h2 (by decide)).mono ?_
  rintro e w' ⟨v, zs, d, rfl, hd, hv, hn, hbw⟩
  obtain ⟨A, c, rfl, hs⟩ := hn.sl
  obtain ⟨z, rfl, hz, hvz⟩ := one_of hn.1 hn.2.1
  rw [hvz, Nat.pow_one, V_one, V_one] at hv
  exact ⟨A, c, z, d, rfl, ⟨hz, hd, hv⟩, hs, hb.trans (hbw.mono (by simp; omega))⟩
theorem Sub_two (w : World) (x y : Nat) (hx : x < B64) (hy : y < B64) : Calls Tryd.prog 69 #[.slice (some ⟨w.heap.size, 0, none⟩) 1 1, .slice (some ⟨w.heap.size + 1, 0, none⟩) 1 1, .int .u64 (0 : Nat)] (W1 (W1 w x) y) fun e w' =>
    ∃ A c, ∃ z d : Nat, e = .returned (.tuple #[.slice A 1 c, .int .u64 d, .int .i64 0]) ∧ (z < B64 ∧ d ≤ 1 ∧ x + d * B64 = z + y + 0) ∧ Sl w' A 1 c [z] ∧ Below w.heap.size w w' := by
  have h1 := Sl_one w x hx
  have h2 := Sl_one (W1 w x) y hy
  have hb := W1_below2 w x y
  rw [World.size_alloc] at h2
  refine (Sub_ok _ _ 1 1 1 [x] [y] 0 _ (by decide) (h1.below (W1_below (W1 w x) y)) h2 (by decide)).mono ?_
  rintro e w' ⟨v, zs, d, rfl, hd, hv, hn, hbw⟩
  obtain ⟨A, c, rfl, hs⟩ := hn.sl
  obtain ⟨z, rfl, hz, hvz⟩ := one_of hn.1 hn.2.1
  rw [hvz, Nat.pow_one, V_one, V_one] at hv
  exact ⟨A, c, z, d, rfl, ⟨hz, hd, hv⟩, hs, hb.trans (hbw.mono (by simp; omega))⟩
theorem Mul_one (w : World) (x y a : Nat) (hx : x < B64) (hy : y < B64) (ha : a < B64) : Calls Tryd.prog 80 #[.slice (some ⟨w.heap.size, 0, none⟩) 1 1, .int .u64 (y : Int), .int .u64 (a : Int)] (W1 w x) fun e w' =>
    ∃ A c, ∃ z d : Nat, e = .returned (.tuple #[.slice A 1 c, .int .u64 d, .int .i64 0]) ∧ (z < B64 ∧ d < B64 ∧ z + d * B64 = x * y + a) ∧ Sl w' A 1 c [z] ∧ Below w.heap.size w w' := by
  have h1 := Sl_one w x hx
  have hb := W1_below w x
  refine (MulWord_ok _ 1 1 [x] y a _ (by decide) h1 hy ha).mono ?_
  rintro e w' ⟨v, zs, d, rfl, hd, hv, hn, hbw⟩
  obtain ⟨A, c, rfl, hs⟩ := hn.sl
  obtain ⟨z, rfl, hz, hvz⟩ := one_of hn.1 hn.2.1
  rw [hvz, Nat.pow_one, V_one] at hv
  exact ⟨A, c, z, d, rfl, ⟨hz, hd, hv⟩, hs, hb.trans (hbw.mono (by simp))⟩
theorem Div_one (w : World) (x y h : Nat) (hx : x < B64) (hy : y < B64) (hh : h < y) : Calls Tryd.prog 81 #[.slice (some ⟨w.heap.size, 0, none⟩) 1 1, .int .u64 (y : Int), .int .u64 (h : Int)] (W1 w x) fun e w' =>
    ∃ A c, ∃ z d : Nat, e = .returned (.tuple #[.slice A 1 c, .int .u64 d, .int .i64 0]) ∧ (z < B64 ∧ d < y ∧ z * y + d = h * B64 + x) ∧ Sl w' A 1 c [z] ∧ Below w.heap.size w w' := by
  have h1 := Sl_one w x hx
  have hb := W1_below w x
  refine (DivWord_ok _ 1 1 [x] y h _ (by decide) h1 hy hh).mono ?_
  rintro e w' ⟨v, zs, d, rfl, hd, hv, hn, hbw⟩
  obtain ⟨A, c, rfl, hs⟩ := hn.sl
  obtain ⟨z, rfl, hz, hvz⟩ := one_of hn.1 hn.2.1
  rw [hvz, Nat.pow_one, V_one] at hv
  exact ⟨A, c, z, d, rfl, ⟨hz, hd, hv⟩, hs, hb.trans (hbw.mono (by simp))⟩
theorem Right_one (w : World) (x s : Nat) (hx : x < B64) (hs63 : s ≤ 63) : Calls Tryd.prog 82 #[.slice (some ⟨w.heap.size, 0, none⟩) 1 1, .int .i64 (s : Int)] (W1 w x) fun e w' =>
    ∃ A c, ∃ z d : Nat, e = .returned (.tuple #[.slice A 1 c, .int .u64 (d * 2 ^ (64 - s) : Nat), .int .i64 0]) ∧ (d < 2 ^ s ∧ z * 2 ^ s + d = x) ∧ Sl w' A 1 c [z] ∧ Below w.heap.size w w' := by
  have h1 := Sl_one w x hx
  have hb := W1_below w x
  refine (Right_ok _ 1 1 [x] s _ (by decide) h1 hs63).mono ?_
  rintro e w' ⟨v, zs, d, rfl, hd, hv, hn, hbw⟩
  obtain ⟨A, c, rfl, hs⟩ := hn.sl
  obtain ⟨z, rfl, hz, hvz⟩ := one_of hn.1 hn.2.1
  rw [hvz, V_one] at hv
  exact ⟨A, c, z, d, rfl, ⟨hd, hv⟩, hs, hb.trans (hbw.mono (by simp))⟩

theorem inv3_q (b v : Nat) (h1 : v < b) (h2 : 3 * v % b = 1) : ∃ q, q < 3 ∧ b * q + 1 = 3 * v := by
  have hq : 3 * v / b < 3 := Nat.div_lt_of_lt_mul (by omega)
  have h := Nat.div_add_mod (3 * v) b
  rw [h2] at h
  exact ⟨_, hq, h⟩
theorem inv3_lit (v q : Nat) (hq : q < 3) (h : 18446744073709551616 * q + 1 = 3 * v) : v = 12297829382473034411 := by
  have h3 : q = 0 ∨ q = 1 ∨ q = 2 := by clear h; omega
  rcases h3 with h3 | h3 | h3
  · rw [h3] at h; clear h3 hq; omega
  · rw [h3] at h; clear h3 hq; omega
  · rw [h3] at h; clear h3 hq; omega
theorem inv3_num (b v : Nat) (hb : b = 18446744073709551616) (h1 : v < b) (h2 : 3 * v % b = 1) : v = 12297829382473034411 := by
  obtain ⟨q, hq, h⟩ := inv3_q b v h1 h2
  exact inv3_lit v q hq (hb ▸ h)
theorem rec_num (b v r : Nat) (hb : b = 18446744073709551616) (h1 : b * b = (v + b) * 9223372036854775808 + r + 1) (h2 : r < 9223372036854775808) (h3 : v < b) : v = 18446744073709551615 := by
  subst hb; omega
/-- Inverse(3) -/
theorem Inverse_3 (W : World) : Calls Tryd.prog 83 #[.int .u64 3] W fun e W' => e = .returned (.tuple #[.int .u64 12297829382473034411, .int .i64 0]) ∧ W = W' := by
  obtain ⟨v, ⟨h1, h2⟩, hc⟩ := Inverse_ok 3 (by decide) (by decide)
  have hv := inv3_num B64 v rfl h1 h2
  rw [hv] at hc
  exact hc W
/-- Reciprocal(2^63) -/
theorem Reciprocal_top (W : World) : Calls Tryd.prog 84 #[.int .u64 9223372036854775808] W fun e W' => e = .returned (.tuple #[.int .u64 18446744073709551615, .int .i64 0]) ∧ ∃ n, W' = W.drewN n := by
  obtain ⟨v, r, ⟨h1, h2, h3⟩, hc⟩ := Reciprocal_ok 9223372036854775808 (by decide) (by decide)
  have hv := rec_num B64 v r rfl h1 h2 h3
  rw [hv] at hc
  exact hc W
end Go.Proofs.YtdjeoionafkanaaDoor
