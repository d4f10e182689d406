/- Pieces of the proofs, together: DivM, Shl, Div, BLen, NPow, DWR, DivWord, NDivW, NDiv, NAwake. -/
import Derived.WalkKit
import Derived.Laws.Bits64b
import Derived.Shelf.Small.Bits
import Derived.Shelf.Strconv.Itoa0
import Derived.Lib.BitFns
import Derived.Deep.DeepCutAuto
import Derived.Deep.CutBlock
import Derived.WalkMore
import Derived.Test.YtalcikmngglplaaDoorP1
import Derived.Test.YtalcikmngglplaaDoorP5
import Derived.Test.YtalcikmngglplaaDoorP2

namespace Go.Proofs.YtalcikmngglplaaDoor
set_option linter.unusedVariables false

section
variable {c u d y y1 y0 q r Q : Nat}

theorem digit_lt (hu : u < y) (hd : d < c) : (u * c + d) / y < c := by
  refine Nat.div_lt_of_lt_mul ?_
  have : (u + 1) * c ≤ y * c := Nat.mul_le_mul_right _ hu
  rw [Nat.add_mul] at this
  omega
theorem digit_start (hy : y = y1 * c + y0) (h0 : 0 < y1) (hd : d < c) : (u * c + d) / y ≤ u / y1 := by
  rw [Nat.le_div_iff_mul_le h0]
  have h1 : (u * c + d) / y * y ≤ u * c + d := Nat.div_mul_le_self _ _
  generalize (u * c + d) / y = Q at *
  subst hy
  have h2 : Q * (y1 * c + y0) = Q * y1 * c + Q * y0 := by grind
  have h3 : Q * y1 * c < (u + 1) * c := by rw [Nat.add_mul]; omega
  have h4 : Q * y1 < u + 1 := Nat.lt_of_mul_lt_mul_right h3
  omega
theorem digit_first (hu : u < y) (hy : y = y1 * c + y0) (h0 : y0 < c) (hc : c ≤ 2 * y1) (h1 : 0 < y1) : u / y1 ≤ c + 1 := by
  refine Nat.le_of_lt_succ (Nat.div_lt_of_lt_mul ?_)
  have : y1 * (c + 2) = y1 * c + 2 * y1 := by grind
  show u < y1 * (c + 2)
  omega
theorem digit_step (hy : y = y1 * c + y0) (hy0 : 0 < y) (hQ : Q = (u * c + d) / y) (hQc : Q < c) (hi : q * y1 + r = u) (hle : Q ≤ q) (hg : c ≤ q ∨ c * r + d < q * y0) : 1 ≤ q ∧ Q ≤ q - 1 := by
  have : Q ≠ q := by
    rintro rfl
    rcases hg with h | h
    · omega
    · have h1 : Q * y ≤ u * c + d := by rw [hQ]; exact Nat.div_mul_le_self _ _
      have h2 : Q * y = Q * y1 * c + Q * y0 := by rw [hy]; grind
      have h3 : u * c = Q * y1 * c + c * r := by rw [← hi]; grind
      omega
  omega
theorem digit_end (hy : y = y1 * c + y0) (hy0 : 0 < y) (hQ : Q = (u * c + d) / y) (hi : q * y1 + r = u) (hle : Q ≤ q) (hg : q * y0 ≤ c * r + d) : q = Q := by
  have : q ≤ Q := by
    rw [hQ, Nat.le_div_iff_mul_le hy0]
    have h2 : q * y = q * y1 * c + q * y0 := by rw [hy]; grind
    have h3 : u * c = q * y1 * c + c * r := by rw [← hi]; grind
    omega
  omega
theorem digit_break (hu : u < y) (hy : y = y1 * c + y0) (h0 : y0 < c) (hy0 : 0 < y) (hQ : Q = (u * c + d) / y) (hi : q * y1 + r = u) (hle : Q ≤ q) (hr : c ≤ r) : q = Q := by
  have h1 : q * y1 < c * y1 := by have : y1 * c = c * y1 := Nat.mul_comm _ _; omega
  have h2 : q < c := Nat.lt_of_mul_lt_mul_right h1
  refine digit_end hy hy0 hQ hi hle ?_
  have h3 : q * y0 ≤ c * c := Nat.mul_le_mul (by omega) (by omega)
  have h4 : c * c ≤ c * r := Nat.mul_le_mul_left _ hr
  omega
theorem digit_rest (hy0 : 0 < y) (hQ : Q = (u * c + d) / y) : Q * y ≤ u * c + d ∧ u * c + d - Q * y < y := by
  have h := Nat.mod_lt (u * c + d) hy0
  have h2 := Nat.div_add_mod (u * c + d) y
  rw [← hQ] at h2
  rw [Nat.mul_comm y Q] at h2
  omega
/-- All that the walk of one loop wants: the step where the test says yes, a break, the end. -/
theorem digit_facts {u y d y1 y0 Q q r : Nat} (hu : u < y) (hy : y = y1 * 4294967296 + y0) (h0 : y0 ≤ 4294967295) (hd : d ≤ 4294967295) (hy0 : 0 < y) (hQ : Q = (u * 4294967296 + d) / y) (hQc : Q < 4294967296) (hi : q * y1 + r = u) (hle : Q ≤ q) :
    (4294967296 ≤ q ∨ 4294967296 * r + d < q * y0 → 1 ≤ q ∧ Q ≤ q - 1 ∧ (q - 1) * y1 + (r + y1) = u ∧ (4294967296 ≤ r + y1 → q - 1 = Q)) ∧ (q * y0 ≤ 4294967296 * r + d → q = Q) := by
  refine ⟨fun hg => ?_, fun hg => digit_end hy hy0 hQ hi hle hg⟩
  obtain ⟨h1, h2⟩ := digit_step hy hy0 hQ hQc hi hle hg
  have h3 : (q - 1) * y1 + (r + y1) = u := by
    rw [Nat.sub_mul]
    have := Nat.le_mul_of_pos_left y1 h1
    omega
  exact ⟨h1, h2, h3, fun hbr => digit_break hu hy (by omega) hy0 hQ h3 h2 hbr⟩
theorem quot_final {N P R0 : Nat} (hP : 0 < P) (h : N * P = q * y * P + R0) (hR : R0 < y * P) : N = q * y + R0 / P ∧ R0 / P < y := by
  have h1 : q * y * P ≤ N * P := by omega
  have h2 : q * y ≤ N := Nat.le_of_mul_le_mul_right h1 hP
  have h3 : R0 = (N - q * y) * P := by rw [Nat.sub_mul]; omega
  have h4 : R0 / P = N - q * y := by rw [h3]; exact Nat.mul_div_cancel _ hP
  exact ⟨by omega, by
    rw [Nat.div_lt_iff_lt_mul hP]
    exact hR⟩
theorem quot_join {N P B l u1 u0 Q0 R R0 yn : Nat} (hB : B = c * c) (h1 : N * P = u * B + l) (h2 : l = u1 * c + u0) (h3 : u * c + u1 = Q * yn + R) (h4 : R * c + u0 = Q0 * yn + R0) (h5 : yn = y * P) :
    N * P = (Q * c + Q0) * y * P + R0 := by
  rw [h1, h2, hB]
  have : u * (c * c) + (u1 * c + u0) = (u * c + u1) * c + u0 := by grind
  rw [this, h3]
  have : (Q * yn + R) * c + u0 = Q * yn * c + (R * c + u0) := by grind
  rw [this, h4, h5]
  grind
end
end Go.Proofs.YtalcikmngglplaaDoor

namespace Go.Proofs.YtalcikmngglplaaDoor
open Go.RowKit
set_option linter.unusedVariables false

theorem pow_split (s : Nat) (h : s ≤ 63) : 2 ^ s * 2 ^ (64 - s) = B64 := by
  rw [← Nat.pow_add, show s + (64 - s) = 64 by omega]; decide
theorem shl_mod (b x q p : Nat) (hb : p * q = b) : x * p % b = p * (x % q) := by
  subst hb
  rw [Nat.mul_comm x p, Nat.mul_mod_mul_left]
theorem shl_split (b x q p : Nat) (hb : p * q = b) : x * p = x / q * b + x * p % b := by
  rw [shl_mod b x q p hb, ← hb]
  have := Nat.div_add_mod x q
  calc x * p = (q * (x / q) + x % q) * p := by rw [this]
    _ = x / q * (p * q) + p * (x % q) := by grind
theorem shl_or (b x q p s c : Nat) (hb : p * q = b) (hp : p = 2 ^ s) (hc : c < p) : (x * p % b) ||| c = x * p % b + c := by
  rw [shl_mod b x q p hb]
  subst hp
  exact (Nat.two_pow_add_eq_or_of_lt hc _).symm
theorem shl_lt (b x q p c : Nat) (hb : p * q = b) (hc : c < p) (hq : 0 < q) : x * p % b + c < b := by
  rw [shl_mod b x q p hb, ← hb]
  have h1 : x % q < q := Nat.mod_lt _ hq
  have h2 : p * (x % q + 1) ≤ p * q := Nat.mul_le_mul_left _ h1
  rw [Nat.mul_succ] at h2
  omega
theorem shr_lt (b x q p : Nat) (hb : p * q = b) (hx : x < b) : x / q < p := by
  refine Nat.div_lt_of_lt_mul ?_
  rw [Nat.mul_comm, hb]
  exact hx
theorem wrap_u64 (x s : Nat) : IntKind.u64.wrap ((x : Int) * 2 ^ s) = ((x * 2 ^ s % B64 : Nat) : Int) := by
  rw [IntKind.wrap_u64]
  simp [B64]

end Go.Proofs.YtalcikmngglplaaDoor

namespace Go.Proofs.YtalcikmngglplaaDoor
open Go.RowKit
set_option linter.unusedVariables false

open Go.Shelf in
def lays134_ren : Go.Shelf.Ren := ⟨fun | 134 => 143 | 129 => 33 | n => n, fun | 53 => 24 | 3 => 3 | 4 => 4 | 46 => 43 | 5 => 5 | 9 => 9 | n => n, fun | n => n⟩
theorem lays134 : Go.Proofs.Lays.n134 Tryd.prog lays134_ren := {
  mixed := by kernel_rfl
  f129 := Tryd.func33.trans (congrArg some (by kernel_rfl))
  f134 := Tryd.func143.trans (congrArg some (by kernel_rfl))
  t3 := Tryd.underlying3
  a3 := Tryd.isAgg3
  z3 := Tryd.sizeOf3
  v3 := Tryd.zeroValue3
  t4 := Tryd.underlying4
  a4 := Tryd.isAgg4
  z4 := Tryd.sizeOf4
  v4 := Tryd.zeroValue4
  t5 := Tryd.underlying5
  a5 := Tryd.isAgg5
  z5 := Tryd.sizeOf5
  v5 := Tryd.zeroValue5
  t9 := Tryd.underlying9
  a9 := Tryd.isAgg9
  z9 := Tryd.sizeOf9
  v9 := Tryd.zeroValue9
  t46 := Tryd.underlying43
  a46 := Tryd.isAgg43
  z46 := Tryd.sizeOf43
  v46 := Tryd.zeroValue43
  t53 := Tryd.underlying24
  a53 := Tryd.isAgg24
  z53 := Tryd.sizeOf24
  v53 := Tryd.zeroValue24 }

/-- how far a word is shifted until its highest bit is 1 -/
theorem lz64_any (y : Nat) (h0 : 0 < y) (hy : y < B64) : ∃ s : Nat, (s ≤ 63 ∧ 2 ^ 63 ≤ y * 2 ^ s ∧ y * 2 ^ s < B64) ∧
    ∀ w, Calls Tryd.prog 143 #[.int .u64 y] w fun e w' => e = .returned (.int .i64 (s : Int)) ∧ w = w' := by
  obtain ⟨a, b, c⟩ := bitLenAux_spec 64 y hy
  obtain ⟨b1, b2⟩ := b h0
  refine ⟨64 - Lib.bitLenAux 64 y, ⟨by omega, ?_, ?_⟩, fun w => ?_⟩
  · calc 2 ^ 63 = 2 ^ (Lib.bitLenAux 64 y - 1) * 2 ^ (64 - Lib.bitLenAux 64 y) := by rw [← Nat.pow_add]; congr 1; omega
      _ ≤ _ := Nat.mul_le_mul_right _ b2
  · have : B64 = 2 ^ Lib.bitLenAux 64 y * 2 ^ (64 - Lib.bitLenAux 64 y) := by rw [← Nat.pow_add, show Lib.bitLenAux 64 y + (64 - Lib.bitLenAux 64 y) = 64 by omega]; rfl
    rw [this]
    exact Nat.mul_lt_mul_of_pos_right a (Nat.pow_pos (by decide))
  · refine (Any.bits_LeadingZeros64 lays134 (y : Int) w (by omega) (by have : B64 = 18446744073709551616 := rfl; omega)).mono fun e w' h => ⟨?_, h.2.symm⟩
    rw [h.1, Int.toNat_natCast, show (64 - (Lib.bitLen y : Int)) = ((64 - Lib.bitLenAux 64 y : Nat) : Int) by unfold Lib.bitLen; omega]

theorem and_mask (x : Nat) (hx : x < B64) : bits BinOp.and IntKind.u64 (x : Int) 4294967295 = ((x % 4294967296 : Nat) : Int) := by
  have := bits_and_u64_nat x 4294967295 hx (by decide)
  rw [show ((4294967295 : Nat) : Int) = 4294967295 from rfl] at this
  rw [this, show (4294967295 : Nat) = 2 ^ 32 - 1 from rfl, Nat.and_two_pow_sub_one_eq_mod]

theorem wrap_nat (n : Nat) (h : n < B64) : IntKind.u64.wrap (n : Int) = n := by
  rw [IntKind.wrap_u64]
  have : B64 = 18446744073709551616 := rfl
  omega
theorem wrap_shl (x s n : Nat) (h : x * 2 ^ s % B64 = n) : IntKind.u64.wrap ((x : Int) * 2 ^ s) = (n : Int) := by rw [wrap_u64, h]
theorem wrap_mul (x y n : Nat) (h : x * y = n) (hn : n < B64) : IntKind.u64.wrap ((x : Int) * (y : Int)) = (n : Int) := by
  rw [← Int.natCast_mul, h]
  exact wrap_nat n hn
theorem wrap_rest (u d t R : Nat) (h : u * 4294967296 + d = t + R) (hR : R < B64) :
    IntKind.u64.wrap (IntKind.u64.wrap (IntKind.u64.wrap ((u : Int) * 4294967296) + (d : Int)) - IntKind.u64.wrap (t : Int)) = (R : Int) := by
  simp only [IntKind.wrap_u64]
  have : B64 = 18446744073709551616 := rfl
  omega
theorem shl_word (hi lo s : Nat) (hs : s ≤ 63) (hlo : lo < B64) (hh : hi * 2 ^ s < B64) :
    bits BinOp.or IntKind.u64 ((hi * 2 ^ s : Nat) : Int) ((lo : Int) / 2 ^ (64 - s)) = ((hi * 2 ^ s + lo / 2 ^ (64 - s) : Nat) : Int) ∧ (hi * B64 + lo) * 2 ^ s = (hi * 2 ^ s + lo / 2 ^ (64 - s)) * B64 + lo * 2 ^ s % B64 := by
  have hp := pow_split s hs
  have hd : lo / 2 ^ (64 - s) < 2 ^ s := shr_lt B64 lo _ _ hp hlo
  have hdB : lo / 2 ^ (64 - s) < B64 := Nat.lt_of_le_of_lt (Nat.div_le_self _ _) hlo
  constructor
  · rw [show ((lo : Int) / 2 ^ (64 - s)) = ((lo / 2 ^ (64 - s) : Nat) : Int) by simp, bits_or_u64_nat _ _ hh hdB, Nat.mul_comm hi, ← Nat.two_pow_add_eq_or_of_lt hd]
  · have := shl_split B64 lo _ _ hp
    generalize lo * 2 ^ s % B64 = m at *
    generalize lo / 2 ^ (64 - s) = d at *
    rw [Nat.add_mul, this]
    generalize B64 = b
    generalize 2 ^ s = p
    grind

set_option maxRecDepth 100000 in
set_option maxHeartbeats 1600000 in
theorem div64_pos (hi lo y : Nat) (h0 : 0 < hi) (h1 : hi < y) (hlo : lo < B64) (hy : y < B64) : ∃ q r : Nat, (hi * B64 + lo = q * y + r ∧ r < y ∧ q < B64) ∧
    ∀ w, Calls Tryd.prog 134 #[.int .u64 hi, .int .u64 lo, .int .u64 y] w fun e w' => e = .returned (.tuple #[.int .u64 (q : Int), .int .u64 (r : Int)]) ∧ w = w' := by
  obtain ⟨s, hs, hcall⟩ := lz64_any y (by omega) hy
  have hP : 0 < 2 ^ s := Nat.pow_pos (by decide)
  have hhi : hi * 2 ^ s < B64 := Nat.lt_of_le_of_lt (Nat.mul_le_mul_right _ (by omega)) hs.2.2
  obtain ⟨hor, hN⟩ := shl_word hi lo s hs.1 hlo hhi
  obtain ⟨yn, hyn⟩ : ∃ yn : Nat, yn = y * 2 ^ s := ⟨_, rfl⟩
  obtain ⟨l, hl⟩ : ∃ l : Nat, l = lo * 2 ^ s % B64 := ⟨_, rfl⟩
  obtain ⟨h, hh⟩ : ∃ h : Nat, h = hi * 2 ^ s := ⟨_, rfl⟩
  obtain ⟨u, hu⟩ : ∃ u : Nat, u = hi * 2 ^ s + lo / 2 ^ (64 - s) := ⟨_, rfl⟩
  obtain ⟨y1, hy1⟩ : ∃ y1 : Nat, y1 = yn / 4294967296 := ⟨_, rfl⟩
  obtain ⟨y0, hy0⟩ : ∃ y0 : Nat, y0 = yn % 4294967296 := ⟨_, rfl⟩
  obtain ⟨u1, hu1⟩ : ∃ u1 : Nat, u1 = l / 4294967296 := ⟨_, rfl⟩
  obtain ⟨u0, hu0⟩ : ∃ u0 : Nat, u0 = l % 4294967296 := ⟨_, rfl⟩
  rw [← hh] at hor hN hu
  rw [← hu] at hor hN
  rw [← hl] at hN
  have hBv : B64 = 18446744073709551616 := rfl
  have hlB : l < B64 := by rw [hl]; exact Nat.mod_lt _ (by decide)
  have hynB : yn < B64 := by rw [hyn]; exact hs.2.2
  have hynG : 2 ^ 63 ≤ yn := by rw [hyn]; exact hs.2.1
  have N1 : 2147483648 ≤ y1 := by omega
  have N2 : y1 ≤ 4294967295 := by omega
  have N3 : y0 ≤ 4294967295 := by omega
  have N4 : u1 ≤ 4294967295 := by omega
  have N5 : u0 ≤ 4294967295 := by omega
  have hyy : yn = y1 * 4294967296 + y0 := by omega
  have huy : u < yn := by
    have g1 : (hi * B64 + lo) * 2 ^ s < y * B64 * 2 ^ s := Nat.mul_lt_mul_of_pos_right (by have := Nat.mul_le_mul_right B64 h1; rw [Nat.succ_mul] at this; omega) hP
    have g2 : u * B64 < yn * B64 := by
      have : y * B64 * 2 ^ s = yn * B64 := by rw [hyn]; generalize B64 = b; grind
      omega
    exact Nat.lt_of_mul_lt_mul_right g2
  obtain ⟨Q, hQ⟩ : ∃ Q : Nat, Q = (u * 4294967296 + u1) / yn := ⟨_, rfl⟩
  have hQc : Q < 4294967296 := by rw [hQ]; exact digit_lt huy (by omega)
  obtain ⟨hr1, hr2⟩ := digit_rest (show 0 < yn by omega) hQ
  obtain ⟨R, hR⟩ : ∃ R : Nat, R = u * 4294967296 + u1 - Q * yn := ⟨_, rfl⟩
  rw [← hR] at hr2
  have hj3 : u * 4294967296 + u1 = Q * yn + R := by rw [hR]; exact (Nat.add_sub_cancel' hr1).symm
  obtain ⟨Q0, hQ0⟩ : ∃ Q0 : Nat, Q0 = (R * 4294967296 + u0) / yn := ⟨_, rfl⟩
  have hQ0c : Q0 < 4294967296 := by rw [hQ0]; exact digit_lt hr2 (by omega)
  obtain ⟨ht1, ht2⟩ := digit_rest (show 0 < yn by omega) hQ0
  obtain ⟨R0, hR0⟩ : ∃ R0 : Nat, R0 = R * 4294967296 + u0 - Q0 * yn := ⟨_, rfl⟩
  rw [← hR0] at ht2
  have hj4 : R * 4294967296 + u0 = Q0 * yn + R0 := by rw [hR0]; exact (Nat.add_sub_cancel' ht1).symm
  have hl10 : l = u1 * 4294967296 + u0 := by omega
  have hBB : B64 = 4294967296 * 4294967296 := by decide
  have hjoin := quot_join (B := B64) hBB hN hl10 hj3 hj4 hyn
  obtain ⟨hf1, hf2⟩ := quot_final hP hjoin (by rw [← hyn]; exact ht2)
  have hqB : Q * 4294967296 + Q0 < B64 := by omega
  refine ⟨Q * 4294967296 + Q0, R0 / 2 ^ s, ⟨hf1, hf2, hqB⟩, fun w => ?_⟩
  have E1 : IntKind.u64.wrap ((y : Int) * 2 ^ s) = (yn : Int) := wrap_shl _ _ _ (by rw [← hyn]; exact Nat.mod_eq_of_lt hynB)
  have E2 : (yn : Int) / 4294967296 = (y1 : Int) := by omega
  have E3 : bits BinOp.and IntKind.u64 (yn : Int) 4294967295 = (y0 : Int) := by rw [and_mask _ hynB, hy0]
  have E4 : IntKind.u64.wrap ((hi : Int) * 2 ^ s) = (h : Int) := wrap_shl _ _ _ (by rw [← hh]; exact Nat.mod_eq_of_lt (by rw [hh]; exact hhi))
  have E6 : IntKind.u64.wrap ((lo : Int) * 2 ^ s) = (l : Int) := wrap_shl _ _ _ hl.symm
  have E7 : (l : Int) / 4294967296 = (u1 : Int) := by omega
  have E8 : bits BinOp.and IntKind.u64 (l : Int) 4294967295 = (u0 : Int) := by rw [and_mask _ hlB, hu0]
  obtain ⟨q1, hq1⟩ : ∃ q1 : Nat, q1 = u / y1 := ⟨_, rfl⟩
  obtain ⟨m1, hm1⟩ : ∃ m1 : Nat, m1 = q1 * y1 := ⟨_, rfl⟩
  have hm1u : m1 ≤ u := by rw [hm1, hq1]; exact Nat.div_mul_le_self _ _
  obtain ⟨r1, hrr1⟩ : ∃ r1 : Nat, r1 = u - m1 := ⟨_, rfl⟩
  have hr1y : r1 < y1 := by
    have g1 := Nat.mod_lt u (show y1 > 0 by omega)
    have g2 := Nat.div_add_mod u y1
    rw [← hq1, Nat.mul_comm, ← hm1] at g2
    omega
  have hq1c : q1 ≤ 4294967297 := by rw [hq1]; exact digit_first huy hyy (by omega) (by omega) (by omega)
  have hQq : Q ≤ q1 := by rw [hQ, hq1]; exact digit_start hyy (by omega) (by omega)
  have E9 : (u : Int) / (y1 : Int) = (q1 : Int) := by rw [hq1]; simp
  have E10 : IntKind.u64.wrap ((q1 : Int) * (y1 : Int)) = (m1 : Int) := wrap_mul _ _ _ hm1.symm (by omega)
  have E11 : (u : Int) - (m1 : Int) = (r1 : Int) := by omega
  have Hi1 := Lib.hid (show q1 * y1 + r1 = u by omega)
  have uB : (u : Int) ≤ 18446744073709551615 := by omega
  -- the second digit
  obtain ⟨q2, hq2⟩ : ∃ q2 : Nat, q2 = R / y1 := ⟨_, rfl⟩
  obtain ⟨m2, hm2⟩ : ∃ m2 : Nat, m2 = q2 * y1 := ⟨_, rfl⟩
  have hm2u : m2 ≤ R := by rw [hm2, hq2]; exact Nat.div_mul_le_self _ _
  obtain ⟨r2, hrr2⟩ : ∃ r2 : Nat, r2 = R - m2 := ⟨_, rfl⟩
  have hr2y : r2 < y1 := by
    have g1 := Nat.mod_lt R (show y1 > 0 by omega)
    have g2 := Nat.div_add_mod R y1
    rw [← hq2, Nat.mul_comm, ← hm2] at g2
    omega
  have hq2c : q2 ≤ 4294967297 := by rw [hq2]; exact digit_first hr2 hyy (by omega) (by omega) (by omega)
  have hQq2 : Q0 ≤ q2 := by rw [hQ0, hq2]; exact digit_start hyy (by omega) (by omega)
  obtain ⟨t1, htt1⟩ : ∃ t1 : Nat, t1 = Q * yn := ⟨_, rfl⟩
  obtain ⟨t2, htt2⟩ : ∃ t2 : Nat, t2 = Q0 * yn := ⟨_, rfl⟩
  have F0 : ((Q : Int) * (yn : Int)) = (t1 : Int) := by rw [htt1]; simp
  have F1 : IntKind.u64.wrap (IntKind.u64.wrap (IntKind.u64.wrap ((u : Int) * 4294967296) + (u1 : Int)) - IntKind.u64.wrap (t1 : Int)) = (R : Int) := wrap_rest u u1 t1 R (by rw [htt1]; exact hj3) (Nat.lt_trans hr2 hynB)
  have F9 : (R : Int) / (y1 : Int) = (q2 : Int) := by rw [hq2]; simp
  have F10 : IntKind.u64.wrap ((q2 : Int) * (y1 : Int)) = (m2 : Int) := wrap_mul _ _ _ hm2.symm (by omega)
  have F11 : (R : Int) - (m2 : Int) = (r2 : Int) := by omega
  have Hi2 := Lib.hid (show q2 * y1 + r2 = R by omega)
  have G0 : ((Q0 : Int) * (yn : Int)) = (t2 : Int) := by rw [htt2]; simp
  have G1 : IntKind.u64.wrap (IntKind.u64.wrap (IntKind.u64.wrap ((R : Int) * 4294967296) + (u0 : Int)) - IntKind.u64.wrap (t2 : Int)) = (R0 : Int) := wrap_rest R u0 t2 R0 (by rw [htt2]; exact hj4) (Nat.lt_trans ht2 hynB)
  have RB : (R : Int) ≤ 18446744073709551615 := by omega
  have Hfin := Lib.hid (show ((Q * 4294967296 + Q0 : Nat) : Int) = (Q : Int) * 4294967296 + Q0 ∧ ((R0 / 2 ^ s : Nat) : Int) = (R0 : Int) / 2 ^ s by constructor; omega; simp)
  have Hm := Lib.hid (And.intro huy (And.intro hyy (And.intro hQ (And.intro hr2 (And.intro hQ0 (show 0 < yn by omega))))))
  have e1 : ((y : Int) == 0) = false := by simp; omega
  have e3 : ((hi : Int) == 0) = false := by simp; omega
  have hs63 := hs.1
  have Hc := Lib.hid hcall
  clear hcall hs hyn hl hh hy1 hy0 hu1 hu0 hu hN hhi hP hBv hlB hynB hynG hyy huy hQ hr1 hr2 hR hj3 hQ0 ht1 ht2 hR0 hj4 hf1 hf2 hqB hq1 hm1 hrr1 hq2 hm2 hrr2 htt1 htt2 hl10 hBB hjoin hlo hy
  go_enter Tryd.func134, Tryd.ntmps134
  have B0 : (4294967296 : Int) * 4294967295 + 4294967295 ≤ 18446744073709551615 := by decide
  go_upto_block 0 with (go_at_call 143; refine (Hc.out _).mono ?_; rintro e w' ⟨rfl, rfl⟩)
  go_cut [15, 16] (fun a _ wx => a = .int .u64 (Q : Int) ∧ w = wx)
  case first =>
    clear E1 E2 E3 E4 E6 E7 E8 E9 E10 E11 e1 e3 F0 F1 F9 F10 F11 G0 G1 Hi2 Hfin hQ0c hq2c hm2u hr2y hQq2 RB hor
    go_wp2
    go_loop [15, 16] (fun a b => ∃ q r : Nat, a = .int .u64 q ∧ b = .int .u64 r ∧ r ≤ 4294967295 ∧ q ≤ 4294967297 ∧ Q ≤ q ∧ Hid (q * y1 + r = u)) (fun a _ => (intOf a).toNat)
    case atStart => exact ⟨q1, r1, rfl, rfl, by omega, by omega, hQq, Hi1.out⟩
    case round =>
      clear hQq Hi1
      obtain ⟨q, r, rfl, rfl, hr, hq, hQq, hi⟩ := hrel
      obtain ⟨hs2, hend⟩ := digit_facts Hm.out.1 Hm.out.2.1 N3 N4 Hm.out.2.2.2.2.2 Hm.out.2.2.1 hQc hi.out hQq
      obtain ⟨q', hq'⟩ : ∃ q' : Nat, q' = q - 1 := ⟨_, rfl⟩
      obtain ⟨r', hr'⟩ : ∃ r' : Nat, r' = r + y1 := ⟨_, rfl⟩
      obtain ⟨p, hp⟩ : ∃ p : Nat, p = q * y0 := ⟨_, rfl⟩
      obtain ⟨k, hk⟩ : ∃ k : Nat, k = 4294967296 * r + u1 := ⟨_, rfl⟩
      rw [← hp, ← hk, ← hq', ← hr'] at hs2
      rw [← hp, ← hk] at hend
      have hpB : q ≤ 4294967295 → p ≤ 4294967295 * 4294967295 := fun h => by rw [hp]; exact Nat.mul_le_mul h N3
      have D1 : (r : Int) + (y1 : Int) = (r' : Int) := by omega
      have EK : 4294967296 * (r : Int) + (u1 : Int) = (k : Int) := by omega
      have EP : (q : Int) * (y0 : Int) = (p : Int) := by rw [hp]; simp
      have B1 : (r : Int) ≤ 4294967295 := by omega
      have B2 : (u1 : Int) ≤ 4294967295 := by omega
      have B3 : (r' : Int) ≤ 8589934590 := by omega
      have B4 : (k : Int) ≤ 18446744073709551615 := by omega
      have B5 : (q : Int) ≤ 4294967297 := by omega
      by_cases hyes : 4294967296 ≤ q ∨ k < p
      · obtain ⟨g1, g2, g3, g4⟩ := hs2 hyes
        have D2 : (q : Int) - 1 = (q' : Int) := by omega
        have B6 : (q' : Int) ≤ 4294967297 := by omega
        have Hk := Lib.hid (And.intro g2 (And.intro (show q' ≤ 4294967297 by omega) (show q' < q by omega)))
        have Hu := Lib.hid g3
        by_cases hbr : 4294967296 ≤ r'
        · have T2 : decide ((4294967296 : Int) ≤ (r' : Int)) = true := by simp; omega
          have HQ := Lib.hid (g4 hbr)
          by_cases hbig : 4294967296 ≤ q
          · have T1 : decide ((4294967296 : Int) ≤ (q : Int)) = true := by simp; omega
            clear hs2 hend hq' hr' hp hk hpB hr hq hQq hyes g1 g2 g3 g4 hbr hbig N1 N2 N3 N4 N5 hQc hq1c hm1u hr1y uB
            go_wp2
            go_meet
            exact ⟨by rw [← HQ.out], rfl⟩
          · have T1 : decide ((4294967296 : Int) ≤ (q : Int)) = false := by simp; omega
            have T3 : k < p := by omega
            have B7 : (p : Int) ≤ 18446744073709551615 := by have := hpB (by omega); omega
            clear hs2 hend hq' hr' hp hk hpB hr hq hQq hyes g1 g2 g3 g4 hbr hbig N1 N2 N3 N4 N5 hQc hq1c hm1u hr1y uB
            go_wp2
            go_meet
            exact ⟨by rw [← HQ.out], rfl⟩
        · have T2 : decide ((4294967296 : Int) ≤ (r' : Int)) = false := by simp; omega
          have Hr := Lib.hid (show r' ≤ 4294967295 by omega)
          by_cases hbig : 4294967296 ≤ q
          · have T1 : decide ((4294967296 : Int) ≤ (q : Int)) = true := by simp; omega
            clear hs2 hend hq' hr' hp hk hpB hr hq hQq hyes g1 g2 g3 g4 hbr hbig N1 N2 N3 N4 N5 hQc hq1c hm1u hr1y uB
            go_wp2
            go_round
            case rel => exact ⟨q', r', rfl, rfl, Hr.out, Hk.out.2.1, Hk.out.1, Hu.out⟩
            case measure => have := Hk.out.2.2; simp [intOf]; omega
          · have T1 : decide ((4294967296 : Int) ≤ (q : Int)) = false := by simp; omega
            have T3 : k < p := by omega
            have B7 : (p : Int) ≤ 18446744073709551615 := by have := hpB (by omega); omega
            clear hs2 hend hq' hr' hp hk hpB hr hq hQq hyes g1 g2 g3 g4 hbr hbig N1 N2 N3 N4 N5 hQc hq1c hm1u hr1y uB
            go_wp2
            go_round
            case rel => exact ⟨q', r', rfl, rfl, Hr.out, Hk.out.2.1, Hk.out.1, Hu.out⟩
            case measure => have := Hk.out.2.2; simp [intOf]; omega
      · have T1 : decide ((4294967296 : Int) ≤ (q : Int)) = false := by simp; omega
        have T3 : ¬ k < p := by omega
        have B7 : (p : Int) ≤ 18446744073709551615 := by have := hpB (by omega); omega
        have HQ := Lib.hid (hend (by omega))
        clear hs2 hend hq' hr' hp hk hpB hr hq hQq hyes N1 N2 N3 N4 N5 hQc hq1c hm1u hr1y uB
        go_wp2
        go_meet
        exact ⟨by rw [← HQ.out], rfl⟩
  case rest =>
    obtain ⟨rfl, rfl⟩ := hcut
    have C1 : (Q : Int) ≤ 4294967295 := by omega
    have C2 : (Q0 : Int) ≤ 4294967295 := by omega
    go_upto_block 2 with (fail)
    go_cut [18, 16] (fun a _ wx => a = .int .u64 (Q0 : Int) ∧ w = wx)
    case first =>
      clear E1 E2 E3 E4 E6 E7 E8 E9 E10 E11 F0 F1 F9 F10 F11 G0 G1 Hi1 Hfin hQc hq1c hm1u hr1y hQq uB hor
      go_wp2
      go_loop [18, 16] (fun a b => ∃ q r : Nat, a = .int .u64 q ∧ b = .int .u64 r ∧ r ≤ 4294967295 ∧ q ≤ 4294967297 ∧ Q0 ≤ q ∧ Hid (q * y1 + r = R)) (fun a _ => (intOf a).toNat)
      case atStart => exact ⟨q2, r2, rfl, rfl, by omega, by omega, hQq2, Hi2.out⟩
      case round =>
        clear hQq2 Hi2
        obtain ⟨q, r, rfl, rfl, hr, hq, hQq, hi⟩ := hrel
        obtain ⟨hs2, hend⟩ := digit_facts Hm.out.2.2.2.1 Hm.out.2.1 N3 N5 Hm.out.2.2.2.2.2 Hm.out.2.2.2.2.1 hQ0c hi.out hQq
        obtain ⟨q', hq'⟩ : ∃ q' : Nat, q' = q - 1 := ⟨_, rfl⟩
        obtain ⟨r', hr'⟩ : ∃ r' : Nat, r' = r + y1 := ⟨_, rfl⟩
        obtain ⟨p, hp⟩ : ∃ p : Nat, p = q * y0 := ⟨_, rfl⟩
        obtain ⟨k, hk⟩ : ∃ k : Nat, k = 4294967296 * r + u0 := ⟨_, rfl⟩
        rw [← hp, ← hk, ← hq', ← hr'] at hs2
        rw [← hp, ← hk] at hend
        have hpB : q ≤ 4294967295 → p ≤ 4294967295 * 4294967295 := fun h => by rw [hp]; exact Nat.mul_le_mul h N3
        have D1 : (r : Int) + (y1 : Int) = (r' : Int) := by omega
        have EK : 4294967296 * (r : Int) + (u0 : Int) = (k : Int) := by omega
        have EP : (q : Int) * (y0 : Int) = (p : Int) := by rw [hp]; simp
        have B1 : (r : Int) ≤ 4294967295 := by omega
        have B2 : (u0 : Int) ≤ 4294967295 := by omega
        have B3 : (r' : Int) ≤ 8589934590 := by omega
        have B4 : (k : Int) ≤ 18446744073709551615 := by omega
        have B5 : (q : Int) ≤ 4294967297 := by omega
        by_cases hyes : 4294967296 ≤ q ∨ k < p
        · obtain ⟨g1, g2, g3, g4⟩ := hs2 hyes
          have D2 : (q : Int) - 1 = (q' : Int) := by omega
          have B6 : (q' : Int) ≤ 4294967297 := by omega
          have Hk := Lib.hid (And.intro g2 (And.intro (show q' ≤ 4294967297 by omega) (show q' < q by omega)))
          have Hu := Lib.hid g3
          by_cases hbr : 4294967296 ≤ r'
          · have T2 : decide ((4294967296 : Int) ≤ (r' : Int)) = true := by simp; omega
            have HQ := Lib.hid (g4 hbr)
            by_cases hbig : 4294967296 ≤ q
            · have T1 : decide ((4294967296 : Int) ≤ (q : Int)) = true := by simp; omega
              clear hs2 hend hq' hr' hp hk hpB hr hq hQq hyes g1 g2 g3 g4 hbr hbig N1 N2 N3 N4 N5 hQ0c hq2c hm2u hr2y RB
              go_wp2
              go_meet
              exact ⟨by rw [← HQ.out], rfl⟩
            · have T1 : decide ((4294967296 : Int) ≤ (q : Int)) = false := by simp; omega
              have T3 : k < p := by omega
              have B7 : (p : Int) ≤ 18446744073709551615 := by have := hpB (by omega); omega
              clear hs2 hend hq' hr' hp hk hpB hr hq hQq hyes g1 g2 g3 g4 hbr hbig N1 N2 N3 N4 N5 hQ0c hq2c hm2u hr2y RB
              go_wp2
              go_meet
              exact ⟨by rw [← HQ.out], rfl⟩
          · have T2 : decide ((4294967296 : Int) ≤ (r' : Int)) = false := by simp; omega
            have Hr := Lib.hid (show r' ≤ 4294967295 by omega)
            by_cases hbig : 4294967296 ≤ q
            · have T1 : decide ((4294967296 : Int) ≤ (q : Int)) = true := by simp; omega
              clear hs2 hend hq' hr' hp hk hpB hr hq hQq hyes g1 g2 g3 g4 hbr hbig N1 N2 N3 N4 N5 hQ0c hq2c hm2u hr2y RB
              go_wp2
              go_round
              case rel => exact ⟨q', r', rfl, rfl, Hr.out, Hk.out.2.1, Hk.out.1, Hu.out⟩
              case measure => have := Hk.out.2.2; simp [intOf]; omega
            · have T1 : decide ((4294967296 : Int) ≤ (q : Int)) = false := by simp; omega
              have T3 : k < p := by omega
              have B7 : (p : Int) ≤ 18446744073709551615 := by have := hpB (by omega); omega
              clear hs2 hend hq' hr' hp hk hpB hr hq hQq hyes g1 g2 g3 g4 hbr hbig N1 N2 N3 N4 N5 hQ0c hq2c hm2u hr2y RB
              go_wp2
              go_round
              case rel => exact ⟨q', r', rfl, rfl, Hr.out, Hk.out.2.1, Hk.out.1, Hu.out⟩
              case measure => have := Hk.out.2.2; simp [intOf]; omega
        · have T1 : decide ((4294967296 : Int) ≤ (q : Int)) = false := by simp; omega
          have T3 : ¬ k < p := by omega
          have B7 : (p : Int) ≤ 18446744073709551615 := by have := hpB (by omega); omega
          have HQ := Lib.hid (hend (by omega))
          clear hs2 hend hq' hr' hp hk hpB hr hq hQq hyes N1 N2 N3 N4 N5 hQ0c hq2c hm2u hr2y RB
          go_wp2
          go_meet
          exact ⟨by rw [← HQ.out], rfl⟩
    case rest =>
      obtain ⟨rfl, rfl⟩ := hcut
      clear E1 E2 E3 E4 E6 E7 E8 E9 E10 E11 F1 F9 F10 F11 hQc hQ0c hq1c hq2c N1 N2 N3 N4 N5 hm1u hm2u hr1y hr2y hQq hQq2 Hi1 Hi2
      go_wp2
      go_ret2
      rw [Hfin.out.1, Hfin.out.2]
      exact ⟨rfl, rfl⟩

set_option maxRecDepth 100000 in
set_option maxHeartbeats 400000 in
theorem div64_zero (lo y : Nat) (h1 : 0 < y) (hlo : lo < B64) : 
    ∀ w, Calls Tryd.prog 134 #[.int .u64 0, .int .u64 lo, .int .u64 y] w fun e w' => e = .returned (.tuple #[.int .u64 ((lo / y : Nat) : Int), .int .u64 ((lo % y : Nat) : Int)]) ∧ ∃ n, w' = w.drewN n := by
  intro w
  have e1 : ((y : Int) == 0) = false := by simp; omega
  have e2 : (1 : Int) ≤ (y : Int) := by omega
  obtain ⟨q, hq⟩ : ∃ q : Nat, q = lo / y := ⟨_, rfl⟩
  obtain ⟨r, hr⟩ : ∃ r : Nat, r = lo % y := ⟨_, rfl⟩
  have hqB : q < B64 := Nat.lt_of_le_of_lt (by rw [hq]; exact Nat.div_le_self _ _) hlo
  have hrB : r < B64 := Nat.lt_of_le_of_lt (by rw [hr]; exact Nat.mod_le _ _) hlo
  have E1 : (lo : Int) / (y : Int) = (q : Int) := by rw [hq]; simp
  have E2 : (lo : Int) % (y : Int) = (r : Int) := by rw [hr]; simp
  have E3 : IntKind.u64.wrap (q : Int) = (q : Int) := wrap_nat q hqB
  have E4 : IntKind.u64.wrap (r : Int) = (r : Int) := wrap_nat r hrB
  rw [← hq, ← hr]
  clear hq hr hqB hrB hlo
  go_enter Tryd.func134, Tryd.ntmps134
  go_wp2
  go_quiet (fail)
  go_wp2
  go_ret2
  exact ⟨by rw [← E2]; rfl, _, rfl⟩

/-- bits.Div64 where the quotient is a word. -/
theorem div64_any (hi lo y : Nat) (h1 : hi < y) (hlo : lo < B64) (hy : y < B64) : ∃ q r : Nat, (hi * B64 + lo = q * y + r ∧ r < y ∧ q < B64) ∧
    ∀ w, Calls Tryd.prog 134 #[.int .u64 hi, .int .u64 lo, .int .u64 y] w fun e w' => e = .returned (.tuple #[.int .u64 (q : Int), .int .u64 (r : Int)]) ∧ ∃ n, w' = w.drewN n := by
  rcases Nat.eq_zero_or_pos hi with h0 | h0
  · subst h0
    refine ⟨lo / y, lo % y, ⟨?_, Nat.mod_lt _ h1, Nat.lt_of_le_of_lt (Nat.div_le_self _ _) hlo⟩, div64_zero lo y h1 hlo⟩
    have := Nat.div_add_mod lo y
    rw [Nat.mul_comm] at this
    omega
  · obtain ⟨q, r, h, hc⟩ := div64_pos hi lo y h0 h1 hlo hy
    exact ⟨q, r, h, fun w => (hc w).mono fun e w' hh => ⟨hh.1, 0, by rw [← hh.2]; rfl⟩⟩
end Go.Proofs.YtalcikmngglplaaDoor

namespace Go.Proofs.YtalcikmngglplaaDoor
open Go.RowKit
set_option linter.unusedVariables false

open Go.Shelf in
def lays125_ren : Go.Shelf.Ren := ⟨fun | 125 => 64 | 128 => 96 | 129 => 33 | n => n, fun | 53 => 24 | 3 => 3 | 4 => 4 | 46 => 43 | 51 => 128 | 5 => 5 | 9 => 9 | n => n, fun | n => n⟩
theorem lays125 : Go.Proofs.Lays.n125 Tryd.prog lays125_ren := {
  mixed := by kernel_rfl
  f125 := Tryd.func64.trans (congrArg some (by kernel_rfl))
  f128 := Tryd.func96.trans (congrArg some (by kernel_rfl))
  f129 := Tryd.func33.trans (congrArg some (by kernel_rfl))
  t3 := Tryd.underlying3
  a3 := Tryd.isAgg3
  z3 := Tryd.sizeOf3
  v3 := Tryd.zeroValue3
  t4 := Tryd.underlying4
  a4 := Tryd.isAgg4
  z4 := Tryd.sizeOf4
  v4 := Tryd.zeroValue4
  t5 := Tryd.underlying5
  a5 := Tryd.isAgg5
  z5 := Tryd.sizeOf5
  v5 := Tryd.zeroValue5
  t9 := Tryd.underlying9
  a9 := Tryd.isAgg9
  z9 := Tryd.sizeOf9
  v9 := Tryd.zeroValue9
  t46 := Tryd.underlying43
  a46 := Tryd.isAgg43
  z46 := Tryd.sizeOf43
  v46 := Tryd.zeroValue43
  t51 := Tryd.underlying128
  a51 := Tryd.isAgg128
  z51 := Tryd.sizeOf128
  v51 := Tryd.zeroValue128
  t53 := Tryd.underlying24
  a53 := Tryd.isAgg24
  z53 := Tryd.sizeOf24
  v53 := Tryd.zeroValue24 }

theorem bitsLen_ok (x : Nat) (hx : x < B64) (w : World) : Calls Tryd.prog 64 #[.int .u64 x] w fun e w' => e = .returned (.int .i64 (bl x : Nat)) ∧ w = w' := by
  refine (Any.bits_Len lays125 (x : Int) w (by omega) (by have : B64 = 18446744073709551616 := rfl; omega)).mono fun e w' h => ⟨?_, h.2.symm⟩
  rw [h.1, Int.toNat_natCast]
  rfl
end Go.Proofs.YtalcikmngglplaaDoor

namespace Go.Proofs.YtalcikmngglplaaDoor
open Go.RowKit Go.Shelf
set_option linter.unusedVariables false
set_option maxRecDepth 10000

theorem pow_le_one (k : Nat) : (0 : Nat) ^ k ≤ 1 := by
  rcases Nat.eq_zero_or_pos k with rfl | h
  · simp
  · rw [Nat.zero_pow h]; omega
theorem Big_one : 1 < Big := Nat.one_lt_pow (by decide) B64_one
theorem bit_i64 (k m : Nat) (hk : k ≤ 1000000) : bits BinOp.and IntKind.i64 ((k : Int) / 2 ^ m) 1 = ((k / 2 ^ m % 2 : Nat) : Int) := by
  have h1 : (k : Int) / 2 ^ m = ((k / 2 ^ m : Nat) : Int) := by simp
  rw [h1]
  have h2 : k / 2 ^ m ≤ 1000000 := Nat.le_trans (Nat.div_le_self _ _) hk
  generalize k / 2 ^ m = x at *
  clear h1
  have h127 : (BitVec.ofInt 64 1).toNat = 2 ^ 1 - 1 := by decide
  have key : (BitVec.ofInt 64 (x : Int) &&& BitVec.ofInt 64 1).toNat = ((x : Int) % ((2 ^ 64 : Nat) : Int)).toNat % 2 ^ 1 := by
    rw [BitVec.toNat_and, BitVec.toNat_ofInt, h127, Nat.and_two_pow_sub_one_eq_mod]
  show IntKind.i64.wrap ((BitVec.ofInt 64 (x : Int) &&& BitVec.ofInt 64 1).toNat : Nat) = ((x % 2 : Nat) : Int)
  rw [key, IntKind.wrap_i64]
  omega

set_option maxHeartbeats 4000000 in
theorem NPow_ok (A : Option Addr) (n c : Nat) (xs : List Nat) (k : Nat) (w : World) (hn : n ≤ 4096) (hk : k ≤ 1000000) (hx : Sl w A n c xs) :
    Calls Tryd.prog 35 #[.slice A n c, .int .i64 k] w fun e w' => Rs w w' e (V xs ^ k) := by
  have Hx := Lib.hid hx
  have Hk := Lib.hid (chkS_one (A := A) (c := c) hn)
  obtain ⟨x, hxv⟩ : ∃ x, V xs = x := ⟨_, rfl⟩
  have HX := Lib.hid hxv
  rw [hxv]
  clear hx hxv
  have hk0 : ¬ (k : Int) < 0 := by omega
  have hk1 : ¬ (1000000 : Int) < (k : Int) := by omega
  have hkw : IntKind.u64.wrap (k : Int) = (k : Int) := by rw [IntKind.wrap_u64]; omega
  have hkB : k < B64 := by have : B64 = 18446744073709551616 := rfl; omega
  obtain ⟨hL1, _, hL2⟩ := bl_spec k hkB
  obtain ⟨L, hL⟩ : ∃ L, bl k = L := ⟨_, rfl⟩
  have HLn := Lib.hid (bitsLen_ok k hkB)
  rw [hL] at hL1 hL2 HLn
  have HK := Lib.hid (And.intro hkB hL1)
  clear hkB hL hL1
  go_enter Tryd.func35, Tryd.ntmps35
  go_wp2_with (fail)
  go_step3
  go_wp2_with (fail)
  refine (checkSizes_one A _ c _ _ w rfl).mono ?_
  rintro e w1 ⟨rfl, hb1⟩
  rw [Hk.out]
  have H1 := Lib.hid (And.intro (Hx.out.below hb1) hb1)
  clear hb1
  go_wp2_with (fail)
  refine (NFromWord_ok 1 w1 (by decide)).mono ?_
  rintro e w2 hR
  obtain ⟨v, rfl, h2, hb2⟩ := hR.from H1.out.2
  obtain ⟨A2, n2, c2, zs, rfl, hs2, hcz, hvz, hnt⟩ := h2.sl
  have H2 : Hid (Nt w w2 (.slice A2 n2 c2) (x ^ (k / 2 ^ L)) ∧ x ^ (k / 2 ^ L) < Big ∧ Below w.heap.size w w2) := by
    have e : x ^ (k / 2 ^ L) = 1 := by rw [Nat.div_eq_of_lt HK.out.2]; rfl
    rw [e]
    exact ⟨⟨n2, zs, hnt, hcz, hvz⟩, Big_one, hb2⟩
  clear hR h2 hs2 hcz hvz hb2 hnt
  go_wp2_with (fail)
  go_step3
  go_wp2_with (fail)
  refine (HLn.out w2).mono ?_
  rintro e w3 ⟨rfl, rfl⟩
  go_wp2_with (fail)
  go_loopw [7, 8, 9] (fun pv ev iv wr => ∃ (j : Nat) (i : Int) (A n c : _), j ≤ L ∧ iv = .int .i64 i ∧ i + 1 = j ∧ ev = .int .i64 0 ∧ pv = .slice A n c ∧ Hid (Nt w wr (.slice A n c) (x ^ (k / 2 ^ j)) ∧ x ^ (k / 2 ^ j) < Big ∧ Below w.heap.size w wr)) (fun _ _ iv _ => (intOf iv + 1).toNat)
  case atStart => exact ⟨L, _, A2, n2, c2, Nat.le_refl _, rfl, by omega, rfl, rfl, H2⟩
  case round =>
    clear H2
    obtain ⟨j, i, A3, n3, c3, hj, rfl, hi, rfl, rfl, hH⟩ := hrel
    rcases Nat.eq_zero_or_pos j with rfl | hjp
    · have hneg : i < 0 := by omega
      have hfin := hH.out
      rw [Nat.pow_zero, Nat.div_one] at hfin
      have HF := Lib.hid hfin
      clear hfin hH hi
      go_wp2_with (fail)
      dsimp only [Exit.noGoto]
      go_ret2
      exact ⟨.inl ⟨_, rfl, HF.out.1, HF.out.2.1⟩, HF.out.2.2⟩
    · obtain ⟨m, rfl⟩ : ∃ m, j = m + 1 := ⟨j - 1, by omega⟩
      obtain rfl : i = (m : Int) := by omega
      clear hi
      obtain ⟨A4, n4, c4, zs, he, hs4, hcz, hvz, hnt⟩ := hH.out.1.sl
      injection he with he1 he2 he3
      subst he1 he2 he3
      have hn4 : n3 ≤ 4096 := Nt.size hs4.2.2.2.1 hcz hs4.1 (by rw [hvz]; exact hH.out.2.1)
      have Hs4 := Lib.hid (And.intro hs4 hvz)
      clear hs4 hcz hvz hnt
      have hmi : (0 : Int) ≤ (m : Int) := by omega
      go_wp2_with (fail)
      refine (NSquare_ok A3 n3 c3 zs wr hn4 Hs4.out.1).mono ?_
      rintro e w4 hR
      rw [Hs4.out.2] at hR
      obtain ⟨hR4, hb4⟩ := hR.from hH.out.2.2
      clear hR
      have hhalf := pow_half x k m
      rcases hR4 with ⟨v, rfl, h5, h6⟩ | ⟨rfl, h5⟩
      · obtain ⟨A5, n5, c5, zs5, rfl, hs5, hcz5, hvz5, hnt5⟩ := h5.sl
        have hbit := bit_i64 k m hk
        rcases Nat.mod_two_eq_zero_or_one (k / 2 ^ m) with hz | hz
        · rw [hz] at hbit hhalf
          rw [if_neg (by decide), Nat.mul_one] at hhalf
          have HN : Hid (Nt w w4 (.slice A5 n5 c5) (x ^ (k / 2 ^ m)) ∧ x ^ (k / 2 ^ m) < Big ∧ Below w.heap.size w w4) := by rw [hhalf]; exact ⟨h5, h6, hb4⟩
          clear hhalf h5 h6 hs5 hcz5 hvz5 hnt5 hb4 hH Hs4 hz
          go_wp2_with (fail)
          go_roundw
          case rel => exact ⟨m, (m : Int) - 1, A5, n5, c5, by omega, rfl, by omega, rfl, rfl, HN⟩
          case measure => simp [intOf]
        · rw [hz] at hbit hhalf
          rw [if_pos rfl] at hhalf
          have hn5 : n5 ≤ 4096 := Nt.size hs5.2.2.2.1 hcz5 hs5.1 (by rw [hvz5]; exact h6)
          have H5 := Lib.hid (And.intro hs5 (And.intro hvz5 (And.intro hb4 hhalf)))
          clear hhalf h5 h6 hs5 hcz5 hvz5 hnt5 hb4 hH Hs4 hz
          go_wp2_with (fail)
          refine (NMul_ok A5 A n5 n c5 c zs5 xs w4 hn5 hn H5.out.1 (Hx.out.below H5.out.2.2.1)).mono ?_
          rintro e w5 hR
          rw [H5.out.2.1, HX.out, ← H5.out.2.2.2] at hR
          obtain ⟨hR6, hb6⟩ := hR.from H5.out.2.2.1
          clear hR
          rcases hR6 with ⟨v, rfl, h7, h8⟩ | ⟨rfl, h7⟩
          · obtain ⟨A6, n6, c6, zs6, rfl, _⟩ := h7.sl
            have HN : Hid (Nt w w5 (.slice A6 n6 c6) (x ^ (k / 2 ^ m)) ∧ x ^ (k / 2 ^ m) < Big ∧ Below w.heap.size w w5) := ⟨h7, h8, hb6⟩
            clear h7 h8 hb6 H5
            go_wp2_with (fail)
            go_roundw
            case rel => exact ⟨m, (m : Int) - 1, A6, n6, c6, by omega, rfl, by omega, rfl, rfl, HN⟩
            case measure => simp [intOf]
          · have HF := Lib.hid (And.intro (Nat.le_trans h7 (pow_big x k m (Nat.lt_of_lt_of_le Big_one h7))) hb6)
            clear h7 hb6 H5
            go_wp2_with (fail)
            dsimp only [Exit.noGoto]
            go_ret2
            exact ⟨.inr ⟨rfl, HF.out.1⟩, HF.out.2⟩
      · have hle : Big ≤ x ^ (k / 2 ^ m) := by
          rw [hhalf]
          split
          · rcases Nat.eq_zero_or_pos x with h0 | h0
            · subst h0
              exfalso
              have hp := Nat.mul_le_mul (pow_le_one (k / 2 ^ (m + 1))) (pow_le_one (k / 2 ^ (m + 1)))
              have := Big_one
              omega
            · exact Nat.le_trans h5 (Nat.le_mul_of_pos_right _ h0)
          · rw [Nat.mul_one]; exact h5
        have HF := Lib.hid (And.intro (Nat.le_trans hle (pow_big x k m (Nat.lt_of_lt_of_le (Big_one) hle))) hb4)
        clear h5 hle hb4 hH Hs4 hhalf
        go_wp2_with (fail)
        dsimp only [Exit.noGoto]
        go_ret2
        exact ⟨.inr ⟨rfl, HF.out.1⟩, HF.out.2⟩
end Go.Proofs.YtalcikmngglplaaDoor

namespace Go.Proofs.YtalcikmngglplaaDoor
open Go.RowKit Go.Shelf
set_option linter.unusedVariables false
attribute [local go_sem] Oper.semAt_some

theorem DivWord_after {W w' : World} {g i pq pr : Nat} {a b x : Value} (c1 : W.cell? ⟨pq, 0, none⟩ = some a) (c2 : W.cell? ⟨pr, 0, none⟩ = some b) (c4 : W.cell? ⟨g, i, none⟩ = some x)
    (f1 : W.frozen? ⟨g, i, none⟩ = false) (f2 : W.frozen? ⟨pr, 0, none⟩ = false) (c5 : ∀ u, (W.setCell ⟨g, i, none⟩ u).cell? ⟨pr, 0, none⟩ = some b) (hw : ∃ n, w' = W.drew.drewN n) :
    w'.cell? ⟨pq, 0, none⟩ = some a ∧ w'.cell? ⟨pr, 0, none⟩ = some b ∧ w'.cell? ⟨g, i, none⟩ = some x ∧ w'.frozen? ⟨g, i, none⟩ = false ∧ w'.frozen? ⟨pr, 0, none⟩ = false ∧ (∀ u, (w'.setCell ⟨g, i, none⟩ u).cell? ⟨pr, 0, none⟩ = some b) := by
  obtain ⟨n, rfl⟩ := hw
  exact ⟨c1, c2, c4, f1, f2, c5⟩

theorem DivWord_leaf {W w' : World} {A B : Addr} {u v : Value} {K : Exit → Act → World → Prop} {a : Act} (hK : ∀ a m, K .normal a (((W.setCell A u).setCell B v).drewN m)) (hw : ∃ n, w' = W.drew.drewN n) : K .normal a ((w'.setCell A u).setCell B v) := by
  obtain ⟨n, rfl⟩ := hw
  rw [World.drewN_drew]
  exact hK a (1 + n)

set_option maxHeartbeats 4000000 in
/-- one round of DivWord: the region, in whatever order -/
theorem DivWord_round (l n i g pq pr pw : Nat) (W : World) (x r q r' wd : Nat) (K : Exit → Act → World → Prop) (hcall : Hid (∀ w, Calls Tryd.prog 134 #[.int .u64 (r : Int), .int .u64 (x : Int), .int .u64 (wd : Int)] w fun e w' => e = .returned (.tuple #[.int .u64 (q : Int), .int .u64 (r' : Int)]) ∧ ∃ n, w' = w.drewN n))
    (hin : (i : Int) < n) (hne : g ≠ pr) (c1 : W.cell? ⟨pq, 0, none⟩ = some (.slice (some ⟨g, 0, none⟩) n n)) (c2 : W.cell? ⟨pr, 0, none⟩ = some (.int .u64 (r : Int))) (c3 : W.cell? ⟨pw, 0, none⟩ = some (.int .u64 (wd : Int))) (c4 : W.cell? ⟨g, i, none⟩ = some (.int .u64 (x : Int)))
    (f1 : W.frozen? ⟨g, i, none⟩ = false) (f2 : W.frozen? ⟨pr, 0, none⟩ = false)
    (c5 : ∀ u, (W.setCell ⟨g, i, none⟩ u).cell? ⟨pr, 0, none⟩ = some (.int .u64 (r : Int)))
    (hK : Hid (∀ a m, K .normal a (((W.setCell ⟨g, i, none⟩ (.int .u64 (q : Int))).setCell ⟨pr, 0, none⟩ (.int .u64 (r' : Int))).drewN m)))
    (v0 v1 v2 v3 v5 v6 v7 v8 v9 v14 v15 v16 v17 v18 v19 v20 v21 v22 v23 v24 v25 v26 v27 v28 v29 v30 v31 v32 v33 v34 v35 v36 v37 v38 v39 v40 v41 v42 v43 v44 : Value) :
    (Code.region 12 #[{ dst := some 34, op := Op.load 22 (Operand.tmp 10), type := 22, pos := "words.go:97", after := #[], guard := none }, { dst := some 35, op := Op.move (Operand.tmp 12), type := 3, pos := "words.go:97", after := #[], guard := none }, { dst := some 36, op := Op.load 24 (Operand.tmp 11), type := 24, pos := "words.go:97", after := #[], guard := none }, { dst := some 37, op := Op.move (Operand.tmp 13), type := 24, pos := "words.go:97", after := #[], guard := none }, { dst := some 38, op := Op.load 24 (Operand.tmp 4), type := 24, pos := "words.go:97", after := #[], guard := none }, { dst := some 39, op := Op.call { callee := Callee.value (Operand.func 134), args := #[Operand.tmp 36, Operand.tmp 37, Operand.tmp 38], argTypes := #[24, 24, 24] }, type := 141, pos := "words.go:97", after := #[{ on := 2, ground := Ground.data }, { on := 3, ground := Ground.data }, { on := 4, ground := Ground.data }], guard := none }, { dst := some 33, op := Op.move (Operand.tmp 39), type := 141, pos := "words.go:97", after := #[{ on := 5, ground := Ground.data }], guard := none }, { dst := some 40, op := Op.extract (Operand.tmp 33) 0, type := 24, pos := "words.go:97", after := #[{ on := 6, ground := Ground.data }], guard := none }, { dst := some 41, op := Op.extract (Operand.tmp 33) 1, type := 24, pos := "words.go:97", after := #[{ on := 6, ground := Ground.data }, { on := 10, ground := Ground.gcOnly Departure.lateStores }], guard := none }, { dst := some 42, op := Op.indexAddr 22 (Operand.tmp 34) (Operand.tmp 35), type := 0, pos := "words.go:97", after := #[{ on := 0, ground := Ground.data }, { on := 1, ground := Ground.data }, { on := 0, ground := Ground.phase }, { on := 1, ground := Ground.phase }, { on := 2, ground := Ground.phase }, { on := 3, ground := Ground.phase }, { on := 4, ground := Ground.phase }, { on := 5, ground := Ground.phase }, { on := 6, ground := Ground.phase }, { on := 7, ground := Ground.phase }, { on := 8, ground := Ground.textOnly Departure.lateStores }], guard := none }, { dst := none, op := Op.store 24 (Operand.tmp 42) (Operand.tmp 40), type := 0, pos := "words.go:97", after := #[{ on := 9, ground := Ground.data }, { on := 7, ground := Ground.data }, { on := 5, ground := Ground.chain }, { on := 0, ground := Ground.phase }, { on := 1, ground := Ground.phase }, { on := 2, ground := Ground.phase }, { on := 3, ground := Ground.phase }, { on := 4, ground := Ground.phase }, { on := 5, ground := Ground.phase }, { on := 6, ground := Ground.phase }, { on := 7, ground := Ground.phase }, { on := 8, ground := Ground.textOnly Departure.lateStores }], guard := none }, { dst := none, op := Op.store 24 (Operand.tmp 11) (Operand.tmp 41), type := 0, pos := "words.go:97", after := #[{ on := 8, ground := Ground.data }, { on := 10, ground := Ground.chain }, { on := 0, ground := Ground.phase }, { on := 1, ground := Ground.phase }, { on := 2, ground := Ground.phase }, { on := 3, ground := Ground.phase }, { on := 4, ground := Ground.phase }, { on := 5, ground := Ground.phase }, { on := 6, ground := Ground.phase }, { on := 7, ground := Ground.phase }, { on := 8, ground := Ground.phase }, { on := 9, ground := Ground.phase }, { on := 10, ground := Ground.phase }], guard := none }] true).wpIn (Fence.wide.inRound l) 3 Tryd.prog K { tmps := #[v0, v1, v2, v3, .pointer (some ⟨pw, 0, none⟩), v5, v6, v7, v8, v9, .pointer (some ⟨pq, 0, none⟩), .pointer (some ⟨pr, 0, none⟩), .int .i64 (i : Int), .int .u64 (x : Int), v14, v15, v16, v17, v18, v19, v20, v21, v22, v23, v24, v25, v26, v27, v28, v29, v30, v31, v32, v33, v34, v35, v36, v37, v38, v39, v40, v41, v42, v43, v44], defers := [] } W := by
  have hmix : Tryd.prog.follows Departure.mixedOrders = true := by kernel_rfl
  refine region_inRound hmix (NoDefer.of (by kernel_rfl)) ?_
  refine wpAnyIn_take (i := 1) (v := ?_) rfl rfl (by kernel_rfl) (by kernel_rfl) (by kernel_rfl) (fun _ _ _ h => h) ⟨Or.inl ⟨by rfl, ?_⟩, fun _ => rfl⟩ ?_
  rotate_left
  · intro w; go_simp; try with_reducible rfl
  refine wpAnyIn_take (i := 3) (v := ?_) rfl rfl (by kernel_rfl) (by kernel_rfl) (by kernel_rfl) (fun _ _ _ h => h) ⟨Or.inl ⟨by rfl, ?_⟩, fun _ => rfl⟩ ?_
  rotate_left
  · intro w; go_simp; try with_reducible rfl
  refine wpAnyIn_ready (rs := [0, 2, 4]) (by kernel_rfl) (by simp) ?_
  refine AllReadyIn.cons rfl (fun K hK => ?_) ?_
  · go_simp
    refine hK _ _ ?_; clear hK K
    refine wpAnyIn_ready (rs := [2, 4]) (by kernel_rfl) (by simp) ?_
    refine AllReadyIn.cons rfl (fun K hK => ?_) ?_
    · go_simp
      refine hK _ _ ?_; clear hK K
      refine wpAnyIn_ready (rs := [4]) (by kernel_rfl) (by simp) ?_
      refine AllReadyIn.cons rfl (fun K hK => ?_) ?_
      · go_simp
        refine hK _ _ ?_; clear hK K
        refine wpAnyIn_ready (rs := [5]) (by kernel_rfl) (by simp) ?_
        refine AllReadyIn.cons rfl (fun K hK => ?_) ?_
        · go_simp
          gi_wp2_with ((refine ⟨trivial, ?_⟩; gi_at_call 134; refine (callsIn_wide.2 (hcall.out _)).mono ?_; rintro e w' ⟨rfl, hw⟩; obtain ⟨d1, d2, d3, d4, d5, d6⟩ := DivWord_after c1 c2 c4 f1 f2 c5 hw; have Hw := Lib.hid hw; clear hw))
          refine wpAnyIn_take (i := 6) (v := ?_) rfl rfl (by kernel_rfl) (by kernel_rfl) (by kernel_rfl) (fun _ _ _ h => h) ⟨Or.inl ⟨by rfl, ?_⟩, fun _ => rfl⟩ ?_
          rotate_left
          · intro w; go_simp; try with_reducible rfl
          refine wpAnyIn_take (i := 7) (v := ?_) rfl rfl (by kernel_rfl) (by kernel_rfl) (by kernel_rfl) (fun _ _ _ h => h) ⟨Or.inl ⟨by rfl, ?_⟩, fun _ => rfl⟩ ?_
          rotate_left
          · intro w; go_simp; try with_reducible rfl
          refine wpAnyIn_take (i := 8) (v := ?_) rfl rfl (by kernel_rfl) (by kernel_rfl) (by kernel_rfl) (fun _ _ _ h => h) ⟨Or.inl ⟨by rfl, ?_⟩, fun _ => rfl⟩ ?_
          rotate_left
          · intro w; go_simp; try with_reducible rfl
          refine wpAnyIn_ready (rs := [9]) (by kernel_rfl) (by simp) ?_
          refine AllReadyIn.cons rfl (fun K hK => ?_) ?_
          · go_simp
            refine hK _ _ ?_; clear hK K
            refine wpAnyIn_ready (rs := [10]) (by kernel_rfl) (by simp) ?_
            refine AllReadyIn.cons rfl (fun K hK => ?_) ?_
            · go_simp
              refine hK _ _ ?_; clear hK K
              refine wpAnyIn_ready (rs := [11]) (by kernel_rfl) (by simp) ?_
              refine AllReadyIn.cons rfl (fun K hK => ?_) ?_
              · go_simp
                refine hK _ _ ?_; clear hK K
                refine wpAnyIn_done (by kernel_rfl) ?_ _
                exact DivWord_leaf hK.out Hw.out
              exact AllReadyIn.nil
            exact AllReadyIn.nil
          exact AllReadyIn.nil
        exact AllReadyIn.nil
      exact AllReadyIn.nil
    refine AllReadyIn.cons rfl (fun K hK => ?_) ?_
    · go_simp
      refine hK _ _ ?_; clear hK K
      refine wpAnyIn_ready (rs := [2]) (by kernel_rfl) (by simp) ?_
      refine AllReadyIn.cons rfl (fun K hK => ?_) ?_
      · go_simp
        refine hK _ _ ?_; clear hK K
        refine wpAnyIn_ready (rs := [5]) (by kernel_rfl) (by simp) ?_
        refine AllReadyIn.cons rfl (fun K hK => ?_) ?_
        · go_simp
          gi_wp2_with ((refine ⟨trivial, ?_⟩; gi_at_call 134; refine (callsIn_wide.2 (hcall.out _)).mono ?_; rintro e w' ⟨rfl, hw⟩; obtain ⟨d1, d2, d3, d4, d5, d6⟩ := DivWord_after c1 c2 c4 f1 f2 c5 hw; have Hw := Lib.hid hw; clear hw))
          refine wpAnyIn_take (i := 6) (v := ?_) rfl rfl (by kernel_rfl) (by kernel_rfl) (by kernel_rfl) (fun _ _ _ h => h) ⟨Or.inl ⟨by rfl, ?_⟩, fun _ => rfl⟩ ?_
          rotate_left
          · intro w; go_simp; try with_reducible rfl
          refine wpAnyIn_take (i := 7) (v := ?_) rfl rfl (by kernel_rfl) (by kernel_rfl) (by kernel_rfl) (fun _ _ _ h => h) ⟨Or.inl ⟨by rfl, ?_⟩, fun _ => rfl⟩ ?_
          rotate_left
          · intro w; go_simp; try with_reducible rfl
          refine wpAnyIn_take (i := 8) (v := ?_) rfl rfl (by kernel_rfl) (by kernel_rfl) (by kernel_rfl) (fun _ _ _ h => h) ⟨Or.inl ⟨by rfl, ?_⟩, fun _ => rfl⟩ ?_
          rotate_left
          · intro w; go_simp; try with_reducible rfl
          refine wpAnyIn_ready (rs := [9]) (by kernel_rfl) (by simp) ?_
          refine AllReadyIn.cons rfl (fun K hK => ?_) ?_
          · go_simp
            refine hK _ _ ?_; clear hK K
            refine wpAnyIn_ready (rs := [10]) (by kernel_rfl) (by simp) ?_
            refine AllReadyIn.cons rfl (fun K hK => ?_) ?_
            · go_simp
              refine hK _ _ ?_; clear hK K
              refine wpAnyIn_ready (rs := [11]) (by kernel_rfl) (by simp) ?_
              refine AllReadyIn.cons rfl (fun K hK => ?_) ?_
              · go_simp
                refine hK _ _ ?_; clear hK K
                refine wpAnyIn_done (by kernel_rfl) ?_ _
                exact DivWord_leaf hK.out Hw.out
              exact AllReadyIn.nil
            exact AllReadyIn.nil
          exact AllReadyIn.nil
        exact AllReadyIn.nil
      exact AllReadyIn.nil
    exact AllReadyIn.nil
  refine AllReadyIn.cons rfl (fun K hK => ?_) ?_
  · go_simp
    refine hK _ _ ?_; clear hK K
    refine wpAnyIn_ready (rs := [0, 4]) (by kernel_rfl) (by simp) ?_
    refine AllReadyIn.cons rfl (fun K hK => ?_) ?_
    · go_simp
      refine hK _ _ ?_; clear hK K
      refine wpAnyIn_ready (rs := [4]) (by kernel_rfl) (by simp) ?_
      refine AllReadyIn.cons rfl (fun K hK => ?_) ?_
      · go_simp
        refine hK _ _ ?_; clear hK K
        refine wpAnyIn_ready (rs := [5]) (by kernel_rfl) (by simp) ?_
        refine AllReadyIn.cons rfl (fun K hK => ?_) ?_
        · go_simp
          gi_wp2_with ((refine ⟨trivial, ?_⟩; gi_at_call 134; refine (callsIn_wide.2 (hcall.out _)).mono ?_; rintro e w' ⟨rfl, hw⟩; obtain ⟨d1, d2, d3, d4, d5, d6⟩ := DivWord_after c1 c2 c4 f1 f2 c5 hw; have Hw := Lib.hid hw; clear hw))
          refine wpAnyIn_take (i := 6) (v := ?_) rfl rfl (by kernel_rfl) (by kernel_rfl) (by kernel_rfl) (fun _ _ _ h => h) ⟨Or.inl ⟨by rfl, ?_⟩, fun _ => rfl⟩ ?_
          rotate_left
          · intro w; go_simp; try with_reducible rfl
          refine wpAnyIn_take (i := 7) (v := ?_) rfl rfl (by kernel_rfl) (by kernel_rfl) (by kernel_rfl) (fun _ _ _ h => h) ⟨Or.inl ⟨by rfl, ?_⟩, fun _ => rfl⟩ ?_
          rotate_left
          · intro w; go_simp; try with_reducible rfl
          refine wpAnyIn_take (i := 8) (v := ?_) rfl rfl (by kernel_rfl) (by kernel_rfl) (by kernel_rfl) (fun _ _ _ h => h) ⟨Or.inl ⟨by rfl, ?_⟩, fun _ => rfl⟩ ?_
          rotate_left
          · intro w; go_simp; try with_reducible rfl
          refine wpAnyIn_ready (rs := [9]) (by kernel_rfl) (by simp) ?_
          refine AllReadyIn.cons rfl (fun K hK => ?_) ?_
          · go_simp
            refine hK _ _ ?_; clear hK K
            refine wpAnyIn_ready (rs := [10]) (by kernel_rfl) (by simp) ?_
            refine AllReadyIn.cons rfl (fun K hK => ?_) ?_
            · go_simp
              refine hK _ _ ?_; clear hK K
              refine wpAnyIn_ready (rs := [11]) (by kernel_rfl) (by simp) ?_
              refine AllReadyIn.cons rfl (fun K hK => ?_) ?_
              · go_simp
                refine hK _ _ ?_; clear hK K
                refine wpAnyIn_done (by kernel_rfl) ?_ _
                exact DivWord_leaf hK.out Hw.out
              exact AllReadyIn.nil
            exact AllReadyIn.nil
          exact AllReadyIn.nil
        exact AllReadyIn.nil
      exact AllReadyIn.nil
    refine AllReadyIn.cons rfl (fun K hK => ?_) ?_
    · go_simp
      refine hK _ _ ?_; clear hK K
      refine wpAnyIn_ready (rs := [0, 5]) (by kernel_rfl) (by simp) ?_
      refine AllReadyIn.cons rfl (fun K hK => ?_) ?_
      · go_simp
        refine hK _ _ ?_; clear hK K
        refine wpAnyIn_ready (rs := [5]) (by kernel_rfl) (by simp) ?_
        refine AllReadyIn.cons rfl (fun K hK => ?_) ?_
        · go_simp
          gi_wp2_with ((refine ⟨trivial, ?_⟩; gi_at_call 134; refine (callsIn_wide.2 (hcall.out _)).mono ?_; rintro e w' ⟨rfl, hw⟩; obtain ⟨d1, d2, d3, d4, d5, d6⟩ := DivWord_after c1 c2 c4 f1 f2 c5 hw; have Hw := Lib.hid hw; clear hw))
          refine wpAnyIn_take (i := 6) (v := ?_) rfl rfl (by kernel_rfl) (by kernel_rfl) (by kernel_rfl) (fun _ _ _ h => h) ⟨Or.inl ⟨by rfl, ?_⟩, fun _ => rfl⟩ ?_
          rotate_left
          · intro w; go_simp; try with_reducible rfl
          refine wpAnyIn_take (i := 7) (v := ?_) rfl rfl (by kernel_rfl) (by kernel_rfl) (by kernel_rfl) (fun _ _ _ h => h) ⟨Or.inl ⟨by rfl, ?_⟩, fun _ => rfl⟩ ?_
          rotate_left
          · intro w; go_simp; try with_reducible rfl
          refine wpAnyIn_take (i := 8) (v := ?_) rfl rfl (by kernel_rfl) (by kernel_rfl) (by kernel_rfl) (fun _ _ _ h => h) ⟨Or.inl ⟨by rfl, ?_⟩, fun _ => rfl⟩ ?_
          rotate_left
          · intro w; go_simp; try with_reducible rfl
          refine wpAnyIn_ready (rs := [9]) (by kernel_rfl) (by simp) ?_
          refine AllReadyIn.cons rfl (fun K hK => ?_) ?_
          · go_simp
            refine hK _ _ ?_; clear hK K
            refine wpAnyIn_ready (rs := [10]) (by kernel_rfl) (by simp) ?_
            refine AllReadyIn.cons rfl (fun K hK => ?_) ?_
            · go_simp
              refine hK _ _ ?_; clear hK K
              refine wpAnyIn_ready (rs := [11]) (by kernel_rfl) (by simp) ?_
              refine AllReadyIn.cons rfl (fun K hK => ?_) ?_
              · go_simp
                refine hK _ _ ?_; clear hK K
                refine wpAnyIn_done (by kernel_rfl) ?_ _
                exact DivWord_leaf hK.out Hw.out
              exact AllReadyIn.nil
            exact AllReadyIn.nil
          exact AllReadyIn.nil
        exact AllReadyIn.nil
      refine AllReadyIn.cons rfl (fun K hK => ?_) ?_
      · go_simp
        gi_wp2_with ((refine ⟨trivial, ?_⟩; gi_at_call 134; refine (callsIn_wide.2 (hcall.out _)).mono ?_; rintro e w' ⟨rfl, hw⟩; obtain ⟨d1, d2, d3, d4, d5, d6⟩ := DivWord_after c1 c2 c4 f1 f2 c5 hw; have Hw := Lib.hid hw; clear hw))
        refine wpAnyIn_take (i := 6) (v := ?_) rfl rfl (by kernel_rfl) (by kernel_rfl) (by kernel_rfl) (fun _ _ _ h => h) ⟨Or.inl ⟨by rfl, ?_⟩, fun _ => rfl⟩ ?_
        rotate_left
        · intro w; go_simp; try with_reducible rfl
        refine wpAnyIn_take (i := 7) (v := ?_) rfl rfl (by kernel_rfl) (by kernel_rfl) (by kernel_rfl) (fun _ _ _ h => h) ⟨Or.inl ⟨by rfl, ?_⟩, fun _ => rfl⟩ ?_
        rotate_left
        · intro w; go_simp; try with_reducible rfl
        refine wpAnyIn_take (i := 8) (v := ?_) rfl rfl (by kernel_rfl) (by kernel_rfl) (by kernel_rfl) (fun _ _ _ h => h) ⟨Or.inl ⟨by rfl, ?_⟩, fun _ => rfl⟩ ?_
        rotate_left
        · intro w; go_simp; try with_reducible rfl
        refine wpAnyIn_ready (rs := [0]) (by kernel_rfl) (by simp) ?_
        refine AllReadyIn.cons rfl (fun K hK => ?_) ?_
        · go_simp
          refine hK _ _ ?_; clear hK K
          refine wpAnyIn_ready (rs := [9]) (by kernel_rfl) (by simp) ?_
          refine AllReadyIn.cons rfl (fun K hK => ?_) ?_
          · go_simp
            refine hK _ _ ?_; clear hK K
            refine wpAnyIn_ready (rs := [10]) (by kernel_rfl) (by simp) ?_
            refine AllReadyIn.cons rfl (fun K hK => ?_) ?_
            · go_simp
              refine hK _ _ ?_; clear hK K
              refine wpAnyIn_ready (rs := [11]) (by kernel_rfl) (by simp) ?_
              refine AllReadyIn.cons rfl (fun K hK => ?_) ?_
              · go_simp
                refine hK _ _ ?_; clear hK K
                refine wpAnyIn_done (by kernel_rfl) ?_ _
                exact DivWord_leaf hK.out Hw.out
              exact AllReadyIn.nil
            exact AllReadyIn.nil
          exact AllReadyIn.nil
        exact AllReadyIn.nil
      exact AllReadyIn.nil
    exact AllReadyIn.nil
  refine AllReadyIn.cons rfl (fun K hK => ?_) ?_
  · go_simp
    refine hK _ _ ?_; clear hK K
    refine wpAnyIn_ready (rs := [0, 2]) (by kernel_rfl) (by simp) ?_
    refine AllReadyIn.cons rfl (fun K hK => ?_) ?_
    · go_simp
      refine hK _ _ ?_; clear hK K
      refine wpAnyIn_ready (rs := [2]) (by kernel_rfl) (by simp) ?_
      refine AllReadyIn.cons rfl (fun K hK => ?_) ?_
      · go_simp
        refine hK _ _ ?_; clear hK K
        refine wpAnyIn_ready (rs := [5]) (by kernel_rfl) (by simp) ?_
        refine AllReadyIn.cons rfl (fun K hK => ?_) ?_
        · go_simp
          gi_wp2_with ((refine ⟨trivial, ?_⟩; gi_at_call 134; refine (callsIn_wide.2 (hcall.out _)).mono ?_; rintro e w' ⟨rfl, hw⟩; obtain ⟨d1, d2, d3, d4, d5, d6⟩ := DivWord_after c1 c2 c4 f1 f2 c5 hw; have Hw := Lib.hid hw; clear hw))
          refine wpAnyIn_take (i := 6) (v := ?_) rfl rfl (by kernel_rfl) (by kernel_rfl) (by kernel_rfl) (fun _ _ _ h => h) ⟨Or.inl ⟨by rfl, ?_⟩, fun _ => rfl⟩ ?_
          rotate_left
          · intro w; go_simp; try with_reducible rfl
          refine wpAnyIn_take (i := 7) (v := ?_) rfl rfl (by kernel_rfl) (by kernel_rfl) (by kernel_rfl) (fun _ _ _ h => h) ⟨Or.inl ⟨by rfl, ?_⟩, fun _ => rfl⟩ ?_
          rotate_left
          · intro w; go_simp; try with_reducible rfl
          refine wpAnyIn_take (i := 8) (v := ?_) rfl rfl (by kernel_rfl) (by kernel_rfl) (by kernel_rfl) (fun _ _ _ h => h) ⟨Or.inl ⟨by rfl, ?_⟩, fun _ => rfl⟩ ?_
          rotate_left
          · intro w; go_simp; try with_reducible rfl
          refine wpAnyIn_ready (rs := [9]) (by kernel_rfl) (by simp) ?_
          refine AllReadyIn.cons rfl (fun K hK => ?_) ?_
          · go_simp
            refine hK _ _ ?_; clear hK K
            refine wpAnyIn_ready (rs := [10]) (by kernel_rfl) (by simp) ?_
            refine AllReadyIn.cons rfl (fun K hK => ?_) ?_
            · go_simp
              refine hK _ _ ?_; clear hK K
              refine wpAnyIn_ready (rs := [11]) (by kernel_rfl) (by simp) ?_
              refine AllReadyIn.cons rfl (fun K hK => ?_) ?_
              · go_simp
                refine hK _ _ ?_; clear hK K
                refine wpAnyIn_done (by kernel_rfl) ?_ _
                exact DivWord_leaf hK.out Hw.out
              exact AllReadyIn.nil
            exact AllReadyIn.nil
          exact AllReadyIn.nil
        exact AllReadyIn.nil
      exact AllReadyIn.nil
    refine AllReadyIn.cons rfl (fun K hK => ?_) ?_
    · go_simp
      refine hK _ _ ?_; clear hK K
      refine wpAnyIn_ready (rs := [0, 5]) (by kernel_rfl) (by simp) ?_
      refine AllReadyIn.cons rfl (fun K hK => ?_) ?_
      · go_simp
        refine hK _ _ ?_; clear hK K
        refine wpAnyIn_ready (rs := [5]) (by kernel_rfl) (by simp) ?_
        refine AllReadyIn.cons rfl (fun K hK => ?_) ?_
        · go_simp
          gi_wp2_with ((refine ⟨trivial, ?_⟩; gi_at_call 134; refine (callsIn_wide.2 (hcall.out _)).mono ?_; rintro e w' ⟨rfl, hw⟩; obtain ⟨d1, d2, d3, d4, d5, d6⟩ := DivWord_after c1 c2 c4 f1 f2 c5 hw; have Hw := Lib.hid hw; clear hw))
          refine wpAnyIn_take (i := 6) (v := ?_) rfl rfl (by kernel_rfl) (by kernel_rfl) (by kernel_rfl) (fun _ _ _ h => h) ⟨Or.inl ⟨by rfl, ?_⟩, fun _ => rfl⟩ ?_
          rotate_left
          · intro w; go_simp; try with_reducible rfl
          refine wpAnyIn_take (i := 7) (v := ?_) rfl rfl (by kernel_rfl) (by kernel_rfl) (by kernel_rfl) (fun _ _ _ h => h) ⟨Or.inl ⟨by rfl, ?_⟩, fun _ => rfl⟩ ?_
          rotate_left
          · intro w; go_simp; try with_reducible rfl
          refine wpAnyIn_take (i := 8) (v := ?_) rfl rfl (by kernel_rfl) (by kernel_rfl) (by kernel_rfl) (fun _ _ _ h => h) ⟨Or.inl ⟨by rfl, ?_⟩, fun _ => rfl⟩ ?_
          rotate_left
          · intro w; go_simp; try with_reducible rfl
          refine wpAnyIn_ready (rs := [9]) (by kernel_rfl) (by simp) ?_
          refine AllReadyIn.cons rfl (fun K hK => ?_) ?_
          · go_simp
            refine hK _ _ ?_; clear hK K
            refine wpAnyIn_ready (rs := [10]) (by kernel_rfl) (by simp) ?_
            refine AllReadyIn.cons rfl (fun K hK => ?_) ?_
            · go_simp
              refine hK _ _ ?_; clear hK K
              refine wpAnyIn_ready (rs := [11]) (by kernel_rfl) (by simp) ?_
              refine AllReadyIn.cons rfl (fun K hK => ?_) ?_
              · go_simp
                refine hK _ _ ?_; clear hK K
                refine wpAnyIn_done (by kernel_rfl) ?_ _
                exact DivWord_leaf hK.out Hw.out
              exact AllReadyIn.nil
            exact AllReadyIn.nil
          exact AllReadyIn.nil
        exact AllReadyIn.nil
      refine AllReadyIn.cons rfl (fun K hK => ?_) ?_
      · go_simp
        gi_wp2_with ((refine ⟨trivial, ?_⟩; gi_at_call 134; refine (callsIn_wide.2 (hcall.out _)).mono ?_; rintro e w' ⟨rfl, hw⟩; obtain ⟨d1, d2, d3, d4, d5, d6⟩ := DivWord_after c1 c2 c4 f1 f2 c5 hw; have Hw := Lib.hid hw; clear hw))
        refine wpAnyIn_take (i := 6) (v := ?_) rfl rfl (by kernel_rfl) (by kernel_rfl) (by kernel_rfl) (fun _ _ _ h => h) ⟨Or.inl ⟨by rfl, ?_⟩, fun _ => rfl⟩ ?_
        rotate_left
        · intro w; go_simp; try with_reducible rfl
        refine wpAnyIn_take (i := 7) (v := ?_) rfl rfl (by kernel_rfl) (by kernel_rfl) (by kernel_rfl) (fun _ _ _ h => h) ⟨Or.inl ⟨by rfl, ?_⟩, fun _ => rfl⟩ ?_
        rotate_left
        · intro w; go_simp; try with_reducible rfl
        refine wpAnyIn_take (i := 8) (v := ?_) rfl rfl (by kernel_rfl) (by kernel_rfl) (by kernel_rfl) (fun _ _ _ h => h) ⟨Or.inl ⟨by rfl, ?_⟩, fun _ => rfl⟩ ?_
        rotate_left
        · intro w; go_simp; try with_reducible rfl
        refine wpAnyIn_ready (rs := [0]) (by kernel_rfl) (by simp) ?_
        refine AllReadyIn.cons rfl (fun K hK => ?_) ?_
        · go_simp
          refine hK _ _ ?_; clear hK K
          refine wpAnyIn_ready (rs := [9]) (by kernel_rfl) (by simp) ?_
          refine AllReadyIn.cons rfl (fun K hK => ?_) ?_
          · go_simp
            refine hK _ _ ?_; clear hK K
            refine wpAnyIn_ready (rs := [10]) (by kernel_rfl) (by simp) ?_
            refine AllReadyIn.cons rfl (fun K hK => ?_) ?_
            · go_simp
              refine hK _ _ ?_; clear hK K
              refine wpAnyIn_ready (rs := [11]) (by kernel_rfl) (by simp) ?_
              refine AllReadyIn.cons rfl (fun K hK => ?_) ?_
              · go_simp
                refine hK _ _ ?_; clear hK K
                refine wpAnyIn_done (by kernel_rfl) ?_ _
                exact DivWord_leaf hK.out Hw.out
              exact AllReadyIn.nil
            exact AllReadyIn.nil
          exact AllReadyIn.nil
        exact AllReadyIn.nil
      exact AllReadyIn.nil
    exact AllReadyIn.nil
  exact AllReadyIn.nil
end Go.Proofs.YtalcikmngglplaaDoor

namespace Go.Proofs.YtalcikmngglplaaDoor
open Go.RowKit Go.Shelf
set_option linter.unusedVariables false
attribute [local go_sem] Oper.semAt_some

/-- Between two rounds of DivWord. -/
def IDiv (w : World) (g pw pq pr pb n : Nat) (xs : List Nat) (wd high : Nat) (k : Nat) (W : World) : Prop :=
  ∃ zs, ∃ r : Nat, RowAt W g zs ∧ zs.length = n ∧ Ws zs ∧ r < wd ∧ (∀ j, j < n - k → zs[j]? = xs[j]?) ∧ V (zs.drop (n - k)) * wd + r = high * B64 ^ k + V (xs.drop (n - k)) ∧
    Wd W pw (.int .u64 (wd : Int)) ∧ Wd W pq (.slice (some ⟨g, 0, none⟩) n n) ∧ Wd W pr (.int .u64 (r : Int)) ∧ Wd W pb (.slice (some ⟨g, 0, none⟩) n n) ∧ Below w.heap.size w W

theorem IDiv_own {w : World} {g pw pq pr pb n : Nat} {xs : List Nat} {wd high B : Nat} (hB : w.heap.size ≤ B) : OwnFrom B (IDiv w g pw pq pr pb n xs wd high) := by
  rintro k W W' row ⟨zs, r, h1, h2, h3, h4, h5, h6, h7, h8, h9, h10, h11⟩ hg hr
  have hr2 : ∀ j, row = some j → ∃ o : Obj, W.heap[j]? = some o ∧ o.isCells = false := fun j e => (hr j e).2
  exact ⟨zs, r, h1.kept hg hr2, h2, h3, h4, h5, h6, h7.kept hg hr2, h8.kept hg hr2, h9.kept hg hr2, h10.kept hg hr2, h11.grown hg h11.size (fun j e => by have := (hr j e).1; omega)⟩
theorem IDiv_reads {w : World} {g pw pq pr pb n : Nat} {xs : List Nat} {wd high : Nat} (hl : xs.length = n) (k : Nat) (W : World) (h : IDiv w g pw pq pr pb n xs wd high k W) :
    Reads pb (some ⟨g, 0, none⟩) n n (fun k => xs.getD (n - 1 - k) 0) k W := by
  obtain ⟨zs, r, h1, h2, h3, h4, h5, h6, h7, h8, h9, h10, h11⟩ := h
  refine ⟨h10.1, fun hk => ⟨g, 0, rfl, ?_⟩⟩
  rw [Nat.zero_add]
  refine h1.cell ?_
  rw [h5 _ (by omega)]
  show xs[n - 1 - k]? = some (xs.getD (n - 1 - k) 0)
  rw [List.getD_eq_getElem?_getD, List.getElem?_eq_getElem (by omega)]
  rfl
theorem IDiv_drewN {w : World} {g pw pq pr pb n : Nat} {xs : List Nat} {wd high k : Nat} {W : World} (h : IDiv w g pw pq pr pb n xs wd high k W) (m : Nat) : IDiv w g pw pq pr pb n xs wd high k (W.drewN m) := by
  obtain ⟨zs, r, h1, h2, h3, h4, h5, h6, h7, h8, h9, h10, h11⟩ := h
  exact ⟨zs, r, h1, h2, h3, h4, h5, h6, h7, h8, h9, h10, below_drewN h11 m⟩
theorem div_step {B k high x q r r' wd a b : Nat} (h1 : r * B + x = q * wd + r') (h2 : a * wd + r = high * B ^ k + b) : (q + B * a) * wd + r' = high * B ^ (k + 1) + (x + B * b) := by
  rw [Nat.pow_succ]
  grind
theorem IDiv_step {w W : World} {g pw pq pr pb n : Nat} {xs : List Nat} {wd high k i x q r r' : Nat} {zs : List Nat} (hd : g ≠ pw ∧ g ≠ pq ∧ g ≠ pr ∧ g ≠ pb ∧ pw ≠ pr ∧ pq ≠ pr ∧ pb ≠ pr) (hg0 : w.heap.size ≤ g) (hr0 : w.heap.size ≤ pr) (hl : xs.length = n) (hi : i + 1 + k = n) (hx : xs[i]? = some x)
    (hdiv : r * B64 + x = q * wd + r' ∧ r' < wd ∧ q < B64)
    (h1 : RowAt W g zs) (h2 : zs.length = n) (h3 : Ws zs) (h5 : ∀ j, j < n - k → zs[j]? = xs[j]?) (h6 : V (zs.drop (n - k)) * wd + r = high * B64 ^ k + V (xs.drop (n - k)))
    (h7 : Wd W pw (.int .u64 (wd : Int))) (h8 : Wd W pq (.slice (some ⟨g, 0, none⟩) n n)) (h9 : Wd W pr (.int .u64 (r : Int))) (h10 : Wd W pb (.slice (some ⟨g, 0, none⟩) n n)) (h11 : Below w.heap.size w W) :
    IDiv w g pw pq pr pb n xs wd high (k + 1) ((W.setCell ⟨g, i, none⟩ (.int .u64 (q : Int))).setCell ⟨pr, 0, none⟩ (.int .u64 (r' : Int))) := by
  refine ⟨zs.set i q, r', (h1.set i q).far hd.2.2.1 _, by rw [List.length_set]; exact h2, Ws_set h3 i q hdiv.2.2, hdiv.2.1, fun j hj => ?_, ?_, (h7.far (p := ⟨g, i, none⟩) hd.1.symm _).far (p := ⟨pr, 0, none⟩) hd.2.2.2.2.1 _, (h8.far (p := ⟨g, i, none⟩) hd.2.1.symm _).far (p := ⟨pr, 0, none⟩) hd.2.2.2.2.2.1 _, (h9.far (p := ⟨g, i, none⟩) hd.2.2.1.symm _).set _, (h10.far (p := ⟨g, i, none⟩) hd.2.2.2.1.symm _).far (p := ⟨pr, 0, none⟩) hd.2.2.2.2.2.2 _, (h11.setCell (p := ⟨g, i, none⟩) hg0 _).setCell (p := ⟨pr, 0, none⟩) hr0 _⟩
  · rw [List.getElem?_set_ne (by omega)]
    exact h5 j (by omega)
  · have e1 : n - (k + 1) = i := by omega
    have e2 : n - k = i + 1 := by omega
    rw [e1, V_drop xs i x hx, V_drop (zs.set i q) i q (by rw [List.getElem?_set_self (by omega)]), drop_set]
    rw [e2] at h6
    exact div_step hdiv.1 h6

theorem DivWord_end {w W : World} {g D n : Nat} {zs xs : List Nat} {r wd high B : Nat} (hg : w.heap.size ≤ g) (hgB : g < B) (hn : n ≤ 4096)
    (h : RowAt W g zs ∧ zs.length = n ∧ Ws zs ∧ r < wd ∧ V (zs.drop (n - n)) * wd + r = high * B64 ^ n + V (xs.drop (n - n)) ∧ Below w.heap.size w W ∧ B ≤ D) :
    ∃ v zs, ∃ r' : Nat, Ending.returned (.tuple #[.slice (some ⟨g, 0, none⟩) n n, .int .u64 (r : Int), .int .i64 0]) = .returned (.tuple #[v, .int .u64 r', .int .i64 0]) ∧ r' < wd ∧
      V zs * wd + r' = high * B64 ^ n + V xs ∧ Nw w (W.drew.putObj D (.deferred none)) v n zs ∧ Below w.heap.size w (W.drew.putObj D (.deferred none)) := by
  obtain ⟨h1, h2, h3, h4, h5, h6, h7⟩ := h
  rw [Nat.sub_self, List.drop_zero, List.drop_zero] at h5
  have hrow : RowAt (W.drew.putObj D (.deferred none)) g zs := RowAt.put (W := W.drew) h1 (by omega) _
  have hown := hrow.own hg (by omega)
  rw [h2] at hown
  exact ⟨_, zs, r, rfl, h4, h5, ⟨h2, h3, hown⟩, below_putObj h6.drew (by omega) _⟩

set_option maxHeartbeats 1000000 in
theorem DivWord_ok (A : Option Addr) (n c : Nat) (xs : List Nat) (wd high : Nat) (w : World) (hn : n ≤ 4096) (hx : Sl w A n c xs) (hwd : wd < B64) (hh : high < wd) :
    Calls Tryd.prog 104 #[.slice A n c, .int .u64 wd, .int .u64 high] w fun e w' => ∃ v zs, ∃ r : Nat, e = .returned (.tuple #[v, .int .u64 r, .int .i64 0]) ∧ r < wd ∧
      V zs * wd + r = high * B64 ^ n + V xs ∧ Nw w w' v n zs ∧ Below w.heap.size w w' := by
  have Hk := Lib.hid (chk_one n hn)
  have Hx := Lib.hid hx
  have e0 : ((wd : Int) == 0) = false := by simp; omega
  have e1 : (high : Int) < wd := by omega
  clear hx
  refine (callsIn_wide (n := 5)).1 ?_
  refine callsIn_of_wp_marks Tryd.func104 rfl trivial ?_ rfl
  simp only [Tryd.ntmps104, List.size_toArray, List.length_cons, List.length_nil, Nat.reduceAdd, Nat.reduceSub, Array.replicate_succ, Array.replicate_zero, List.push_toArray, List.append_toArray, List.nil_append, List.cons_append]
  have hb2 : Below w.heap.size w ((w.alloc (.cells #[.int .u64 (wd : Int)] 24)).alloc (.cells #[.int .i64 (n : Int)] 3)) := ((Below.refl _ _).alloc (Nat.le_refl _) _).alloc (by simp) _
  have H2 := Lib.hid (And.intro hb2 (And.intro (Hx.out.below hb2) ((Wd.new w (.int .u64 (wd : Int)) 24).alloc (.cells #[.int .i64 (n : Int)] 3))))
  clear hb2
  gi_wp2_with (first
    | (refine ⟨trivial, ?_⟩; gi_at_call 108; refine (callsIn_wide.2 (checkLengths_one n _ _ (by simp))).mono ?_; rintro e w' ⟨rfl, rfl⟩; rw [Hk.out])
    | (refine ⟨trivial, ?_⟩; gi_at_call 132; refine (callsIn_wide.2 (copied_ok A n c xs _ hn H2.out.2.1)).mono ?_; rintro e w1 ⟨rfl, hrow, hb1⟩; simp only [World.size_alloc] at hrow hb1; have Hrow := Lib.hid hrow; have Hb1 := Lib.hid hb1; clear hrow hb1)
    | (refine ⟨trivial, ?_⟩; gi_at_call 133; refine (callsIn_wide.2 (fromBack_any (.slice none 0 0) _ _ _ _)).mono ?_; rintro e w' ⟨rfl, rfl⟩))
  have hg1 : w.heap.size + 1 + 1 < w1.heap.size := Hrow.out.lt
  have hl := Hx.out.1
  have el : ∀ k, k < n → ∃ x, xs[n - 1 - k]? = some x ∧ xs.getD (n - 1 - k) 0 = x ∧ x < B64 := fun k hk => by
    have hlt : n - 1 - k < xs.length := by omega
    exact ⟨xs[n - 1 - k], List.getElem?_eq_getElem hlt, by rw [List.getD_eq_getElem?_getD, List.getElem?_eq_getElem hlt]; rfl, Hx.out.2.2.2.1 _ (List.getElem_mem hlt)⟩
  have hbW : Below w.heap.size w w1 := H2.out.1.trans (Hb1.out.mono (by omega))
  have hI0 : IDiv w (w.heap.size + 1 + 1) w.heap.size w1.heap.size (w1.heap.size + 1) (w1.heap.size + 1 + 1) n xs wd high 0 (((w1.alloc (.cells #[.slice (some ⟨w.heap.size + 1 + 1, 0, none⟩) n n] 22)).alloc (.cells #[.int .u64 (high : Int)] 24)).alloc (.cells #[.slice (some ⟨w.heap.size + 1 + 1, 0, none⟩) n n] 22)) := by
    have q1 := ((Wd.new w1 (.slice (some ⟨w.heap.size + 1 + 1, 0, none⟩) n n) 22).alloc (.cells #[.int .u64 (high : Int)] 24)).alloc (.cells #[.slice (some ⟨w.heap.size + 1 + 1, 0, none⟩) n n] 22)
    have q2 := (Wd.new (w1.alloc (.cells #[.slice (some ⟨w.heap.size + 1 + 1, 0, none⟩) n n] 22)) (.int .u64 (high : Int)) 24).alloc (.cells #[.slice (some ⟨w.heap.size + 1 + 1, 0, none⟩) n n] 22)
    have q3 := Wd.new ((w1.alloc (.cells #[.slice (some ⟨w.heap.size + 1 + 1, 0, none⟩) n n] 22)).alloc (.cells #[.int .u64 (high : Int)] 24)) (.slice (some ⟨w.heap.size + 1 + 1, 0, none⟩) n n) 22
    simp only [World.size_alloc] at q2 q3
    have hW := ((H2.out.2.2.below Hb1.out (by omega)).alloc (.cells #[.slice (some ⟨w.heap.size + 1 + 1, 0, none⟩) n n] 22)).alloc (.cells #[.int .u64 (high : Int)] 24) |>.alloc (.cells #[.slice (some ⟨w.heap.size + 1 + 1, 0, none⟩) n n] 22)
    refine ⟨xs, high, ((Hrow.out.alloc _).alloc _).alloc _, hl, Hx.out.2.2.2.1, hh, fun _ _ => rfl, ?_, hW, q1, q2, q3, ((hbW.alloc hbW.size _).alloc (by have := hbW.size; simp; omega) _).alloc (by have := hbW.size; simp; omega) _⟩
    rw [Nat.sub_zero, V_drop_all xs n (by omega), Nat.pow_zero]
    omega
  refine wpIn_rounds (F := Fence.wide) (n := 5) rfl (by decide) (gf := 142) (lb := #[.pointer (some ⟨w1.heap.size + 1 + 1, 0, none⟩)]) rfl trivial (fun args w => run_callFunc_enter Tryd.func142 (by kernel_rfl) (by kernel_rfl) args w)
    (fromBack_rounds Fence.wide 4 trivial rfl (by decide) (w1.heap.size + 1 + 1) (some ⟨w.heap.size + 1 + 1, 0, none⟩) n n (fun k => xs.getD (n - 1 - k) 0) hn _) (Below.refl _ _) (fun _ => rfl)
    (IDiv w (w.heap.size + 1 + 1) w.heap.size w1.heap.size (w1.heap.size + 1) (w1.heap.size + 1 + 1) n xs wd high) (fun _ _ _ => False) (IDiv_own (by have := hbW.size; simp; omega)) (fun _ _ _ _ _ hs _ _ => hs) (IDiv_reads hl) hI0
    (fun k => { tmps := #[.slice A n c, .int .u64 (wd : Int), .int .u64 (high : Int), undef, .pointer (some ⟨w.heap.size, 0, none⟩), undef, .slice none 0 0, .int .u64 0, .int .i64 0, .int .i64 0, .pointer (some ⟨w1.heap.size, 0, none⟩), .pointer (some ⟨w1.heap.size + 1, 0, none⟩), .int .i64 ((n - 1 - k : Nat) : Int), .int .u64 (xs.getD (n - 1 - k) 0 : Int), .slice A n c, .int .i64 (n : Int), .slice (some ⟨w.heap.size + 1, 0, none⟩) 1 1, .int .i64 0, .int .i64 0, .bool false, undef, .int .u64 (wd : Int), .bool false, .int .u64 (high : Int), .int .u64 (wd : Int), .bool false, .slice A n c, .slice (some ⟨w.heap.size + 1 + 1, 0, none⟩) n n, .int .u64 (high : Int), .slice (some ⟨w.heap.size + 1 + 1, 0, none⟩) n n, .func (.func 142) #[] #[.pointer (some ⟨w1.heap.size + 1 + 1, 0, none⟩)], .int .i64 ((n - 1 - k : Nat) : Int), .int .u64 (xs.getD (n - 1 - k) 0 : Int), undef, undef, undef, undef, undef, undef, undef, undef, undef, undef, undef, undef], defers := [] }) ?assign ?body ?done ?stop
  case assign =>
    intro l k W K hK
    gi_wp2
    exact hK
  case body =>
    rintro l k W ⟨zs, r, h1, h2, h3, h4, h5, h6, h7, h8, h9, h10, h11⟩ hk
    obtain ⟨x, hx1, hx2, hxB⟩ := el k hk
    obtain ⟨q, r', hdiv, hcall⟩ := div64_any r x wd h4 hxB hwd
    rw [hx2]
    have hi : ∃ i, n - 1 - k = i := ⟨_, rfl⟩
    obtain ⟨i, hi⟩ := hi
    rw [hi]
    have hin : (i : Int) < n := by omega
    have hzi : zs[i]? = some x := by rw [h5 i (by omega), ← hi]; exact hx1
    have hne : w.heap.size + 1 + 1 ≠ w1.heap.size + 1 := by omega
    have c1 := h8.1
    have c2 := h9.1
    have c3 := h7.1
    have c4 := h1.cell hzi
    have f1 := h1.frozen i
    have f2 := h9.2
    have c5 : ∀ u, (W.setCell ⟨w.heap.size + 1 + 1, i, none⟩ u).cell? ⟨w1.heap.size + 1, 0, none⟩ = some (.int .u64 (r : Int)) := fun u => (h9.far (p := ⟨w.heap.size + 1 + 1, i, none⟩) hne.symm u).1
    have c6 : ∀ u, (W.setCell ⟨w1.heap.size + 1, 0, none⟩ u).cell? ⟨w.heap.size + 1 + 1, i, none⟩ = some (.int .u64 (x : Int)) := fun u => (h1.far (p := ⟨w1.heap.size + 1, 0, none⟩) hne u).cell hzi
    have Hst := Lib.hid (IDiv_step (w := w) (pw := w.heap.size) (pb := w1.heap.size + 1 + 1) (high := high) (wd := wd) (i := i) ⟨by omega, by omega, by omega, by omega, by omega, by omega, by omega⟩ (by omega) (by have := hbW.size; omega) hl (show i + 1 + k = n by omega) (by rw [← hi]; exact hx1) hdiv h1 h2 h3 h5 h6 h7 h8 h9 h10 h11)
    have Hc := Lib.hid hcall
    clear h1 h2 h3 h4 h5 h6 h7 h8 h9 h10 h11 hx1 hx2 hdiv hcall hzi hi hI0 el hl
    have hmix : Tryd.prog.follows Departure.mixedOrders = true := by kernel_rfl
    gi_wp2
    refine DivWord_round l n i (w.heap.size + 1 + 1) w1.heap.size (w1.heap.size + 1) w.heap.size W x r q r' wd _ Hc hin hne c1 c2 c3 c4 f1 f2 c5 (Lib.hid fun a m => ?_) _ _ _ _ _ _ _ _ _ _ _ _ _ _ _ _ _ _ _ _ _ _ _ _ _ _ _ _ _ _ _ _ _ _ _ _ _ _ _ _
    exact ⟨(((KeepsOthers.setCell W _ _).trans (KeepsOthers.setCell _ _ _)).trans (KeepsOthers_drewN _ m)).from _, IDiv_drewN Hst.out m⟩
  case done =>
    rintro D W hD ⟨zs, r, h1, h2, h3, h4, h5, h6, h7, h8, h9, h10, h11⟩ hcol
    have hmix : Tryd.prog.follows Departure.mixedOrders = true := by kernel_rfl
    have c1 := h8.1
    have c2 := h9.1
    have Hf := Lib.hid (And.intro h1 (And.intro h2 (And.intro h3 (And.intro h4 (And.intro h6 (And.intro h11 hD))))))
    clear h1 h2 h3 h4 h5 h6 h7 h8 h9 h10 h11 hI0 hl el
    gi_wp2
    rename_i K hK
    refine region_plain ?_
    gi_region_with_o (fail)
    all_goals refine hK _ _ ?_
    all_goals clear hK K
    all_goals refine wpIn_ret ?_
    all_goals refine leaves_marked3 rfl hcol ?_
    all_goals exact DivWord_end (by omega) (by simp; omega) hn Hf.out
  case stop =>
    rintro D c k W _ h _
    exact h.elim

set_option maxHeartbeats 400000 in
theorem DivWord_err (A : Option Addr) (n c : Nat) (wd high : Nat) (w : World) (hn : 4096 < n) :
    Calls Tryd.prog 104 #[.slice A n c, .int .u64 wd, .int .u64 high] w fun e w' => e = .returned (.tuple #[.slice none 0 0, .int .u64 0, .int .i64 2]) ∧ Below w.heap.size w w' := by
  have Hz := Lib.hid (chk_one_big n hn)
  go_enter Tryd.func104, Tryd.ntmps104
  go_wp2_with (go_at_call 108; refine (checkLengths_one n _ _ (by simp)).mono ?_; rintro e w' ⟨rfl, rfl⟩; rw [Hz.out])
  go_ret3
  exact ⟨rfl, ((Below.refl _ _).alloc (Nat.le_refl _) _).alloc (by simp) _⟩
set_option maxHeartbeats 400000 in
theorem DivWord_zero (A : Option Addr) (n c : Nat) (high : Nat) (w : World) (hn : n ≤ 4096) :
    Calls Tryd.prog 104 #[.slice A n c, .int .u64 (0 : Nat), .int .u64 high] w fun e w' => e = .returned (.tuple #[.slice none 0 0, .int .u64 0, .int .i64 5]) ∧ Below w.heap.size w w' := by
  have Hz := Lib.hid (chk_one n hn)
  go_enter Tryd.func104, Tryd.ntmps104
  go_wp2_with (go_at_call 108; refine (checkLengths_one n _ _ (by simp)).mono ?_; rintro e w' ⟨rfl, rfl⟩; rw [Hz.out])
  go_ret3
  exact ⟨rfl, ((Below.refl _ _).alloc (Nat.le_refl _) _).alloc (by simp) _⟩
set_option maxHeartbeats 400000 in
theorem DivWord_arg (A : Option Addr) (n c : Nat) (wd high : Nat) (w : World) (hn : n ≤ 4096) (h0 : 0 < wd) (hh : wd ≤ high) :
    Calls Tryd.prog 104 #[.slice A n c, .int .u64 wd, .int .u64 high] w fun e w' => e = .returned (.tuple #[.slice none 0 0, .int .u64 0, .int .i64 1]) ∧ Below w.heap.size w w' := by
  have Hz := Lib.hid (chk_one n hn)
  have e0 : ((wd : Int) == 0) = false := by simp; omega
  have e1 : ¬ (high : Int) < wd := by omega
  go_enter Tryd.func104, Tryd.ntmps104
  go_wp2_with (go_at_call 108; refine (checkLengths_one n _ _ (by simp)).mono ?_; rintro e w' ⟨rfl, rfl⟩; rw [Hz.out])
  go_ret3
  exact ⟨rfl, ((Below.refl _ _).alloc (Nat.le_refl _) _).alloc (by simp) _⟩
end Go.Proofs.YtalcikmngglplaaDoor

namespace Go.Proofs.YtalcikmngglplaaDoor
open Go.RowKit Go.Shelf
set_option linter.unusedVariables false
set_option maxRecDepth 10000

set_option maxHeartbeats 400000 in
theorem NDivWord_ok (A : Option Addr) (n c : Nat) (xs : List Nat) (d : Nat) (w : World) (hn : n ≤ 4096) (hx : Sl w A n c xs) (hd : d < B64) (h0 : 0 < d) :
    Calls Tryd.prog 68 #[.slice A n c, .int .u64 d] w fun e w' => ∃ v, ∃ r : Nat, e = .returned (.tuple #[v, .int .u64 r, .int .i64 0]) ∧ Nt w w' v (V xs / d) ∧ r = V xs % d ∧ Below w.heap.size w w' := by
  have Hx := Lib.hid hx
  clear hx
  go_enter Tryd.func68, Tryd.ntmps68
  go_wp2_with (fail)
  refine (DivWord_ok A n c xs d 0 w hn Hx.out hd h0).mono ?_
  rintro e w1 ⟨v, zs, r, rfl, hr, hv, hn1, hb1⟩
  obtain ⟨A1, c1, rfl, hs1⟩ := hn1.sl
  have hq : V zs = V xs / d ∧ r = V xs % d := by
    rw [Nat.zero_mul, Nat.zero_add] at hv
    rw [← hv]
    refine ⟨?_, ?_⟩
    · rw [Nat.mul_comm, Nat.mul_add_div h0, Nat.div_eq_of_lt hr]; rfl
    · rw [Nat.mul_comm, Nat.mul_add_mod, Nat.mod_eq_of_lt hr]
  have H := Lib.hid (And.intro hs1 (And.intro hn1 (And.intro hq hb1)))
  clear hs1 hn1 hq hb1 hv hr
  go_wp2_with (fail)
  refine (used_ok A1 n c1 zs w1 (by omega) H.out.1).mono ?_
  rintro e w2 ⟨k, rfl, hk, hH, rfl⟩
  go_wp2_with (fail)
  go_ret3
  exact ⟨_, r, rfl, ⟨k, zs.take k, H.out.2.1.tk hk, hH.out.2, by rw [hH.out.1]; exact H.out.2.2.1.1⟩, H.out.2.2.1.2, H.out.2.2.2⟩
theorem NDivWord_zero (A : Option Addr) (n c : Nat) (w : World) (hn : n ≤ 4096) :
    Calls Tryd.prog 68 #[.slice A n c, .int .u64 0] w fun e w' => e = .returned (.tuple #[.slice none 0 0, .int .u64 0, .int .i64 5]) ∧ Below w.heap.size w w' := by
  go_enter Tryd.func68, Tryd.ntmps68
  go_wp2_with (fail)
  refine (DivWord_zero A n c 0 w hn).mono ?_
  rintro e w1 ⟨rfl, hb1⟩
  have H := Lib.hid hb1
  clear hb1
  go_wp2_with (fail)
  refine (used_ok none 0 0 [] w1 (by omega) ⟨rfl, Nat.le_refl _, by omega, Ws_nil, Rd.nil⟩).mono ?_
  rintro e w2 ⟨k, rfl, hk, hH, rfl⟩
  obtain rfl : k = 0 := by omega
  go_wp2_with (fail)
  go_ret3
  exact ⟨rfl, H.out⟩
end Go.Proofs.YtalcikmngglplaaDoor

namespace Go.Proofs.YtalcikmngglplaaDoor
open Go.RowKit Go.Shelf
set_option linter.unusedVariables false
set_option maxRecDepth 10000

/-- the contract of long -/
def LongC : Prop := ∀ (A A' : Option Addr) (n m c c' : Nat) (xs ys : List Nat) (w : World), n ≤ 4096 → 2 ≤ m → m ≤ n → Sl w A n c xs → Sl w A' m c' ys → Cn ys →
  Calls Tryd.prog 69 #[.slice A n c, .slice A' m c'] w fun e w' => ∃ v v', e = .returned (.tuple #[v, v']) ∧ Nt w w' v (V xs / V ys) ∧ Nt w w' v' (V xs % V ys) ∧ Below w.heap.size w w'

theorem Nt_nil' {w w' : World} {x : Nat} (h : x = 0) : Nt w w' (.slice none 0 0) x := by subst h; exact Nt.nil w w'

set_option maxHeartbeats 4000000 in
theorem NDivMod_ok (A A' : Option Addr) (n n' c c' : Nat) (xs ys : List Nat) (w : World) (hn : n ≤ 4096) (hn' : n' ≤ 4096) (hx : Sl w A n c xs) (hy : Sl w A' n' c' ys) (h0 : 0 < V ys) (hL : LongC ∨ V ys < B64) :
    Calls Tryd.prog 37 #[.slice A n c, .slice A' n' c'] w fun e w' => ∃ v v', e = .returned (.tuple #[v, v', .int .i64 0]) ∧ Nt w w' v (V xs / V ys) ∧ Nt w w' v' (V xs % V ys) ∧ Below w.heap.size w w' := by
  have Hx := Lib.hid (And.intro hx (And.intro hy (And.intro h0 hL)))
  have Hk := Lib.hid (chkS_two (A := A) (A' := A') (c := c) (c' := c') hn hn')
  clear hx hy h0 hL
  go_enter Tryd.func37, Tryd.ntmps37
  go_wp2_with (fail)
  refine (checkSizes_two A A' _ _ c c' _ _ w rfl).mono ?_
  rintro e w1 ⟨rfl, hb1⟩
  rw [Hk.out]
  have H1 := Lib.hid (And.intro (Hx.out.1.below hb1) (And.intro (Hx.out.2.1.below hb1) hb1))
  clear hb1
  go_wp2_with (fail)
  refine (used_ok A n c xs w1 (by omega) H1.out.1).mono ?_
  rintro e w2 ⟨k, rfl, hk, hH, rfl⟩
  go_wp2_with (fail)
  refine (used_ok A' n' c' ys w1 (by omega) H1.out.2.1).mono ?_
  rintro e w2 ⟨k', rfl, hk', hH', rfl⟩
  have Hs := Lib.hid (And.intro (H1.out.1.tk hk) (H1.out.2.1.tk hk'))
  have hk0 : 0 < k' := by
    rcases Nat.eq_zero_or_pos k' with rfl | h
    · have h1 := hH'.out.1
      have h2 := Hx.out.2.2.1
      rw [← h1] at h2
      simp [V] at h2
    · exact h
  have e0 : ((k' : Int) == 0) = false := by simp; omega
  have hM : k ≤ 4096 := by omega
  by_cases hlt : k < k'
  · have hlti : (k : Int) < k' := by omega
    have hvlt : V xs < V ys := by
      have h1 := Hs.out.1.lt
      rw [hH.out.1] at h1
      have h2 := V_ge hH'.out.2 (show (ys.take k').length = (k' - 1) + 1 by rw [Hs.out.2.1]; omega)
      rw [hH'.out.1] at h2
      have h3 : B64 ^ k ≤ B64 ^ (k' - 1) := Nat.pow_le_pow_right B64_pos (by omega)
      omega
    have HV := Lib.hid hvlt
    clear hvlt
    go_wp2_with (fail)
    refine (NTrim_ok A k c (xs.take k) w1 (by omega) Hs.out.1).mono ?_
    rintro e w2 ⟨v, rfl, hN, hb2⟩
    have H2 := Lib.hid (And.intro hN hb2)
    clear hN hb2
    go_wp2_with (fail)
    go_ret3
    refine ⟨_, v, rfl, Nt_nil' (Nat.div_eq_of_lt HV.out), ?_, H1.out.2.2.trans (H2.out.2.mono H1.out.2.2.size)⟩
    rw [Nat.mod_eq_of_lt HV.out, ← hH.out.1]
    exact H2.out.1.base H1.out.2.2.size
  · have hlti : ¬ (k : Int) < k' := by omega
    by_cases h1 : k' = 1
    · subst h1
      obtain ⟨z, hz, hzB, hzV⟩ := one_of Hs.out.2.1 Hs.out.2.2.2.2.1
      obtain ⟨b, o, hAe, _, hcx⟩ := Hs.out.2.2.2.2.2.at (uvs_get (show (ys.take 1)[0]? = some z by rw [hz]; rfl))
      have hzv : V ys = z := by rw [← hH'.out.1]; exact hzV
      have HZ := Lib.hid (And.intro hzB (And.intro hzv (show 0 < z by rw [← hzv]; exact Hx.out.2.2.1)))
      clear hz hzB hzV hzv
      subst hAe
      rw [Nat.add_zero] at hcx
      go_wp2_with (fail)
      refine (NDivWord_ok A k c (xs.take k) z w1 hM Hs.out.1 HZ.out.1 HZ.out.2.2).mono ?_
      rintro e w2 ⟨v, r, rfl, hN, hr, hb2⟩
      have hrB : r < B64 := by rw [hr]; exact Nat.lt_trans (Nat.mod_lt _ HZ.out.2.2) HZ.out.1
      have H2 := Lib.hid (And.intro hN (And.intro hr hb2))
      clear hN hr hb2
      obtain ⟨A2, n2, c2, zs2, rfl, _⟩ := H2.out.1.sl
      go_wp2_with (fail)
      refine (NFromWord_ok r w2 hrB).mono ?_
      rintro e w3 ⟨v3, rfl, hN3, hb3⟩
      have H3 := Lib.hid (And.intro hN3 hb3)
      clear hN3 hb3
      have hb12 := H1.out.2.2.trans (H2.out.2.2.mono H1.out.2.2.size)
      have HF := Lib.hid (And.intro hb12 (hb12.trans (H3.out.2.mono hb12.size)))
      clear hb12
      go_wp2_with (fail)
      go_ret3
      refine ⟨_, v3, rfl, ?_, ?_, HF.out.2⟩
      · rw [HZ.out.2.1, ← hH.out.1]
        exact H2.out.1.later H1.out.2.2.size H3.out.2
      · rw [HZ.out.2.1, ← hH.out.1, ← H2.out.2.1]
        exact H3.out.1.base HF.out.1.size
    · have hk2 : 2 ≤ k' := by omega
      have e1 : ((k' : Int) == 1) = false := by simp; omega
      have hLC : LongC := by
        rcases Hx.out.2.2.2 with h | h
        · exact h
        · exfalso
          have h2 := V_ge hH'.out.2 (show (ys.take k').length = (k' - 1) + 1 by rw [Hs.out.2.1]; omega)
          rw [hH'.out.1] at h2
          have h3 : B64 ^ 1 ≤ B64 ^ (k' - 1) := Nat.pow_le_pow_right B64_pos (by omega)
          rw [Nat.pow_one] at h3
          omega
      go_wp2_with (fail)
      refine (hLC A A' k k' c c' (xs.take k) (ys.take k') w1 hM hk2 (by omega) Hs.out.1 Hs.out.2 hH'.out.2).mono ?_
      rintro e w2 ⟨v, v', rfl, hN, hN', hb2⟩
      rw [hH.out.1, hH'.out.1] at hN hN'
      have H2 := Lib.hid (And.intro hN (And.intro hN' hb2))
      clear hN hN' hb2 hLC
      go_wp2_with (fail)
      go_ret3
      exact ⟨v, v', rfl, H2.out.1.base H1.out.2.2.size, H2.out.2.1.base H1.out.2.2.size, H1.out.2.2.trans (H2.out.2.2.mono H1.out.2.2.size)⟩

set_option maxHeartbeats 400000 in
theorem NDivMod_zero (A A' : Option Addr) (n n' c c' : Nat) (xs ys : List Nat) (w : World) (hn : n ≤ 4096) (hn' : n' ≤ 4096) (hx : Sl w A n c xs) (hy : Sl w A' n' c' ys) (h0 : V ys = 0) :
    Calls Tryd.prog 37 #[.slice A n c, .slice A' n' c'] w fun e w' => e = .returned (.tuple #[.slice none 0 0, .slice none 0 0, .int .i64 5]) ∧ Below w.heap.size w w' := by
  have Hx := Lib.hid (And.intro hx (And.intro hy h0))
  have Hk := Lib.hid (chkS_two (A := A) (A' := A') (c := c) (c' := c') hn hn')
  clear hx hy h0
  go_enter Tryd.func37, Tryd.ntmps37
  go_wp2_with (fail)
  refine (checkSizes_two A A' _ _ c c' _ _ w rfl).mono ?_
  rintro e w1 ⟨rfl, hb1⟩
  rw [Hk.out]
  have H1 := Lib.hid (And.intro (Hx.out.1.below hb1) (And.intro (Hx.out.2.1.below hb1) hb1))
  clear hb1
  go_wp2_with (fail)
  refine (used_ok A n c xs w1 (by omega) H1.out.1).mono ?_
  rintro e w2 ⟨k, rfl, hk, hH, rfl⟩
  go_wp2_with (fail)
  refine (used_ok A' n' c' ys w1 (by omega) H1.out.2.1).mono ?_
  rintro e w2 ⟨k', rfl, hk', hH', rfl⟩
  obtain rfl : k' = 0 := by
    have h := (V_zero (Ws_take H1.out.2.1.2.2.2.1 k') hH'.out.2).1 (by rw [hH'.out.1]; exact Hx.out.2.2)
    have hl := (H1.out.2.1.tk hk').1
    rw [h] at hl
    simpa using hl.symm
  go_wp2_with (fail)
  go_ret3
  exact ⟨rfl, H1.out.2.2⟩
end Go.Proofs.YtalcikmngglplaaDoor

namespace Go.Proofs.YtalcikmngglplaaDoor
open Go.RowKit Go.Shelf
set_option linter.unusedVariables false
set_option maxRecDepth 100000

/-- a slice of one new word is a row -/
theorem one_sl {w w1 : World} {x : Nat} (hx : x < B64) (h : w1 = W1 w x) : Sl w1 (some ⟨w.heap.size, 0, none⟩) 1 1 [x] := by subst h; exact Sl_one w x hx
theorem Pow_ten (w : World) : Calls Tryd.prog 35 #[.slice (some ⟨w.heap.size, 0, none⟩) 1 1, .int .i64 20] (w.alloc (.cells #[.int .u64 10] 24)) fun e w' => ∃ A n c zs, e = .returned (.tuple #[.slice A n c, .int .i64 0]) ∧ Nu w w' A n c zs (10 ^ 20) := by
  refine (NPow_ok _ 1 1 [10] 20 (W1 w 10) (by omega) (by omega) (Sl_one w 10 (by decide))).mono ?_
  rintro e w' hR
  rw [V_one] at hR
  obtain ⟨A, n, c, zs, rfl, h⟩ := hR.open (Big_of (k := 2) (by decide) (by omega))
  exact ⟨A, n, c, zs, rfl, h.from (W1_below w 10)⟩
theorem Square_top (w : World) : Calls Tryd.prog 36 #[.slice (some ⟨w.heap.size, 0, none⟩) 1 1] (w.alloc (.cells #[.int .u64 18446744073709551615] 24)) fun e w' => ∃ A n c zs, e = .returned (.tuple #[.slice A n c, .int .i64 0]) ∧ Nu w w' A n c zs (18446744073709551615 * 18446744073709551615) := by
  refine (NSquare_ok _ 1 1 [18446744073709551615] (W1 w 18446744073709551615) (by omega) (Sl_one w 18446744073709551615 (by decide))).mono ?_
  rintro e w' hR
  rw [V_one] at hR
  obtain ⟨A, n, c, zs, rfl, h⟩ := hR.open (Big_of (k := 2) (by decide) (by omega))
  exact ⟨A, n, c, zs, rfl, h.from (W1_below w _)⟩

theorem DivMod_third (w : World) : Calls Tryd.prog 37 #[.slice (some ⟨w.heap.size, 0, none⟩) 2 2, .slice (some ⟨w.heap.size + 1, 0, none⟩) 1 1] ((w.alloc (.cells #[.int .u64 7766279631452241920, .int .u64 5] 24)).alloc (.cells #[.int .u64 3] 24)) fun e w' => ∃ A n c zs A' n' c' zs', e = .returned (.tuple #[.slice A n c, .slice A' n' c', .int .i64 0]) ∧ Nu w w' A n c zs 33333333333333333333 ∧ Nu w w' A' n' c' zs' 1 := by
  have h1 := Sl_two w 7766279631452241920 5 (by decide) (by decide)
  have h2 := Sl_one (w.alloc (.cells #[.int .u64 7766279631452241920, .int .u64 5] 24)) 3 (by decide)
  rw [World.size_alloc] at h2
  have hb0 : Below w.heap.size w (w.alloc (.cells #[.int .u64 7766279631452241920, .int .u64 5] 24)) := (Below.refl _ _).alloc (Nat.le_refl _) _
  have hb1 := W1_below (w.alloc (.cells #[.int .u64 7766279631452241920, .int .u64 5] 24)) 3
  have hb := hb0.trans (hb1.mono hb0.size)
  refine (NDivMod_ok _ _ 2 1 2 1 [7766279631452241920, 5] [3] (W1 (w.alloc (.cells #[.int .u64 7766279631452241920, .int .u64 5] 24)) 3) (by omega) (by omega) (h1.below hb1) h2 (by decide) (.inr (by decide))).mono ?_
  rintro e w' ⟨v, v', rfl, hn, hn', hbw⟩
  rw [show V [7766279631452241920, 5] / V [3] = 33333333333333333333 by decide] at hn
  rw [show V [7766279631452241920, 5] % V [3] = 1 by decide] at hn'
  obtain ⟨A, n, c, zs, rfl, h3⟩ := Nu.of hn hbw (Big_of (k := 2) (by decide) (by omega))
  obtain ⟨A', n', c', zs', rfl, h4⟩ := Nu.of hn' hbw (Big_of (k := 1) (by decide) (by omega))
  exact ⟨A, n, c, zs, A', n', c', zs', rfl, h3.from hb, h4.from hb⟩
theorem Sub_below (w : World) : Calls Tryd.prog 38 #[.slice (some ⟨w.heap.size, 0, none⟩) 1 1, .slice (some ⟨w.heap.size + 1, 0, none⟩) 1 1] ((w.alloc (.cells #[.int .u64 1] 24)).alloc (.cells #[.int .u64 2] 24)) fun e w' => e = .returned (.tuple #[.slice none 0 0, .int .i64 8]) ∧ Below w.heap.size w w' := by
  have h1 := Sl_one w 1 (by decide)
  have h2 := Sl_one (W1 w 1) 2 (by decide)
  have hb := W1_below2 w 1 2
  rw [World.size_alloc] at h2
  refine (NSub_ok _ _ 1 1 1 1 [1] [2] (W1 (W1 w 1) 2) (by omega) (by omega) (h1.below (W1_below (W1 w 1) 2)) h2).mono ?_
  rintro e w' ⟨⟨h3, _⟩ | ⟨_, rfl⟩, hbw⟩
  · rw [V_one, V_one] at h3
    omega
  · exact ⟨rfl, hb.trans (hbw.mono hb.size)⟩
theorem Parse_ten (w : World) : Calls Tryd.prog 39 #[.string ⟨#[49, 48, 48, 48, 48, 48, 48, 48, 48, 48, 48, 48, 48, 48, 48, 48, 48, 48, 48, 48, 48]⟩] w fun e w' => ∃ A n c zs, e = .returned (.slice A n c) ∧ Nu w w' A n c zs (10 ^ 20) := by
  refine (Parse_ok ⟨#[49, 48, 48, 48, 48, 48, 48, 48, 48, 48, 48, 48, 48, 48, 48, 48, 48, 48, 48, 48, 48]⟩ w (by decide) (of_decide_eq_true (by kernel_rfl))).mono ?_
  rintro e w' hR
  rw [show pv ⟨#[49, 48, 48, 48, 48, 48, 48, 48, 48, 48, 48, 48, 48, 48, 48, 48, 48, 48, 48, 48, 48]⟩ (ByteArray.size ⟨#[49, 48, 48, 48, 48, 48, 48, 48, 48, 48, 48, 48, 48, 48, 48, 48, 48, 48, 48, 48, 48]⟩) = 10 ^ 20 by kernel_rfl] at hR
  exact hR.open (Big_of (k := 2) (by decide) (by omega))
theorem Parse_third (w : World) : Calls Tryd.prog 39 #[.string ⟨#[51, 51, 51, 51, 51, 51, 51, 51, 51, 51, 51, 51, 51, 51, 51, 51, 51, 51, 51, 51]⟩] w fun e w' => ∃ A n c zs, e = .returned (.slice A n c) ∧ Nu w w' A n c zs 33333333333333333333 := by
  refine (Parse_ok ⟨#[51, 51, 51, 51, 51, 51, 51, 51, 51, 51, 51, 51, 51, 51, 51, 51, 51, 51, 51, 51]⟩ w (by decide) (of_decide_eq_true (by kernel_rfl))).mono ?_
  rintro e w' hR
  rw [show pv ⟨#[51, 51, 51, 51, 51, 51, 51, 51, 51, 51, 51, 51, 51, 51, 51, 51, 51, 51, 51, 51]⟩ (ByteArray.size ⟨#[51, 51, 51, 51, 51, 51, 51, 51, 51, 51, 51, 51, 51, 51, 51, 51, 51, 51, 51, 51]⟩) = 33333333333333333333 by kernel_rfl] at hR
  exact hR.open (Big_of (k := 2) (by decide) (by omega))
/-- Is of two numbers that are the same -/
theorem Is_two {w w0 w0' : World} {A A' : Option Addr} {n n' c c' x : Nat} {zs zs' : List Nat} (h : Nu w0 w A n c zs x) (h' : Nu w0' w A' n' c' zs' x) :
    Calls Tryd.prog 10 #[.slice A n c, .slice A' n' c'] w fun e w' => e = .returned (.bool true) ∧ Below w.heap.size w w' :=
  Is_ok A A' n n' c c' zs zs' w h.2.2.2.1 h'.2.2.2.1 h.1 h'.1 h.2.1 (by rw [h.2.2.1, h'.2.2.1])
/-- Is of a number and a row -/
theorem Is_row {w w0 : World} {A A' : Option Addr} {n n' c c' x : Nat} {zs zs' : List Nat} (h : Nu w0 w A n c zs x) (h' : Sl w A' n' c' zs') (hn : n' ≤ 4096) (hv : V zs' = x) :
    Calls Tryd.prog 10 #[.slice A n c, .slice A' n' c'] w fun e w' => e = .returned (.bool true) ∧ Below w.heap.size w w' :=
  Is_ok A A' n n' c c' zs zs' w h.2.2.2.1 hn h.1 h' h.2.1 (by rw [h.2.2.1, hv])
theorem Is_square {w w0 : World} {A : Option Addr} {n c : Nat} {zs : List Nat} (h : Nu w0 w A n c zs (18446744073709551615 * 18446744073709551615)) :
    Calls Tryd.prog 10 #[.slice A n c, .slice (some ⟨w.heap.size, 0, none⟩) 2 2] (w.alloc (.cells #[.int .u64 1, .int .u64 18446744073709551614] 24)) fun e w' => e = .returned (.bool true) ∧ Below w.heap.size w w' := by
  have hb : Below w.heap.size w (w.alloc (.cells #[.int .u64 1, .int .u64 18446744073709551614] 24)) := (Below.refl _ _).alloc (Nat.le_refl _) _
  refine (Is_row (h.keep hb) (Sl_two w 1 18446744073709551614 (by decide) (by decide)) (by omega) (by decide)).mono ?_
  rintro e w' ⟨rfl, hbw⟩
  exact ⟨rfl, hb.trans (hbw.mono hb.size)⟩
theorem Is_1 {w w0 : World} {A : Option Addr} {n c : Nat} {zs : List Nat} (h : Nu w0 w A n c zs 1) :
    Calls Tryd.prog 10 #[.slice A n c, .slice (some ⟨w.heap.size, 0, none⟩) 1 1] (w.alloc (.cells #[.int .u64 1] 24)) fun e w' => e = .returned (.bool true) ∧ Below w.heap.size w w' := by
  have hb := W1_below w 1
  refine (Is_row (h.keep hb) (Sl_one w 1 (by decide)) (by omega) (by decide)).mono ?_
  rintro e w' ⟨rfl, hbw⟩
  exact ⟨rfl, hb.trans (hbw.mono hb.size)⟩

set_option maxHeartbeats 4000000 in
theorem nawake_any (w : World) : Calls Tryd.prog 17 #[] w fun e w' => e = .returned (.bool true) ∧ Below w.heap.size w w' := by
  go_enter Tryd.func17, Tryd.ntmps17
  go_wp2_with (fail)
  refine (Pow_ten _).mono ?_
  rintro e w1 ⟨A1, n1, c1, zs1, rfl, h1⟩
  have H1 := Lib.hid h1
  clear h1
  go_wp2_with (fail)
  refine (Square_top _).mono ?_
  rintro e w2 ⟨A2, n2, c2, zs2, rfl, h2⟩
  have H2 := Lib.hid (And.intro (H1.out.keep h2.bel) (h2.from H1.out.bel))
  clear h2 H1
  go_wp2_with (fail)
  refine (DivMod_third _).mono ?_
  rintro e w3 ⟨A3, n3, c3, zs3, A4, n4, c4, zs4, rfl, h3, h4⟩
  have H3 := Lib.hid (And.intro (H2.out.1.keep h3.bel) (And.intro (H2.out.2.keep h3.bel) (And.intro (h3.from H2.out.1.bel) (h4.from H2.out.1.bel))))
  clear h3 h4 H2
  go_wp2_with (fail)
  refine (Sub_below _).mono ?_
  rintro e w4 ⟨rfl, b4⟩
  have H4 := Lib.hid (And.intro (H3.out.1.keep b4) (And.intro (H3.out.2.1.keep b4) (And.intro (H3.out.2.2.1.keep b4) (H3.out.2.2.2.keep b4))))
  clear b4 H3
  go_wp2_with (fail)
  refine (Parse_ten _).mono ?_
  rintro e w5 ⟨A5, n5, c5, zs5, rfl, h5⟩
  have H5 := Lib.hid (And.intro (H4.out.1.keep h5.bel) (And.intro (H4.out.2.1.keep h5.bel) (And.intro (H4.out.2.2.1.keep h5.bel) (And.intro (H4.out.2.2.2.keep h5.bel) h5))))
  clear h5 H4
  go_wp2_with (fail)
  refine (Is_two H5.out.1 H5.out.2.2.2.2).mono ?_
  rintro e w6 ⟨rfl, b6⟩
  have H6 := Lib.hid (And.intro (H5.out.2.1.keep b6) (And.intro (H5.out.2.2.1.keep b6) (H5.out.2.2.2.1.keep b6)))
  clear b6 H5
  go_wp2_with (fail)
  refine (Is_square H6.out.1).mono ?_
  rintro e w7 ⟨rfl, b7⟩
  have H7 := Lib.hid (And.intro (H6.out.2.1.keep b7) (H6.out.2.2.keep b7))
  clear b7 H6
  go_wp2_with (fail)
  refine (Parse_third _).mono ?_
  rintro e w8 ⟨A8, n8, c8, zs8, rfl, h8⟩
  have H8 := Lib.hid (And.intro (H7.out.1.keep h8.bel) (And.intro (H7.out.2.keep h8.bel) h8))
  clear h8 H7
  go_wp2_with (fail)
  refine (Is_two H8.out.1 H8.out.2.2).mono ?_
  rintro e w9 ⟨rfl, b9⟩
  have H9 := Lib.hid (H8.out.2.1.keep b9)
  clear b9 H8
  go_wp2_with (fail)
  refine (Is_1 H9.out).mono ?_
  rintro e w10 ⟨rfl, b10⟩
  have H10 := Lib.hid (H9.out.bel.trans (b10.mono H9.out.bel.size))
  clear b10 H9
  go_wp2_with (fail)
  go_ret
  exact ⟨rfl, H10.out⟩
end Go.Proofs.YtalcikmngglplaaDoor
