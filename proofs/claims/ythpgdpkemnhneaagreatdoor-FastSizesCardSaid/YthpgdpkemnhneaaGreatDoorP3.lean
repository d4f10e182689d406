/- Pieces of the proofs, together: DivM, Shl, Div. -/
import Derived.WalkKit
import Derived.Laws.Bits64b
import Derived.Shelf.Small.Bits
import Derived.Shelf.Strconv.Itoa0
import Derived.Lib.BitFns
import Derived.Deep.DeepCutAuto
import Derived.Deep.CutBlock
import Derived.Test.YthpgdpkemnhneaaGreatDoorP1
import Derived.Test.YthpgdpkemnhneaaGreatDoorP5

namespace Go.Proofs.YthpgdpkemnhneaaGreatDoor
set_option linter.unusedVariables false

section
variable {c u d y y1 y0 q r Q : Nat}

theorem digit_lt (hu : u < y) (hd : d < c) : (u * c + d) / y < c := by
  refine Nat.div_lt_of_lt_mul ?_
  have : (u + 1) * c ≤ y * c := Nat.mul_le_mul_right _ hu
  rw [Nat.add_mul] at this
  omega
theorem digit_start (hy : y = y1 * c + y0) (h0 : 0 < y1) (hd : d < c) : (u * c + d) / y ≤ u / y1 := by
  rw [Nat.le_div_iff_mul_le h0]
  have h1 : (u * c + d) / y * y ≤ u * c + d := Nat.div_mul_le_self _ _
  generalize (u * c + d) / y = Q at *
  subst hy
  have h2 : Q * (y1 * c + y0) = Q * y1 * c + Q * y0 := by grind
  have h3 : Q * y1 * c < (u + 1) * c := by rw [Nat.add_mul]; omega
  have h4 : Q * y1 < u + 1 := Nat.lt_of_mul_lt_mul_right h3
  omega
theorem digit_first (hu : u < y) (hy : y = y1 * c + y0) (h0 : y0 < c) (hc : c ≤ 2 * y1) (h1 : 0 < y1) : u / y1 ≤ c + 1 := by
  refine Nat.le_of_lt_succ (Nat.div_lt_of_lt_mul ?_)
  have : y1 * (c + 2) = y1 * c + 2 * y1 := by grind
  show u < y1 * (c + 2)
  omega
theorem digit_step (hy : y = y1 * c + y0) (hy0 : 0 < y) (hQ : Q = (u * c + d) / y) (hQc : Q < c) (hi : q * y1 + r = u) (hle : Q ≤ q) (hg : c ≤ q ∨ c * r + d < q * y0) : 1 ≤ q ∧ Q ≤ q - 1 := by
  have : Q ≠ q := by
    rintro rfl
    rcases hg with h | h
    · omega
    · have h1 : Q * y ≤ u * c + d := by rw [hQ]; exact Nat.div_mul_le_self _ _
      have h2 : Q * y = Q * y1 * c + Q * y0 := by rw [hy]; grind
      have h3 : u * c = Q * y1 * c + c * r := by rw [← hi]; grind
      omega
  omega
theorem digit_end (hy : y = y1 * c + y0) (hy0 : 0 < y) (hQ : Q = (u * c + d) / y) (hi : q * y1 + r = u) (hle : Q ≤ q) (hg : q * y0 ≤ c * r + d) : q = Q := by
  have : q ≤ Q := by
    rw [hQ, Nat.le_div_iff_mul_le hy0]
    have h2 : q * y = q * y1 * c + q * y0 := by rw [hy]; grind
    have h3 : u * c = q * y1 * c + c * r := by rw [← hi]; grind
    omega
  omega
theorem digit_break (hu : u < y) (hy : y = y1 * c + y0) (h0 : y0 < c) (hy0 : 0 < y) (hQ : Q = (u * c + d) / y) (hi : q * y1 + r = u) (hle : Q ≤ q) (hr : c ≤ r) : q = Q := by
  have h1 : q * y1 < c * y1 := by have : y1 * c = c * y1 := Nat.mul_comm _ _; omega
  have h2 : q < c := Nat.lt_of_mul_lt_mul_right h1
  refine digit_end hy hy0 hQ hi hle ?_
  have h3 : q * y0 ≤ c * c := Nat.mul_le_mul (by omega) (by omega)
  have h4 : c * c ≤ c * r := Nat.mul_le_mul_left _ hr
  omega
theorem digit_rest (hy0 : 0 < y) (hQ : Q = (u * c + d) / y) : Q * y ≤ u * c + d ∧ u * c + d - Q * y < y := by
  have h := Nat.mod_lt (u * c + d) hy0
  have h2 := Nat.div_add_mod (u * c + d) y
  rw [← hQ] at h2
  rw [Nat.mul_comm y Q] at h2
  omega
/-- All that the walk of one loop wants: the step where the test says yes, a break, the end. -/
theorem digit_facts {u y d y1 y0 Q q r : Nat} (hu : u < y) (hy : y = y1 * 4294967296 + y0) (h0 : y0 ≤ 4294967295) (hd : d ≤ 4294967295) (hy0 : 0 < y) (hQ : Q = (u * 4294967296 + d) / y) (hQc : Q < 4294967296) (hi : q * y1 + r = u) (hle : Q ≤ q) :
    (4294967296 ≤ q ∨ 4294967296 * r + d < q * y0 → 1 ≤ q ∧ Q ≤ q - 1 ∧ (q - 1) * y1 + (r + y1) = u ∧ (4294967296 ≤ r + y1 → q - 1 = Q)) ∧ (q * y0 ≤ 4294967296 * r + d → q = Q) := by
  refine ⟨fun hg => ?_, fun hg => digit_end hy hy0 hQ hi hle hg⟩
  obtain ⟨h1, h2⟩ := digit_step hy hy0 hQ hQc hi hle hg
  have h3 : (q - 1) * y1 + (r + y1) = u := by
    rw [Nat.sub_mul]
    have := Nat.le_mul_of_pos_left y1 h1
    omega
  exact ⟨h1, h2, h3, fun hbr => digit_break hu hy (by omega) hy0 hQ h3 h2 hbr⟩
theorem quot_final {N P R0 : Nat} (hP : 0 < P) (h : N * P = q * y * P + R0) (hR : R0 < y * P) : N = q * y + R0 / P ∧ R0 / P < y := by
  have h1 : q * y * P ≤ N * P := by omega
  have h2 : q * y ≤ N := Nat.le_of_mul_le_mul_right h1 hP
  have h3 : R0 = (N - q * y) * P := by rw [Nat.sub_mul]; omega
  have h4 : R0 / P = N - q * y := by rw [h3]; exact Nat.mul_div_cancel _ hP
  exact ⟨by omega, by
    rw [Nat.div_lt_iff_lt_mul hP]
    exact hR⟩
theorem quot_join {N P B l u1 u0 Q0 R R0 yn : Nat} (hB : B = c * c) (h1 : N * P = u * B + l) (h2 : l = u1 * c + u0) (h3 : u * c + u1 = Q * yn + R) (h4 : R * c + u0 = Q0 * yn + R0) (h5 : yn = y * P) :
    N * P = (Q * c + Q0) * y * P + R0 := by
  rw [h1, h2, hB]
  have : u * (c * c) + (u1 * c + u0) = (u * c + u1) * c + u0 := by grind
  rw [this, h3]
  have : (Q * yn + R) * c + u0 = Q * yn * c + (R * c + u0) := by grind
  rw [this, h4, h5]
  grind
end
end Go.Proofs.YthpgdpkemnhneaaGreatDoor

namespace Go.Proofs.YthpgdpkemnhneaaGreatDoor
open Go.RowKit
set_option linter.unusedVariables false

theorem pow_split (s : Nat) (h : s ≤ 63) : 2 ^ s * 2 ^ (64 - s) = B64 := by
  rw [← Nat.pow_add, show s + (64 - s) = 64 by omega]; decide
theorem shl_mod (b x q p : Nat) (hb : p * q = b) : x * p % b = p * (x % q) := by
  subst hb
  rw [Nat.mul_comm x p, Nat.mul_mod_mul_left]
theorem shl_split (b x q p : Nat) (hb : p * q = b) : x * p = x / q * b + x * p % b := by
  rw [shl_mod b x q p hb, ← hb]
  have := Nat.div_add_mod x q
  calc x * p = (q * (x / q) + x % q) * p := by rw [this]
    _ = x / q * (p * q) + p * (x % q) := by grind
theorem shl_or (b x q p s c : Nat) (hb : p * q = b) (hp : p = 2 ^ s) (hc : c < p) : (x * p % b) ||| c = x * p % b + c := by
  rw [shl_mod b x q p hb]
  subst hp
  exact (Nat.two_pow_add_eq_or_of_lt hc _).symm
theorem shl_lt (b x q p c : Nat) (hb : p * q = b) (hc : c < p) (hq : 0 < q) : x * p % b + c < b := by
  rw [shl_mod b x q p hb, ← hb]
  have h1 : x % q < q := Nat.mod_lt _ hq
  have h2 : p * (x % q + 1) ≤ p * q := Nat.mul_le_mul_left _ h1
  rw [Nat.mul_succ] at h2
  omega
theorem shr_lt (b x q p : Nat) (hb : p * q = b) (hx : x < b) : x / q < p := by
  refine Nat.div_lt_of_lt_mul ?_
  rw [Nat.mul_comm, hb]
  exact hx
theorem wrap_u64 (x s : Nat) : IntKind.u64.wrap ((x : Int) * 2 ^ s) = ((x * 2 ^ s % B64 : Nat) : Int) := by
  rw [IntKind.wrap_u64]
  simp [B64]

end Go.Proofs.YthpgdpkemnhneaaGreatDoor

namespace Go.Proofs.YthpgdpkemnhneaaGreatDoor
open Go.RowKit
set_option linter.unusedVariables false

open Go.Shelf in
def lays134_ren : Go.Shelf.Ren := ⟨fun | 134 => 103 | 129 => 106 | n => n, fun | 53 => 44 | 3 => 3 | 4 => 4 | 46 => 43 | 5 => 5 | 9 => 9 | n => n, fun | n => n⟩
theorem lays134 : Go.Proofs.Lays.n134 Tryz.prog lays134_ren := {
  mixed := by kernel_rfl
  f129 := Tryz.func106.trans (congrArg some (by kernel_rfl))
  f134 := Tryz.func103.trans (congrArg some (by kernel_rfl))
  t3 := Tryz.underlying3
  a3 := Tryz.isAgg3
  z3 := Tryz.sizeOf3
  v3 := Tryz.zeroValue3
  t4 := Tryz.underlying4
  a4 := Tryz.isAgg4
  z4 := Tryz.sizeOf4
  v4 := Tryz.zeroValue4
  t5 := Tryz.underlying5
  a5 := Tryz.isAgg5
  z5 := Tryz.sizeOf5
  v5 := Tryz.zeroValue5
  t9 := Tryz.underlying9
  a9 := Tryz.isAgg9
  z9 := Tryz.sizeOf9
  v9 := Tryz.zeroValue9
  t46 := Tryz.underlying43
  a46 := Tryz.isAgg43
  z46 := Tryz.sizeOf43
  v46 := Tryz.zeroValue43
  t53 := Tryz.underlying44
  a53 := Tryz.isAgg44
  z53 := Tryz.sizeOf44
  v53 := Tryz.zeroValue44 }

/-- how far a word is shifted until its highest bit is 1 -/
theorem lz64_any (y : Nat) (h0 : 0 < y) (hy : y < B64) : ∃ s : Nat, (s ≤ 63 ∧ 2 ^ 63 ≤ y * 2 ^ s ∧ y * 2 ^ s < B64) ∧
    ∀ w, Calls Tryz.prog 103 #[.int .u64 y] w fun e w' => e = .returned (.int .i64 (s : Int)) ∧ w = w' := by
  obtain ⟨a, b, c⟩ := bitLenAux_spec 64 y hy
  obtain ⟨b1, b2⟩ := b h0
  refine ⟨64 - Lib.bitLenAux 64 y, ⟨by omega, ?_, ?_⟩, fun w => ?_⟩
  · calc 2 ^ 63 = 2 ^ (Lib.bitLenAux 64 y - 1) * 2 ^ (64 - Lib.bitLenAux 64 y) := by rw [← Nat.pow_add]; congr 1; omega
      _ ≤ _ := Nat.mul_le_mul_right _ b2
  · have : B64 = 2 ^ Lib.bitLenAux 64 y * 2 ^ (64 - Lib.bitLenAux 64 y) := by rw [← Nat.pow_add, show Lib.bitLenAux 64 y + (64 - Lib.bitLenAux 64 y) = 64 by omega]; rfl
    rw [this]
    exact Nat.mul_lt_mul_of_pos_right a (Nat.pow_pos (by decide))
  · refine (Any.bits_LeadingZeros64 lays134 (y : Int) w (by omega) (by have : B64 = 18446744073709551616 := rfl; omega)).mono fun e w' h => ⟨?_, h.2.symm⟩
    rw [h.1, Int.toNat_natCast, show (64 - (Lib.bitLen y : Int)) = ((64 - Lib.bitLenAux 64 y : Nat) : Int) by unfold Lib.bitLen; omega]

theorem and_mask (x : Nat) (hx : x < B64) : bits BinOp.and IntKind.u64 (x : Int) 4294967295 = ((x % 4294967296 : Nat) : Int) := by
  have := bits_and_u64_nat x 4294967295 hx (by decide)
  rw [show ((4294967295 : Nat) : Int) = 4294967295 from rfl] at this
  rw [this, show (4294967295 : Nat) = 2 ^ 32 - 1 from rfl, Nat.and_two_pow_sub_one_eq_mod]

theorem wrap_nat (n : Nat) (h : n < B64) : IntKind.u64.wrap (n : Int) = n := by
  rw [IntKind.wrap_u64]
  have : B64 = 18446744073709551616 := rfl
  omega
theorem wrap_shl (x s n : Nat) (h : x * 2 ^ s % B64 = n) : IntKind.u64.wrap ((x : Int) * 2 ^ s) = (n : Int) := by rw [wrap_u64, h]
theorem wrap_mul (x y n : Nat) (h : x * y = n) (hn : n < B64) : IntKind.u64.wrap ((x : Int) * (y : Int)) = (n : Int) := by
  rw [← Int.natCast_mul, h]
  exact wrap_nat n hn
theorem wrap_rest (u d t R : Nat) (h : u * 4294967296 + d = t + R) (hR : R < B64) :
    IntKind.u64.wrap (IntKind.u64.wrap (IntKind.u64.wrap ((u : Int) * 4294967296) + (d : Int)) - IntKind.u64.wrap (t : Int)) = (R : Int) := by
  simp only [IntKind.wrap_u64]
  have : B64 = 18446744073709551616 := rfl
  omega
theorem shl_word (hi lo s : Nat) (hs : s ≤ 63) (hlo : lo < B64) (hh : hi * 2 ^ s < B64) :
    bits BinOp.or IntKind.u64 ((hi * 2 ^ s : Nat) : Int) ((lo : Int) / 2 ^ (64 - s)) = ((hi * 2 ^ s + lo / 2 ^ (64 - s) : Nat) : Int) ∧ (hi * B64 + lo) * 2 ^ s = (hi * 2 ^ s + lo / 2 ^ (64 - s)) * B64 + lo * 2 ^ s % B64 := by
  have hp := pow_split s hs
  have hd : lo / 2 ^ (64 - s) < 2 ^ s := shr_lt B64 lo _ _ hp hlo
  have hdB : lo / 2 ^ (64 - s) < B64 := Nat.lt_of_le_of_lt (Nat.div_le_self _ _) hlo
  constructor
  · rw [show ((lo : Int) / 2 ^ (64 - s)) = ((lo / 2 ^ (64 - s) : Nat) : Int) by simp, bits_or_u64_nat _ _ hh hdB, Nat.mul_comm hi, ← Nat.two_pow_add_eq_or_of_lt hd]
  · have := shl_split B64 lo _ _ hp
    generalize lo * 2 ^ s % B64 = m at *
    generalize lo / 2 ^ (64 - s) = d at *
    rw [Nat.add_mul, this]
    generalize B64 = b
    generalize 2 ^ s = p
    grind

set_option maxRecDepth 100000 in
set_option maxHeartbeats 1600000 in
theorem div64_pos (hi lo y : Nat) (h0 : 0 < hi) (h1 : hi < y) (hlo : lo < B64) (hy : y < B64) : ∃ q r : Nat, (hi * B64 + lo = q * y + r ∧ r < y ∧ q < B64) ∧
    ∀ w, Calls Tryz.prog 93 #[.int .u64 hi, .int .u64 lo, .int .u64 y] w fun e w' => e = .returned (.tuple #[.int .u64 (q : Int), .int .u64 (r : Int)]) ∧ w = w' := by
  obtain ⟨s, hs, hcall⟩ := lz64_any y (by omega) hy
  have hP : 0 < 2 ^ s := Nat.pow_pos (by decide)
  have hhi : hi * 2 ^ s < B64 := Nat.lt_of_le_of_lt (Nat.mul_le_mul_right _ (by omega)) hs.2.2
  obtain ⟨hor, hN⟩ := shl_word hi lo s hs.1 hlo hhi
  obtain ⟨yn, hyn⟩ : ∃ yn : Nat, yn = y * 2 ^ s := ⟨_, rfl⟩
  obtain ⟨l, hl⟩ : ∃ l : Nat, l = lo * 2 ^ s % B64 := ⟨_, rfl⟩
  obtain ⟨h, hh⟩ : ∃ h : Nat, h = hi * 2 ^ s := ⟨_, rfl⟩
  obtain ⟨u, hu⟩ : ∃ u : Nat, u = hi * 2 ^ s + lo / 2 ^ (64 - s) := ⟨_, rfl⟩
  obtain ⟨y1, hy1⟩ : ∃ y1 : Nat, y1 = yn / 4294967296 := ⟨_, rfl⟩
  obtain ⟨y0, hy0⟩ : ∃ y0 : Nat, y0 = yn % 4294967296 := ⟨_, rfl⟩
  obtain ⟨u1, hu1⟩ : ∃ u1 : Nat, u1 = l / 4294967296 := ⟨_, rfl⟩
  obtain ⟨u0, hu0⟩ : ∃ u0 : Nat, u0 = l % 4294967296 := ⟨_, rfl⟩
  rw [← hh] at hor hN hu
  rw [← hu] at hor hN
  rw [← hl] at hN
  have hBv : B64 = 18446744073709551616 := rfl
  have hlB : l < B64 := by rw [hl]; exact Nat.mod_lt _ (by decide)
  have hynB : yn < B64 := by rw [hyn]; exact hs.2.2
  have hynG : 2 ^ 63 ≤ yn := by rw [hyn]; exact hs.2.1
  have N1 : 2147483648 ≤ y1 := by omega
  have N2 : y1 ≤ 4294967295 := by omega
  have N3 : y0 ≤ 4294967295 := by omega
  have N4 : u1 ≤ 4294967295 := by omega
  have N5 : u0 ≤ 4294967295 := by omega
  have hyy : yn = y1 * 4294967296 + y0 := by omega
  have huy : u < yn := by
    have g1 : (hi * B64 + lo) * 2 ^ s < y * B64 * 2 ^ s := Nat.mul_lt_mul_of_pos_right (by have := Nat.mul_le_mul_right B64 h1; rw [Nat.succ_mul] at this; omega) hP
    have g2 : u * B64 < yn * B64 := by
      have : y * B64 * 2 ^ s = yn * B64 := by rw [hyn]; generalize B64 = b; grind
      omega
    exact Nat.lt_of_mul_lt_mul_right g2
  obtain ⟨Q, hQ⟩ : ∃ Q : Nat, Q = (u * 4294967296 + u1) / yn := ⟨_, rfl⟩
  have hQc : Q < 4294967296 := by rw [hQ]; exact digit_lt huy (by omega)
  obtain ⟨hr1, hr2⟩ := digit_rest (show 0 < yn by omega) hQ
  obtain ⟨R, hR⟩ : ∃ R : Nat, R = u * 4294967296 + u1 - Q * yn := ⟨_, rfl⟩
  rw [← hR] at hr2
  have hj3 : u * 4294967296 + u1 = Q * yn + R := by rw [hR]; exact (Nat.add_sub_cancel' hr1).symm
  obtain ⟨Q0, hQ0⟩ : ∃ Q0 : Nat, Q0 = (R * 4294967296 + u0) / yn := ⟨_, rfl⟩
  have hQ0c : Q0 < 4294967296 := by rw [hQ0]; exact digit_lt hr2 (by omega)
  obtain ⟨ht1, ht2⟩ := digit_rest (show 0 < yn by omega) hQ0
  obtain ⟨R0, hR0⟩ : ∃ R0 : Nat, R0 = R * 4294967296 + u0 - Q0 * yn := ⟨_, rfl⟩
  rw [← hR0] at ht2
  have hj4 : R * 4294967296 + u0 = Q0 * yn + R0 := by rw [hR0]; exact (Nat.add_sub_cancel' ht1).symm
  have hl10 : l = u1 * 4294967296 + u0 := by omega
  have hBB : B64 = 4294967296 * 4294967296 := by decide
  have hjoin := quot_join (B := B64) hBB hN hl10 hj3 hj4 hyn
  obtain ⟨hf1, hf2⟩ := quot_final hP hjoin (by rw [← hyn]; exact ht2)
  have hqB : Q * 4294967296 + Q0 < B64 := by omega
  refine ⟨Q * 4294967296 + Q0, R0 / 2 ^ s, ⟨hf1, hf2, hqB⟩, fun w => ?_⟩
  have E1 : IntKind.u64.wrap ((y : Int) * 2 ^ s) = (yn : Int) := wrap_shl _ _ _ (by rw [← hyn]; exact Nat.mod_eq_of_lt hynB)
  have E2 : (yn : Int) / 4294967296 = (y1 : Int) := by omega
  have E3 : bits BinOp.and IntKind.u64 (yn : Int) 4294967295 = (y0 : Int) := by rw [and_mask _ hynB, hy0]
  have E4 : IntKind.u64.wrap ((hi : Int) * 2 ^ s) = (h : Int) := wrap_shl _ _ _ (by rw [← hh]; exact Nat.mod_eq_of_lt (by rw [hh]; exact hhi))
  have E6 : IntKind.u64.wrap ((lo : Int) * 2 ^ s) = (l : Int) := wrap_shl _ _ _ hl.symm
  have E7 : (l : Int) / 4294967296 = (u1 : Int) := by omega
  have E8 : bits BinOp.and IntKind.u64 (l : Int) 4294967295 = (u0 : Int) := by rw [and_mask _ hlB, hu0]
  obtain ⟨q1, hq1⟩ : ∃ q1 : Nat, q1 = u / y1 := ⟨_, rfl⟩
  obtain ⟨m1, hm1⟩ : ∃ m1 : Nat, m1 = q1 * y1 := ⟨_, rfl⟩
  have hm1u : m1 ≤ u := by rw [hm1, hq1]; exact Nat.div_mul_le_self _ _
  obtain ⟨r1, hrr1⟩ : ∃ r1 : Nat, r1 = u - m1 := ⟨_, rfl⟩
  have hr1y : r1 < y1 := by
    have g1 := Nat.mod_lt u (show y1 > 0 by omega)
    have g2 := Nat.div_add_mod u y1
    rw [← hq1, Nat.mul_comm, ← hm1] at g2
    omega
  have hq1c : q1 ≤ 4294967297 := by rw [hq1]; exact digit_first huy hyy (by omega) (by omega) (by omega)
  have hQq : Q ≤ q1 := by rw [hQ, hq1]; exact digit_start hyy (by omega) (by omega)
  have E9 : (u : Int) / (y1 : Int) = (q1 : Int) := by rw [hq1]; simp
  have E10 : IntKind.u64.wrap ((q1 : Int) * (y1 : Int)) = (m1 : Int) := wrap_mul _ _ _ hm1.symm (by omega)
  have E11 : (u : Int) - (m1 : Int) = (r1 : Int) := by omega
  have Hi1 := Lib.hid (show q1 * y1 + r1 = u by omega)
  have uB : (u : Int) ≤ 18446744073709551615 := by omega
  -- the second digit
  obtain ⟨q2, hq2⟩ : ∃ q2 : Nat, q2 = R / y1 := ⟨_, rfl⟩
  obtain ⟨m2, hm2⟩ : ∃ m2 : Nat, m2 = q2 * y1 := ⟨_, rfl⟩
  have hm2u : m2 ≤ R := by rw [hm2, hq2]; exact Nat.div_mul_le_self _ _
  obtain ⟨r2, hrr2⟩ : ∃ r2 : Nat, r2 = R - m2 := ⟨_, rfl⟩
  have hr2y : r2 < y1 := by
    have g1 := Nat.mod_lt R (show y1 > 0 by omega)
    have g2 := Nat.div_add_mod R y1
    rw [← hq2, Nat.mul_comm, ← hm2] at g2
    omega
  have hq2c : q2 ≤ 4294967297 := by rw [hq2]; exact digit_first hr2 hyy (by omega) (by omega) (by omega)
  have hQq2 : Q0 ≤ q2 := by rw [hQ0, hq2]; exact digit_start hyy (by omega) (by omega)
  obtain ⟨t1, htt1⟩ : ∃ t1 : Nat, t1 = Q * yn := ⟨_, rfl⟩
  obtain ⟨t2, htt2⟩ : ∃ t2 : Nat, t2 = Q0 * yn := ⟨_, rfl⟩
  have F0 : ((Q : Int) * (yn : Int)) = (t1 : Int) := by rw [htt1]; simp
  have F1 : IntKind.u64.wrap (IntKind.u64.wrap (IntKind.u64.wrap ((u : Int) * 4294967296) + (u1 : Int)) - IntKind.u64.wrap (t1 : Int)) = (R : Int) := wrap_rest u u1 t1 R (by rw [htt1]; exact hj3) (Nat.lt_trans hr2 hynB)
  have F9 : (R : Int) / (y1 : Int) = (q2 : Int) := by rw [hq2]; simp
  have F10 : IntKind.u64.wrap ((q2 : Int) * (y1 : Int)) = (m2 : Int) := wrap_mul _ _ _ hm2.symm (by omega)
  have F11 : (R : Int) - (m2 : Int) = (r2 : Int) := by omega
  have Hi2 := Lib.hid (show q2 * y1 + r2 = R by omega)
  have G0 : ((Q0 : Int) * (yn : Int)) = (t2 : Int) := by rw [htt2]; simp
  have G1 : IntKind.u64.wrap (IntKind.u64.wrap (IntKind.u64.wrap ((R : Int) * 4294967296) + (u0 : Int)) - IntKind.u64.wrap (t2 : Int)) = (R0 : Int) := wrap_rest R u0 t2 R0 (by rw [htt2]; exact hj4) (Nat.lt_trans ht2 hynB)
  have RB : (R : Int) ≤ 18446744073709551615 := by omega
  have Hfin := Lib.hid (show ((Q * 4294967296 + Q0 : Nat) : Int) = (Q : Int) * 4294967296 + Q0 ∧ ((R0 / 2 ^ s : Nat) : Int) = (R0 : Int) / 2 ^ s by constructor; omega; simp)
  have Hm := Lib.hid (And.intro huy (And.intro hyy (And.intro hQ (And.intro hr2 (And.intro hQ0 (show 0 < yn by omega))))))
  have e1 : ((y : Int) == 0) = false := by simp; omega
  have e3 : ((hi : Int) == 0) = false := by simp; omega
  have hs63 := hs.1
  have Hc := Lib.hid hcall
  clear hcall hs hyn hl hh hy1 hy0 hu1 hu0 hu hN hhi hP hBv hlB hynB hynG hyy huy hQ hr1 hr2 hR hj3 hQ0 ht1 ht2 hR0 hj4 hf1 hf2 hqB hq1 hm1 hrr1 hq2 hm2 hrr2 htt1 htt2 hl10 hBB hjoin hlo hy
  go_enter Tryz.func93, Tryz.ntmps93
  have B0 : (4294967296 : Int) * 4294967295 + 4294967295 ≤ 18446744073709551615 := by decide
  go_upto_block 0 with (go_at_call 103; refine (Hc.out _).mono ?_; rintro e w' ⟨rfl, rfl⟩)
  go_cut [15, 16] (fun a _ wx => a = .int .u64 (Q : Int) ∧ w = wx)
  case first =>
    clear E1 E2 E3 E4 E6 E7 E8 E9 E10 E11 e1 e3 F0 F1 F9 F10 F11 G0 G1 Hi2 Hfin hQ0c hq2c hm2u hr2y hQq2 RB hor
    go_wp2
    go_loop [15, 16] (fun a b => ∃ q r : Nat, a = .int .u64 q ∧ b = .int .u64 r ∧ r ≤ 4294967295 ∧ q ≤ 4294967297 ∧ Q ≤ q ∧ Hid (q * y1 + r = u)) (fun a _ => (intOf a).toNat)
    case atStart => exact ⟨q1, r1, rfl, rfl, by omega, by omega, hQq, Hi1.out⟩
    case round =>
      clear hQq Hi1
      obtain ⟨q, r, rfl, rfl, hr, hq, hQq, hi⟩ := hrel
      obtain ⟨hs2, hend⟩ := digit_facts Hm.out.1 Hm.out.2.1 N3 N4 Hm.out.2.2.2.2.2 Hm.out.2.2.1 hQc hi.out hQq
      obtain ⟨q', hq'⟩ : ∃ q' : Nat, q' = q - 1 := ⟨_, rfl⟩
      obtain ⟨r', hr'⟩ : ∃ r' : Nat, r' = r + y1 := ⟨_, rfl⟩
      obtain ⟨p, hp⟩ : ∃ p : Nat, p = q * y0 := ⟨_, rfl⟩
      obtain ⟨k, hk⟩ : ∃ k : Nat, k = 4294967296 * r + u1 := ⟨_, rfl⟩
      rw [← hp, ← hk, ← hq', ← hr'] at hs2
      rw [← hp, ← hk] at hend
      have hpB : q ≤ 4294967295 → p ≤ 4294967295 * 4294967295 := fun h => by rw [hp]; exact Nat.mul_le_mul h N3
      have D1 : (r : Int) + (y1 : Int) = (r' : Int) := by omega
      have EK : 4294967296 * (r : Int) + (u1 : Int) = (k : Int) := by omega
      have EP : (q : Int) * (y0 : Int) = (p : Int) := by rw [hp]; simp
      have B1 : (r : Int) ≤ 4294967295 := by omega
      have B2 : (u1 : Int) ≤ 4294967295 := by omega
      have B3 : (r' : Int) ≤ 8589934590 := by omega
      have B4 : (k : Int) ≤ 18446744073709551615 := by omega
      have B5 : (q : Int) ≤ 4294967297 := by omega
      by_cases hyes : 4294967296 ≤ q ∨ k < p
      · obtain ⟨g1, g2, g3, g4⟩ := hs2 hyes
        have D2 : (q : Int) - 1 = (q' : Int) := by omega
        have B6 : (q' : Int) ≤ 4294967297 := by omega
        have Hk := Lib.hid (And.intro g2 (And.intro (show q' ≤ 4294967297 by omega) (show q' < q by omega)))
        have Hu := Lib.hid g3
        by_cases hbr : 4294967296 ≤ r'
        · have T2 : decide ((4294967296 : Int) ≤ (r' : Int)) = true := by simp; omega
          have HQ := Lib.hid (g4 hbr)
          by_cases hbig : 4294967296 ≤ q
          · have T1 : decide ((4294967296 : Int) ≤ (q : Int)) = true := by simp; omega
            clear hs2 hend hq' hr' hp hk hpB hr hq hQq hyes g1 g2 g3 g4 hbr hbig N1 N2 N3 N4 N5 hQc hq1c hm1u hr1y uB
            go_wp2
            go_meet
            exact ⟨by rw [← HQ.out], rfl⟩
          · have T1 : decide ((4294967296 : Int) ≤ (q : Int)) = false := by simp; omega
            have T3 : k < p := by omega
            have B7 : (p : Int) ≤ 18446744073709551615 := by have := hpB (by omega); omega
            clear hs2 hend hq' hr' hp hk hpB hr hq hQq hyes g1 g2 g3 g4 hbr hbig N1 N2 N3 N4 N5 hQc hq1c hm1u hr1y uB
            go_wp2
            go_meet
            exact ⟨by rw [← HQ.out], rfl⟩
        · have T2 : decide ((4294967296 : Int) ≤ (r' : Int)) = false := by simp; omega
          have Hr := Lib.hid (show r' ≤ 4294967295 by omega)
          by_cases hbig : 4294967296 ≤ q
          · have T1 : decide ((4294967296 : Int) ≤ (q : Int)) = true := by simp; omega
            clear hs2 hend hq' hr' hp hk hpB hr hq hQq hyes g1 g2 g3 g4 hbr hbig N1 N2 N3 N4 N5 hQc hq1c hm1u hr1y uB
            go_wp2
            go_round
            case rel => exact ⟨q', r', rfl, rfl, Hr.out, Hk.out.2.1, Hk.out.1, Hu.out⟩
            case measure => have := Hk.out.2.2; simp [intOf]; omega
          · have T1 : decide ((4294967296 : Int) ≤ (q : Int)) = false := by simp; omega
            have T3 : k < p := by omega
            have B7 : (p : Int) ≤ 18446744073709551615 := by have := hpB (by omega); omega
            clear hs2 hend hq' hr' hp hk hpB hr hq hQq hyes g1 g2 g3 g4 hbr hbig N1 N2 N3 N4 N5 hQc hq1c hm1u hr1y uB
            go_wp2
            go_round
            case rel => exact ⟨q', r', rfl, rfl, Hr.out, Hk.out.2.1, Hk.out.1, Hu.out⟩
            case measure => have := Hk.out.2.2; simp [intOf]; omega
      · have T1 : decide ((4294967296 : Int) ≤ (q : Int)) = false := by simp; omega
        have T3 : ¬ k < p := by omega
        have B7 : (p : Int) ≤ 18446744073709551615 := by have := hpB (by omega); omega
        have HQ := Lib.hid (hend (by omega))
        clear hs2 hend hq' hr' hp hk hpB hr hq hQq hyes N1 N2 N3 N4 N5 hQc hq1c hm1u hr1y uB
        go_wp2
        go_meet
        exact ⟨by rw [← HQ.out], rfl⟩
  case rest =>
    obtain ⟨rfl, rfl⟩ := hcut
    have C1 : (Q : Int) ≤ 4294967295 := by omega
    have C2 : (Q0 : Int) ≤ 4294967295 := by omega
    go_upto_block 2 with (fail)
    go_cut [18, 16] (fun a _ wx => a = .int .u64 (Q0 : Int) ∧ w = wx)
    case first =>
      clear E1 E2 E3 E4 E6 E7 E8 E9 E10 E11 F0 F1 F9 F10 F11 G0 G1 Hi1 Hfin hQc hq1c hm1u hr1y hQq uB hor
      go_wp2
      go_loop [18, 16] (fun a b => ∃ q r : Nat, a = .int .u64 q ∧ b = .int .u64 r ∧ r ≤ 4294967295 ∧ q ≤ 4294967297 ∧ Q0 ≤ q ∧ Hid (q * y1 + r = R)) (fun a _ => (intOf a).toNat)
      case atStart => exact ⟨q2, r2, rfl, rfl, by omega, by omega, hQq2, Hi2.out⟩
      case round =>
        clear hQq2 Hi2
        obtain ⟨q, r, rfl, rfl, hr, hq, hQq, hi⟩ := hrel
        obtain ⟨hs2, hend⟩ := digit_facts Hm.out.2.2.2.1 Hm.out.2.1 N3 N5 Hm.out.2.2.2.2.2 Hm.out.2.2.2.2.1 hQ0c hi.out hQq
        obtain ⟨q', hq'⟩ : ∃ q' : Nat, q' = q - 1 := ⟨_, rfl⟩
        obtain ⟨r', hr'⟩ : ∃ r' : Nat, r' = r + y1 := ⟨_, rfl⟩
        obtain ⟨p, hp⟩ : ∃ p : Nat, p = q * y0 := ⟨_, rfl⟩
        obtain ⟨k, hk⟩ : ∃ k : Nat, k = 4294967296 * r + u0 := ⟨_, rfl⟩
        rw [← hp, ← hk, ← hq', ← hr'] at hs2
        rw [← hp, ← hk] at hend
        have hpB : q ≤ 4294967295 → p ≤ 4294967295 * 4294967295 := fun h => by rw [hp]; exact Nat.mul_le_mul h N3
        have D1 : (r : Int) + (y1 : Int) = (r' : Int) := by omega
        have EK : 4294967296 * (r : Int) + (u0 : Int) = (k : Int) := by omega
        have EP : (q : Int) * (y0 : Int) = (p : Int) := by rw [hp]; simp
        have B1 : (r : Int) ≤ 4294967295 := by omega
        have B2 : (u0 : Int) ≤ 4294967295 := by omega
        have B3 : (r' : Int) ≤ 8589934590 := by omega
        have B4 : (k : Int) ≤ 18446744073709551615 := by omega
        have B5 : (q : Int) ≤ 4294967297 := by omega
        by_cases hyes : 4294967296 ≤ q ∨ k < p
        · obtain ⟨g1, g2, g3, g4⟩ := hs2 hyes
          have D2 : (q : Int) - 1 = (q' : Int) := by omega
          have B6 : (q' : Int) ≤ 4294967297 := by omega
          have Hk := Lib.hid (And.intro g2 (And.intro (show q' ≤ 4294967297 by omega) (show q' < q by omega)))
          have Hu := Lib.hid g3
          by_cases hbr : 4294967296 ≤ r'
          · have T2 : decide ((4294967296 : Int) ≤ (r' : Int)) = true := by simp; omega
            have HQ := Lib.hid (g4 hbr)
            by_cases hbig : 4294967296 ≤ q
            · have T1 : decide ((4294967296 : Int) ≤ (q : Int)) = true := by simp; omega
              clear hs2 hend hq' hr' hp hk hpB hr hq hQq hyes g1 g2 g3 g4 hbr hbig N1 N2 N3 N4 N5 hQ0c hq2c hm2u hr2y RB
              go_wp2
              go_meet
              exact ⟨by rw [← HQ.out], rfl⟩
            · have T1 : decide ((4294967296 : Int) ≤ (q : Int)) = false := by simp; omega
              have T3 : k < p := by omega
              have B7 : (p : Int) ≤ 18446744073709551615 := by have := hpB (by omega); omega
              clear hs2 hend hq' hr' hp hk hpB hr hq hQq hyes g1 g2 g3 g4 hbr hbig N1 N2 N3 N4 N5 hQ0c hq2c hm2u hr2y RB
              go_wp2
              go_meet
              exact ⟨by rw [← HQ.out], rfl⟩
          · have T2 : decide ((4294967296 : Int) ≤ (r' : Int)) = false := by simp; omega
            have Hr := Lib.hid (show r' ≤ 4294967295 by omega)
            by_cases hbig : 4294967296 ≤ q
            · have T1 : decide ((4294967296 : Int) ≤ (q : Int)) = true := by simp; omega
              clear hs2 hend hq' hr' hp hk hpB hr hq hQq hyes g1 g2 g3 g4 hbr hbig N1 N2 N3 N4 N5 hQ0c hq2c hm2u hr2y RB
              go_wp2
              go_round
              case rel => exact ⟨q', r', rfl, rfl, Hr.out, Hk.out.2.1, Hk.out.1, Hu.out⟩
              case measure => have := Hk.out.2.2; simp [intOf]; omega
            · have T1 : decide ((4294967296 : Int) ≤ (q : Int)) = false := by simp; omega
              have T3 : k < p := by omega
              have B7 : (p : Int) ≤ 18446744073709551615 := by have := hpB (by omega); omega
              clear hs2 hend hq' hr' hp hk hpB hr hq hQq hyes g1 g2 g3 g4 hbr hbig N1 N2 N3 N4 N5 hQ0c hq2c hm2u hr2y RB
              go_wp2
              go_round
              case rel => exact ⟨q', r', rfl, rfl, Hr.out, Hk.out.2.1, Hk.out.1, Hu.out⟩
              case measure => have := Hk.out.2.2; simp [intOf]; omega
        · have T1 : decide ((4294967296 : Int) ≤ (q : Int)) = false := by simp; omega
          have T3 : ¬ k < p := by omega
          have B7 : (p : Int) ≤ 18446744073709551615 := by have := hpB (by omega); omega
          have HQ := Lib.hid (hend (by omega))
          clear hs2 hend hq' hr' hp hk hpB hr hq hQq hyes N1 N2 N3 N4 N5 hQ0c hq2c hm2u hr2y RB
          go_wp2
          go_meet
          exact ⟨by rw [← HQ.out], rfl⟩
    case rest =>
      obtain ⟨rfl, rfl⟩ := hcut
      clear E1 E2 E3 E4 E6 E7 E8 E9 E10 E11 F1 F9 F10 F11 hQc hQ0c hq1c hq2c N1 N2 N3 N4 N5 hm1u hm2u hr1y hr2y hQq hQq2 Hi1 Hi2
      go_wp2
      go_ret2
      rw [Hfin.out.1, Hfin.out.2]
      exact ⟨rfl, rfl⟩

set_option maxRecDepth 100000 in
set_option maxHeartbeats 400000 in
theorem div64_zero (lo y : Nat) (h1 : 0 < y) (hlo : lo < B64) : 
    ∀ w, Calls Tryz.prog 93 #[.int .u64 0, .int .u64 lo, .int .u64 y] w fun e w' => e = .returned (.tuple #[.int .u64 ((lo / y : Nat) : Int), .int .u64 ((lo % y : Nat) : Int)]) ∧ ∃ n, w' = w.drewN n := by
  intro w
  have e1 : ((y : Int) == 0) = false := by simp; omega
  have e2 : (1 : Int) ≤ (y : Int) := by omega
  obtain ⟨q, hq⟩ : ∃ q : Nat, q = lo / y := ⟨_, rfl⟩
  obtain ⟨r, hr⟩ : ∃ r : Nat, r = lo % y := ⟨_, rfl⟩
  have hqB : q < B64 := Nat.lt_of_le_of_lt (by rw [hq]; exact Nat.div_le_self _ _) hlo
  have hrB : r < B64 := Nat.lt_of_le_of_lt (by rw [hr]; exact Nat.mod_le _ _) hlo
  have E1 : (lo : Int) / (y : Int) = (q : Int) := by rw [hq]; simp
  have E2 : (lo : Int) % (y : Int) = (r : Int) := by rw [hr]; simp
  have E3 : IntKind.u64.wrap (q : Int) = (q : Int) := wrap_nat q hqB
  have E4 : IntKind.u64.wrap (r : Int) = (r : Int) := wrap_nat r hrB
  rw [← hq, ← hr]
  clear hq hr hqB hrB hlo
  go_enter Tryz.func93, Tryz.ntmps93
  go_wp2
  go_quiet (fail)
  go_wp2
  go_ret2
  exact ⟨by rw [← E2]; rfl, _, rfl⟩

/-- bits.Div64 where the quotient is a word. -/
theorem div64_any (hi lo y : Nat) (h1 : hi < y) (hlo : lo < B64) (hy : y < B64) : ∃ q r : Nat, (hi * B64 + lo = q * y + r ∧ r < y ∧ q < B64) ∧
    ∀ w, Calls Tryz.prog 93 #[.int .u64 hi, .int .u64 lo, .int .u64 y] w fun e w' => e = .returned (.tuple #[.int .u64 (q : Int), .int .u64 (r : Int)]) ∧ ∃ n, w' = w.drewN n := by
  rcases Nat.eq_zero_or_pos hi with h0 | h0
  · subst h0
    refine ⟨lo / y, lo % y, ⟨?_, Nat.mod_lt _ h1, Nat.lt_of_le_of_lt (Nat.div_le_self _ _) hlo⟩, div64_zero lo y h1 hlo⟩
    have := Nat.div_add_mod lo y
    rw [Nat.mul_comm] at this
    omega
  · obtain ⟨q, r, h, hc⟩ := div64_pos hi lo y h0 h1 hlo hy
    exact ⟨q, r, h, fun w => (hc w).mono fun e w' hh => ⟨hh.1, 0, by rw [← hh.2]; rfl⟩⟩
end Go.Proofs.YthpgdpkemnhneaaGreatDoor
