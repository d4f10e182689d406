/- What the law WordsInverses asks of words. -/
import Derived.Test.YtnhoodpglbjhhaaByRecW
import Derived.Test.YtnhoodpglbjhhaaRInv
namespace Go.Proofs.Ytnhoodpglbjhhaa
open Go.RowKit
set_option linter.unusedVariables false

theorem bit_toNat (d : Nat) (hd : d < B64) : (BitVec.ofInt 64 (d : Int)).toNat = d := by
  have hB : B64 = 18446744073709551616 := rfl
  rw [BitVec.ofInt_natCast, BitVec.toNat_ofNat]
  exact Nat.mod_eq_of_lt (by omega)
/-- another word -/
theorem other_word (r : Nat) (hr : r < B64) : ∃ r' : Nat, bits BinOp.xor IntKind.u64 (r : Int) 1 = (r' : Int) ∧ r' < B64 ∧ r' ≠ r := by
  have hB : B64 = 18446744073709551616 := rfl
  refine ⟨r ^^^ 1, ?_, ?_, ?_⟩
  · show IntKind.u64.wrap ((BitVec.ofInt 64 (r : Int) ^^^ BitVec.ofInt 64 1).toNat : Int) = _
    rw [BitVec.toNat_xor, bit_toNat r hr, show (BitVec.ofInt 64 1).toNat = 1 from rfl]
    have : r ^^^ 1 < 2 ^ 64 := Nat.xor_lt_two_pow (by omega) (by decide)
    rw [IntKind.wrap_u64]
    omega
  · have : r ^^^ 1 < 2 ^ 64 := Nat.xor_lt_two_pow (by omega) (by decide)
    omega
  · intro h
    have h1 := congrArg (fun x => Nat.testBit x 0) h
    simp at h1
    omega
/-- a high word -/
theorem high_word (w : Nat) (hw : w < B64) : ∃ w' : Nat, bits BinOp.or IntKind.u64 (bits BinOp.or IntKind.u64 (w : Int) 1) 9223372036854775808 = (w' : Int) ∧ w' < B64 ∧ 0 < w' := by
  have hB : B64 = 18446744073709551616 := rfl
  have h0 : w ||| 1 < 2 ^ 64 := Nat.or_lt_two_pow (by omega) (by decide)
  have h1 : (w ||| 1) ||| 9223372036854775808 < 2 ^ 64 := Nat.or_lt_two_pow h0 (by decide)
  have e1 : bits BinOp.or IntKind.u64 (w : Int) 1 = ((w ||| 1 : Nat) : Int) := by
    show IntKind.u64.wrap ((BitVec.ofInt 64 (w : Int) ||| BitVec.ofInt 64 1).toNat : Int) = _
    rw [BitVec.toNat_or, bit_toNat w hw, show (BitVec.ofInt 64 1).toNat = 1 from rfl, IntKind.wrap_u64]
    omega
  refine ⟨(w ||| 1) ||| 9223372036854775808, ?_, by omega, ?_⟩
  · rw [e1]
    show IntKind.u64.wrap ((BitVec.ofInt 64 ((w ||| 1 : Nat) : Int) ||| BitVec.ofInt 64 9223372036854775808).toNat : Int) = _
    rw [BitVec.toNat_or, bit_toNat _ (by omega), show (BitVec.ofInt 64 9223372036854775808).toNat = 9223372036854775808 from rfl, IntKind.wrap_u64]
    omega
  · have := @Nat.right_le_or (w ||| 1) 9223372036854775808
    omega
theorem isRec_uniq {d v r : Nat} (h1 : IsRec d v) (h2 : IsRec d r) : v = r := by
  obtain ⟨x, hx, e1⟩ := h1
  obtain ⟨y, hy, e2⟩ := h2
  exact (recip_uniq e1 hx e2 hy).1
theorem inv_uniq {w v v' : Nat} (hv : v < B64) (hv' : v' < B64) (h1 : w * v % B64 = 1) (h2 : w * v' % B64 = 1) : v = v' := by
  have h3 : (v * w * v') % B64 = v' := by
    rw [Nat.mul_comm v w, Nat.mul_mod, h1, Nat.one_mul, Nat.mod_mod, Nat.mod_eq_of_lt hv']
  have h4 : (v * w * v') % B64 = v := by
    rw [Nat.mul_assoc, Nat.mul_mod, h2, Nat.mul_one, Nat.mod_mod, Nat.mod_eq_of_lt hv]
  omega
def Big (w : Nat) : Prop := 9223372036854775808 ≤ w
theorem Big.dec {w : Nat} (h : Big w) : decide ((w : Int) < 9223372036854775808) = false := by
  have : 9223372036854775808 ≤ w := h
  simp
  omega
theorem Big.pos {w : Nat} (h : Big w) : ¬ (w = 0) := by
  have : 9223372036854775808 ≤ w := h
  omega
end Go.Proofs.Ytnhoodpglbjhhaa
