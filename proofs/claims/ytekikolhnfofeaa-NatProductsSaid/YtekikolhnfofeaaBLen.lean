/- The contract of math/bits.Len. -/
import Derived.Test.YtekikolhnfofeaaDiv
namespace Go.Proofs.Ytekikolhnfofeaa
open Go.RowKit
set_option linter.unusedVariables false

open Go.Shelf in
def lays125_ren : Go.Shelf.Ren := ⟨fun | 125 => 74 | 128 => 107 | 129 => 89 | n => n, fun | 53 => 37 | 3 => 3 | 4 => 4 | 46 => 35 | 51 => 106 | 5 => 5 | 9 => 9 | n => n, fun | n => n⟩
theorem lays125 : Go.Proofs.Lays.n125 Try.prog lays125_ren := {
  mixed := by kernel_rfl
  f125 := Try.func74.trans (congrArg some (by kernel_rfl))
  f128 := Try.func107.trans (congrArg some (by kernel_rfl))
  f129 := Try.func89.trans (congrArg some (by kernel_rfl))
  t3 := Try.underlying3
  a3 := Try.isAgg3
  z3 := Try.sizeOf3
  v3 := Try.zeroValue3
  t4 := Try.underlying4
  a4 := Try.isAgg4
  z4 := Try.sizeOf4
  v4 := Try.zeroValue4
  t5 := Try.underlying5
  a5 := Try.isAgg5
  z5 := Try.sizeOf5
  v5 := Try.zeroValue5
  t9 := Try.underlying9
  a9 := Try.isAgg9
  z9 := Try.sizeOf9
  v9 := Try.zeroValue9
  t46 := Try.underlying35
  a46 := Try.isAgg35
  z46 := Try.sizeOf35
  v46 := Try.zeroValue35
  t51 := Try.underlying106
  a51 := Try.isAgg106
  z51 := Try.sizeOf106
  v51 := Try.zeroValue106
  t53 := Try.underlying37
  a53 := Try.isAgg37
  z53 := Try.sizeOf37
  v53 := Try.zeroValue37 }

/-- the length of a word in bits -/
def bl (x : Nat) : Nat := Lib.bitLenAux 64 x
theorem bl_spec (x : Nat) (hx : x < B64) : x < 2 ^ bl x ∧ (0 < x → 0 < bl x ∧ 2 ^ (bl x - 1) ≤ x) ∧ bl x ≤ 64 := bitLenAux_spec 64 x hx
theorem bitsLen_ok (x : Nat) (hx : x < B64) (w : World) : Calls Try.prog 74 #[.int .u64 x] w fun e w' => e = .returned (.int .i64 (bl x : Nat)) ∧ w = w' := by
  refine (Any.bits_Len lays125 (x : Int) w (by omega) (by have : B64 = 18446744073709551616 := rfl; omega)).mono fun e w' h => ⟨?_, h.2.symm⟩
  rw [h.1, Int.toNat_natCast]
  rfl
end Go.Proofs.Ytekikolhnfofeaa
