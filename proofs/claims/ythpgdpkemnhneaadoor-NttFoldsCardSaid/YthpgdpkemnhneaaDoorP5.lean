/- Pieces of the proofs, together: BlM, RLen, Bl, NLen. -/
import Derived.Lib.BitFns
import Derived.Shelf.Strconv.Itoa0
import Derived.Test.YthpgdpkemnhneaaDoorP1

namespace Go.Proofs.YthpgdpkemnhneaaDoor
open Go.RowKit
set_option linter.unusedVariables false

theorem bitLenAux_spec : ∀ (f x : Nat), x < 2 ^ f → x < 2 ^ Lib.bitLenAux f x ∧ (0 < x → 0 < Lib.bitLenAux f x ∧ 2 ^ (Lib.bitLenAux f x - 1) ≤ x) ∧ Lib.bitLenAux f x ≤ f
  | 0, x, h => by
    have : x = 0 := by simpa using h
    subst this
    simp [Lib.bitLenAux]
  | f + 1, x, h => by
    by_cases h0 : x = 0
    · subst h0
      simp [Lib.bitLenAux]
    · have h1 : x / 2 < 2 ^ f := by rw [Nat.pow_succ] at h; omega
      obtain ⟨a, b, c⟩ := bitLenAux_spec f (x / 2) h1
      have e : Lib.bitLenAux (f + 1) x = 1 + Lib.bitLenAux f (x / 2) := by simp [Lib.bitLenAux, h0]
      rw [e]
      refine ⟨?_, fun _ => ⟨by omega, ?_⟩, by omega⟩
      · rw [Nat.add_comm, Nat.pow_succ]; omega
      · rw [Nat.add_sub_cancel_left]
        by_cases h2 : 0 < x / 2
        · obtain ⟨b1, b2⟩ := b h2
          have e2 : Lib.bitLenAux f (x / 2) = (Lib.bitLenAux f (x / 2) - 1) + 1 := by omega
          rw [e2, Nat.pow_succ]
          omega
        · have : x / 2 = 0 := by omega
          rw [this] at a ⊢
          have : Lib.bitLenAux f 0 = 0 := by cases f <;> simp [Lib.bitLenAux]
          rw [this]
          simp
          omega

end Go.Proofs.YthpgdpkemnhneaaDoor

namespace Go.Proofs.YthpgdpkemnhneaaDoor
open Go.RowKit
set_option linter.unusedVariables false
set_option maxRecDepth 10000

/-- of the bits below i: how far the highest 1 reaches, where the lowest one is (else 64), how many there are -/
def cL (w : Nat) : Nat → Nat
  | 0 => 0
  | i + 1 => if w / 2 ^ i % 2 = 1 then i + 1 else cL w i
def cT (w : Nat) : Nat → Nat
  | 0 => 64
  | i + 1 => if w / 2 ^ i % 2 = 1 then min (cT w i) i else cT w i
def cO (w : Nat) : Nat → Nat
  | 0 => 0
  | i + 1 => if w / 2 ^ i % 2 = 1 then cO w i + 1 else cO w i
theorem cL_le (w i : Nat) : cL w i ≤ i := by
  induction i with
  | zero => exact Nat.le_refl _
  | succ i ih => rw [cL]; split <;> omega
theorem cO_le (w i : Nat) : cO w i ≤ i := by
  induction i with
  | zero => exact Nat.le_refl _
  | succ i ih => rw [cO]; split <;> omega
theorem cT_le (w i : Nat) : cT w i ≤ 64 := by
  induction i with
  | zero => exact Nat.le_refl _
  | succ i ih => rw [cT]; split <;> omega
theorem mod_step (w i : Nat) : w % 2 ^ (i + 1) = w % 2 ^ i + 2 ^ i * (w / 2 ^ i % 2) := by
  rw [Nat.pow_succ, Nat.mod_mul]
theorem cL_spec (w i : Nat) : w % 2 ^ i < 2 ^ cL w i ∧ (0 < w % 2 ^ i → 0 < cL w i ∧ 2 ^ (cL w i - 1) ≤ w % 2 ^ i) ∧ (w % 2 ^ i = 0 → cL w i = 0) := by
  induction i with
  | zero => simp [cL, Nat.mod_one]
  | succ i ih =>
    have h1 := mod_step w i
    have h2 := Nat.mod_lt w (Nat.two_pow_pos i)
    rw [cL]
    split
    · rename_i hb
      rw [hb, Nat.mul_one] at h1
      rw [h1, Nat.pow_succ, Nat.add_sub_cancel]
      have := Nat.two_pow_pos i
      exact ⟨by omega, fun _ => ⟨by omega, by omega⟩, fun h => by omega⟩
    · rename_i hb
      rw [show w / 2 ^ i % 2 = 0 by omega, Nat.mul_zero, Nat.add_zero] at h1
      rw [h1]
      exact ih

/-- l is the length of x in bits -/
def BL (x l : Nat) : Prop := x < 2 ^ l ∧ (0 < x → 0 < l ∧ 2 ^ (l - 1) ≤ x) ∧ (x = 0 → l = 0)
theorem BL_zero : BL 0 0 := ⟨by decide, fun h => absurd h (by decide), fun _ => rfl⟩
theorem B64_two (i : Nat) : B64 ^ i = 2 ^ (64 * i) := by
  rw [Nat.pow_mul]
  congr 1
theorem BL_word (x : Nat) (hx : x < B64) : BL x (cL x 64) := by
  have h := cL_spec x 64
  rw [show x % 2 ^ 64 = x from Nat.mod_eq_of_lt hx] at h
  exact h
/-- the length of a row whose highest word is x -/
theorem BL_top {xs : List Nat} {i x l : Nat} (hw : Ws xs) (hx : xs[i]? = some x) (h0 : 0 < x) (hl : BL x l) (hv : V (xs.take (i + 1)) = V xs) : BL (V xs) (64 * i + l) := by
  obtain ⟨hi, he⟩ := List.getElem?_eq_some_iff.1 hx
  obtain ⟨h1, h2, _⟩ := hl
  obtain ⟨h3, h4⟩ := h2 h0
  rw [V_take_succ xs i hi, he] at hv
  have h5 := V_lt (xs.take i) (Ws_take hw i)
  rw [List.length_take, Nat.min_eq_left (by omega)] at h5
  have hp := Nat.pow_pos (n := i) B64_pos
  have e2 : (x + 1) * B64 ^ i ≤ 2 ^ l * B64 ^ i := Nat.mul_le_mul_right _ h1
  have e3 : 2 ^ (l - 1) * B64 ^ i ≤ x * B64 ^ i := Nat.mul_le_mul_right _ h4
  rw [Nat.add_mul, Nat.one_mul] at e2
  have q1 : 2 ^ (64 * i + l) = 2 ^ l * B64 ^ i := by rw [B64_two, ← Nat.pow_add]; congr 1; omega
  have q2 : 2 ^ (64 * i + l - 1) = 2 ^ (l - 1) * B64 ^ i := by rw [B64_two, ← Nat.pow_add]; congr 1; omega
  have hpos : 0 < 2 ^ (l - 1) * B64 ^ i := Nat.mul_pos (Nat.two_pow_pos _) hp
  refine ⟨by rw [q1]; omega, fun _ => ⟨by omega, by rw [q2]; omega⟩, fun h => by omega⟩

end Go.Proofs.YthpgdpkemnhneaaDoor


namespace Go.Proofs.YthpgdpkemnhneaaDoor
open Go.RowKit
set_option linter.unusedVariables false

open Go.Shelf in
def lays129_ren : Go.Shelf.Ren := ⟨fun | 129 => 106 | n => n, fun | 53 => 43 | 3 => 3 | 4 => 4 | 46 => 41 | 5 => 5 | 9 => 9 | n => n, fun | n => n⟩
theorem lays129 : Go.Proofs.Lays.n129 Tryd.prog lays129_ren := {
  mixed := by kernel_rfl
  f129 := Tryd.func106.trans (congrArg some (by kernel_rfl))
  t3 := Tryd.underlying3
  a3 := Tryd.isAgg3
  z3 := Tryd.sizeOf3
  v3 := Tryd.zeroValue3
  t4 := Tryd.underlying4
  a4 := Tryd.isAgg4
  z4 := Tryd.sizeOf4
  v4 := Tryd.zeroValue4
  t5 := Tryd.underlying5
  a5 := Tryd.isAgg5
  z5 := Tryd.sizeOf5
  v5 := Tryd.zeroValue5
  t9 := Tryd.underlying9
  a9 := Tryd.isAgg9
  z9 := Tryd.sizeOf9
  v9 := Tryd.zeroValue9
  t46 := Tryd.underlying41
  a46 := Tryd.isAgg41
  z46 := Tryd.sizeOf41
  v46 := Tryd.zeroValue41
  t53 := Tryd.underlying43
  a53 := Tryd.isAgg43
  z53 := Tryd.sizeOf43
  v53 := Tryd.zeroValue43 }

/-- the length of a word in bits -/
def bl (x : Nat) : Nat := Lib.bitLenAux 64 x
theorem bl_spec (x : Nat) (hx : x < B64) : x < 2 ^ bl x ∧ (0 < x → 0 < bl x ∧ 2 ^ (bl x - 1) ≤ x) ∧ bl x ≤ 64 := bitLenAux_spec 64 x hx
theorem bitsLen64_ok (x : Nat) (hx : x < B64) (w : World) : Calls Tryd.prog 106 #[.int .u64 x] w fun e w' => e = .returned (.int .i64 (bl x : Nat)) ∧ w = w' := by
  refine (Any.bits_Len64 lays129 (x : Int) w (by omega) (by have : B64 = 18446744073709551616 := rfl; omega)).mono fun e w' h => ⟨?_, h.2.symm⟩
  rw [h.1, Int.toNat_natCast]
  rfl

end Go.Proofs.YthpgdpkemnhneaaDoor

namespace Go.Proofs.YthpgdpkemnhneaaDoor
open Go.RowKit Go.Shelf
set_option linter.unusedVariables false
set_option maxRecDepth 10000

set_option maxHeartbeats 400000 in
theorem NLen_ok (A : Option Addr) (n c : Nat) (xs : List Nat) (w : World) (hn : n ≤ 100000) (hx : Sl w A n c xs) :
    Calls Tryd.prog 87 #[.slice A n c] w fun e w' => ∃ l : Nat, e = .returned (.int .i64 l) ∧ l ≤ 64 * n ∧ BL (V xs) l ∧ w = w' := by
  have Hx := Lib.hid hx
  clear hx
  go_enter Tryd.func87, Tryd.ntmps87
  go_wp2_with (fail)
  refine (used_ok A n c xs w hn Hx.out).mono ?_
  rintro e w1 ⟨k, rfl, hk, hH, rfl⟩
  rcases Nat.eq_zero_or_pos k with rfl | hpos
  · have hv := hH.out.1
    rw [List.take_zero] at hv
    have HV : Hid (BL (V xs) 0) := by rw [← hv]; exact BL_zero
    clear hv hH hk
    go_wp2_with (fail)
    go_ret
    exact ⟨0, rfl, by omega, HV.out, rfl⟩
  · obtain ⟨i, rfl⟩ : ∃ i, k = i + 1 := ⟨k - 1, by omega⟩
    have hil : i < xs.length := by rw [Hx.out.1]; omega
    have hg := List.getElem?_eq_getElem hil
    have hxB : xs[i] < B64 := Hx.out.2.2.2.1 _ (List.getElem_mem hil)
    obtain ⟨b, o, rfl, hb, hcx⟩ := Hx.out.2.2.2.2.at (uvs_get hg)
    have hne : xs[i] ≠ 0 := by
      have h1 := hH.out.2 i (by rw [List.length_take, Hx.out.1]; omega)
      rw [List.getElem?_take, if_pos (by omega), hg] at h1
      exact fun h0 => h1 (by rw [h0])
    generalize xs[i] = x at *
    obtain ⟨hL1, hL2, hL3⟩ := bl_spec x hxB
    have HL := Lib.hid (bitsLen64_ok x hxB w)
    obtain ⟨L, hL⟩ : ∃ L, bl x = L := ⟨_, rfl⟩
    rw [hL] at hL1 hL2 hL3 HL
    have HV := Lib.hid (BL_top Hx.out.2.2.2.1 hg (by omega) (l := L) ⟨hL1, hL2, fun h => absurd h hne⟩ hH.out.1)
    clear hL1 hL2 hL hne hxB hg hil hH
    have e1 : ((i + 1 : Nat) : Int) - 1 = (i : Int) := by omega
    have e2 : (i : Int) + 1 - 1 = (i : Int) := by omega
    have e3 : ((i : Int) + 1 == 0) = false := by simp; omega
    have e4 : (((i + 1 : Nat) : Int) == 0) = false := by simp; omega
    have e5 : IntKind.i64.wrap (64 * (i : Int)) = 64 * (i : Int) := IntWalk.i64_in _ (by omega)
    have e6 : IntKind.i64.wrap (64 * (i : Int) + (L : Int)) = ((64 * i + L : Nat) : Int) := by rw [IntWalk.i64_in _ (by omega)]; omega
    go_wp2_with (fail)
    refine HL.out.mono ?_
    rintro e w1 ⟨rfl, rfl⟩
    go_wp2_with (fail)
    go_ret
    exact ⟨64 * i + L, rfl, by omega, HV.out, rfl⟩
end Go.Proofs.YthpgdpkemnhneaaDoor
