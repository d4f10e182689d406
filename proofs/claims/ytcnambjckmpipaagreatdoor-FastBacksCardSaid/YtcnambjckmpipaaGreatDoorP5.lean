/- Pieces of the proofs, together: BlM, RLen. -/
import Derived.Lib.BitFns
import Derived.Test.YtcnambjckmpipaaGreatDoorP1

namespace Go.Proofs.YtcnambjckmpipaaGreatDoor
open Go.RowKit
set_option linter.unusedVariables false

theorem bitLenAux_spec : ∀ (f x : Nat), x < 2 ^ f → x < 2 ^ Lib.bitLenAux f x ∧ (0 < x → 0 < Lib.bitLenAux f x ∧ 2 ^ (Lib.bitLenAux f x - 1) ≤ x) ∧ Lib.bitLenAux f x ≤ f
  | 0, x, h => by
    have : x = 0 := by simpa using h
    subst this
    simp [Lib.bitLenAux]
  | f + 1, x, h => by
    by_cases h0 : x = 0
    · subst h0
      simp [Lib.bitLenAux]
    · have h1 : x / 2 < 2 ^ f := by rw [Nat.pow_succ] at h; omega
      obtain ⟨a, b, c⟩ := bitLenAux_spec f (x / 2) h1
      have e : Lib.bitLenAux (f + 1) x = 1 + Lib.bitLenAux f (x / 2) := by simp [Lib.bitLenAux, h0]
      rw [e]
      refine ⟨?_, fun _ => ⟨by omega, ?_⟩, by omega⟩
      · rw [Nat.add_comm, Nat.pow_succ]; omega
      · rw [Nat.add_sub_cancel_left]
        by_cases h2 : 0 < x / 2
        · obtain ⟨b1, b2⟩ := b h2
          have e2 : Lib.bitLenAux f (x / 2) = (Lib.bitLenAux f (x / 2) - 1) + 1 := by omega
          rw [e2, Nat.pow_succ]
          omega
        · have : x / 2 = 0 := by omega
          rw [this] at a ⊢
          have : Lib.bitLenAux f 0 = 0 := by cases f <;> simp [Lib.bitLenAux]
          rw [this]
          simp
          omega

end Go.Proofs.YtcnambjckmpipaaGreatDoor

namespace Go.Proofs.YtcnambjckmpipaaGreatDoor
open Go.RowKit
set_option linter.unusedVariables false
set_option maxRecDepth 10000

/-- of the bits below i: how far the highest 1 reaches, where the lowest one is (else 64), how many there are -/
def cL (w : Nat) : Nat → Nat
  | 0 => 0
  | i + 1 => if w / 2 ^ i % 2 = 1 then i + 1 else cL w i
def cT (w : Nat) : Nat → Nat
  | 0 => 64
  | i + 1 => if w / 2 ^ i % 2 = 1 then min (cT w i) i else cT w i
def cO (w : Nat) : Nat → Nat
  | 0 => 0
  | i + 1 => if w / 2 ^ i % 2 = 1 then cO w i + 1 else cO w i
theorem cL_le (w i : Nat) : cL w i ≤ i := by
  induction i with
  | zero => exact Nat.le_refl _
  | succ i ih => rw [cL]; split <;> omega
theorem cO_le (w i : Nat) : cO w i ≤ i := by
  induction i with
  | zero => exact Nat.le_refl _
  | succ i ih => rw [cO]; split <;> omega
theorem cT_le (w i : Nat) : cT w i ≤ 64 := by
  induction i with
  | zero => exact Nat.le_refl _
  | succ i ih => rw [cT]; split <;> omega
theorem mod_step (w i : Nat) : w % 2 ^ (i + 1) = w % 2 ^ i + 2 ^ i * (w / 2 ^ i % 2) := by
  rw [Nat.pow_succ, Nat.mod_mul]
theorem cL_spec (w i : Nat) : w % 2 ^ i < 2 ^ cL w i ∧ (0 < w % 2 ^ i → 0 < cL w i ∧ 2 ^ (cL w i - 1) ≤ w % 2 ^ i) ∧ (w % 2 ^ i = 0 → cL w i = 0) := by
  induction i with
  | zero => simp [cL, Nat.mod_one]
  | succ i ih =>
    have h1 := mod_step w i
    have h2 := Nat.mod_lt w (Nat.two_pow_pos i)
    rw [cL]
    split
    · rename_i hb
      rw [hb, Nat.mul_one] at h1
      rw [h1, Nat.pow_succ, Nat.add_sub_cancel]
      have := Nat.two_pow_pos i
      exact ⟨by omega, fun _ => ⟨by omega, by omega⟩, fun h => by omega⟩
    · rename_i hb
      rw [show w / 2 ^ i % 2 = 0 by omega, Nat.mul_zero, Nat.add_zero] at h1
      rw [h1]
      exact ih

set_option maxHeartbeats 1000000 in
theorem Count_ok (x : Nat) (hx : x < B64) (w : World) :
    Calls Tryz.prog 123 #[.int .u64 x] w fun e w' => e = .returned (.tuple #[.int .i64 (64 - (cL x 64 : Nat) : Int), .int .i64 (cT x 64 : Nat), .int .i64 (cO x 64 : Nat)]) ∧ w = w' := by
  have Hx := Lib.hid hx
  clear hx
  go_enter Tryz.func123, Tryz.ntmps123
  go_wp2
  go_loop [5, 6, 7, 8] (fun lv tv ov iv => ∃ i : Nat, i ≤ 64 ∧ iv = .int .i64 i ∧ lv = .int .i64 (64 - (cL x i : Nat) : Int) ∧ tv = .int .i64 (cT x i : Nat) ∧ ov = .int .i64 (cO x i : Nat)) (fun _ _ _ iv => 64 - (intOf iv).toNat)
  case atStart => exact ⟨0, by omega, rfl, rfl, rfl, rfl⟩
  case round =>
    obtain ⟨i, hi, rfl, rfl, rfl, rfl⟩ := hrel
    by_cases hlt : i < 64
    · have hl := cL_le x i
      have ho := cO_le x i
      have ht := cT_le x i
      obtain ⟨q, hq, hq2⟩ : ∃ q : Nat, (x : Int) / 2 ^ i = (q : Int) ∧ q = x / 2 ^ i := ⟨x / 2 ^ i, by simp, rfl⟩
      have hli : (i : Int) < 64 := by omega
      have hsL : cL x (i + 1) = if q % 2 = 1 then i + 1 else cL x i := by rw [cL, hq2]
      have hsT : cT x (i + 1) = if q % 2 = 1 then min (cT x i) i else cT x i := by rw [cT, hq2]
      have hsO : cO x (i + 1) = if q % 2 = 1 then cO x i + 1 else cO x i := by rw [cO, hq2]
      have HQ := Lib.hid (And.intro hsL (And.intro hsT hsO))
      clear hsL hsT hsO hq2
      generalize cL x i = L at *
      generalize cT x i = T at *
      generalize cO x i = O at *
      rcases Nat.mod_two_eq_zero_or_one q with hz | hz
      · have e1 : (q : Int) % 2 = 0 := by omega
        have e2 : (q : Int).tmod 2 = 0 := by rw [Int.tmod_eq_emod_of_nonneg (by omega)]; omega
        have HZ := Lib.hid hz
        clear hz
        go_wp2
        go_round
        case rel =>
          obtain ⟨h1, h2, h3⟩ := HQ.out
          rw [HZ.out, if_neg (by decide)] at h1 h2 h3
          exact ⟨i + 1, by omega, by go_num, by rw [h1], by rw [h2], by rw [h3]⟩
        case measure => simp [intOf]; omega
      · have e1 : (q : Int) % 2 = 1 := by omega
        have e2 : (q : Int).tmod 2 = 1 := by rw [Int.tmod_eq_emod_of_nonneg (by omega)]; omega
        have HZ := Lib.hid hz
        clear hz
        go_wp2
        all_goals
          go_round
          case rel =>
            obtain ⟨h1, h2, h3⟩ := HQ.out
            rw [HZ.out, if_pos rfl] at h1 h2 h3
            refine ⟨i + 1, by omega, by go_num, ?_, ?_, ?_⟩
            · rw [h1]; congr 1; omega
            · rw [h2]; congr 1; omega
            · rw [h3]; congr 1
          case measure => simp [intOf]; omega
    · obtain rfl : i = 64 := by omega
      go_wp2
      go_ret3
      exact ⟨rfl, rfl⟩

/-- l is the length of x in bits -/
def BL (x l : Nat) : Prop := x < 2 ^ l ∧ (0 < x → 0 < l ∧ 2 ^ (l - 1) ≤ x) ∧ (x = 0 → l = 0)
theorem BL_zero : BL 0 0 := ⟨by decide, fun h => absurd h (by decide), fun _ => rfl⟩
theorem B64_two (i : Nat) : B64 ^ i = 2 ^ (64 * i) := by
  rw [Nat.pow_mul]
  congr 1
theorem BL_word (x : Nat) (hx : x < B64) : BL x (cL x 64) := by
  have h := cL_spec x 64
  rw [show x % 2 ^ 64 = x from Nat.mod_eq_of_lt hx] at h
  exact h
/-- the length of a row whose highest word is x -/
theorem BL_top {xs : List Nat} {i x l : Nat} (hw : Ws xs) (hx : xs[i]? = some x) (h0 : 0 < x) (hl : BL x l) (hv : V (xs.take (i + 1)) = V xs) : BL (V xs) (64 * i + l) := by
  obtain ⟨hi, he⟩ := List.getElem?_eq_some_iff.1 hx
  obtain ⟨h1, h2, _⟩ := hl
  obtain ⟨h3, h4⟩ := h2 h0
  rw [V_take_succ xs i hi, he] at hv
  have h5 := V_lt (xs.take i) (Ws_take hw i)
  rw [List.length_take, Nat.min_eq_left (by omega)] at h5
  have hp := Nat.pow_pos (n := i) B64_pos
  have e2 : (x + 1) * B64 ^ i ≤ 2 ^ l * B64 ^ i := Nat.mul_le_mul_right _ h1
  have e3 : 2 ^ (l - 1) * B64 ^ i ≤ x * B64 ^ i := Nat.mul_le_mul_right _ h4
  rw [Nat.add_mul, Nat.one_mul] at e2
  have q1 : 2 ^ (64 * i + l) = 2 ^ l * B64 ^ i := by rw [B64_two, ← Nat.pow_add]; congr 1; omega
  have q2 : 2 ^ (64 * i + l - 1) = 2 ^ (l - 1) * B64 ^ i := by rw [B64_two, ← Nat.pow_add]; congr 1; omega
  have hpos : 0 < 2 ^ (l - 1) * B64 ^ i := Nat.mul_pos (Nat.two_pow_pos _) hp
  refine ⟨by rw [q1]; omega, fun _ => ⟨by omega, by rw [q2]; omega⟩, fun h => by omega⟩

set_option maxHeartbeats 1000000 in
theorem RLen_ok (A : Option Addr) (n c : Nat) (xs : List Nat) (w : World) (hn : n ≤ 100000) (hx : Sl w A n c xs) :
    Calls Tryz.prog 107 #[.slice A n c] w fun e w' => ∃ l : Nat, e = .returned (.int .i64 l) ∧ l ≤ 64 * n ∧ BL (V xs) l ∧ w = w' := by
  have Hx := Lib.hid hx
  clear hx
  go_enter Tryz.func107, Tryz.ntmps107
  go_wp2
  go_loop [3] (fun iv => ∃ (k : Nat) (j : Int), k ≤ n ∧ iv = .int .i64 j ∧ j + 1 = k ∧ Hid (V (xs.take k) = V xs)) (fun iv => (intOf iv + 1).toNat)
  case atStart => exact ⟨n, _, Nat.le_refl _, rfl, by omega, by rw [Hx.out.take_all]; rfl⟩
  case round =>
    obtain ⟨k, j, hk, rfl, hj, hH⟩ := hrel
    rcases Nat.eq_zero_or_pos k with rfl | hpos
    · have h0 : j < 0 := by omega
      go_wp2
      go_ret
      refine ⟨0, rfl, by omega, ?_, rfl⟩
      have := hH.out
      rw [List.take_zero] at this
      rw [← this]
      exact BL_zero
    · obtain ⟨i, rfl⟩ : ∃ i, k = i + 1 := ⟨k - 1, by omega⟩
      obtain rfl : j = (i : Int) := by omega
      have hil : i < xs.length := by rw [Hx.out.1]; omega
      have hg := List.getElem?_eq_getElem hil
      have hxB : xs[i] < B64 := Hx.out.2.2.2.1 _ (List.getElem_mem hil)
      obtain ⟨b, o, rfl, hb, hcx⟩ := Hx.out.2.2.2.2.at (uvs_get hg)
      generalize xs[i] = x at *
      have Hg := Lib.hid (And.intro hg hxB)
      have hin : (i : Int) < n := by omega
      clear hg hil hj hxB
      by_cases hx0 : x = 0
      · subst hx0
        have hv : Hid (V (xs.take i) = V xs) := V_cut xs i Hg.out.1 hH.out
        clear hH
        go_wp2
        go_round
        case rel => exact ⟨i, (i : Int) - 1, by omega, rfl, by omega, hv⟩
        case measure => simp [intOf]
      · have hxb : ((x : Int) == 0) = false := by simp; omega
        have hxb2 : ((x : Int) != 0) = true := by rw [bne, hxb]; rfl
        have Hx0 := Lib.hid hx0
        clear hx0
        go_wp2_with (fail)
        refine (Count_ok x Hg.out.2 _).mono ?_
        rintro e w1 ⟨rfl, rfl⟩
        have hL := BL_word x Hg.out.2
        have hL2 := cL_le x 64
        generalize cL x 64 = L at *
        have HL := Lib.hid (BL_top Hx.out.2.2.2.1 Hg.out.1 (Nat.pos_of_ne_zero Hx0.out) hL hH.out)
        clear hL hH
        go_wp2
        go_ret
        refine ⟨64 * i + L, ?_, by omega, HL.out, rfl⟩
        exact congrArg (fun z => Ending.returned (Value.int .i64 z)) (show (64 * (i : Int) + 64 - (64 - (L : Int))) = ((64 * i + L : Nat) : Int) by omega)
end Go.Proofs.YtcnambjckmpipaaGreatDoor
