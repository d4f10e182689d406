/- The contract of reckonerref02.Parse. -/
import Derived.Test.YtekikolhnfofeaaNum
import Derived.Deep.RegionHeld3
namespace Go.Proofs.Ytekikolhnfofeaa
open Go.RowKit
set_option linter.unusedVariables false
set_option maxRecDepth 10000

/-- the number of the first i digits of a text -/
def pv (s : ByteArray) : Nat → Nat
  | 0 => 0
  | i + 1 => pv s i * 10 + ((s[i]!).toNat - 48)
theorem pv_lt (s : ByteArray) (hs : ∀ i, i < s.size → 48 ≤ (s[i]!).toNat ∧ (s[i]!).toNat ≤ 57) (i : Nat) (hi : i ≤ s.size) : pv s i < 10 ^ i := by
  induction i with
  | zero => simp [pv]
  | succ i ih =>
    have h1 := ih (by omega)
    have h2 := hs i (by omega)
    rw [pv, Nat.pow_succ]
    omega
theorem ten_big (i : Nat) (hi : i ≤ 38) : 10 ^ i < Big := by
  have h1 : 10 ^ i ≤ 10 ^ 38 := Nat.pow_le_pow_right (by decide) hi
  have h2 : (10 : Nat) ^ 38 < B64 ^ 2 := by decide
  have h3 : B64 ^ 2 ≤ B64 ^ Most := Nat.pow_le_pow_right B64_pos (by decide)
  exact Nat.lt_of_lt_of_le (Nat.lt_of_le_of_lt h1 h2) h3

theorem RFromWord_ten (w : World) : Calls Try.prog 76 #[.int .u64 10] w fun e w' => Rv w w' e 10 := RFromWord_ok 10 w (by decide)
set_option maxHeartbeats 4000000 in
theorem Parse_ok (s : ByteArray) (w : World) (hn : s.size ≤ 30) (hs : ∀ i, i < s.size → 48 ≤ (s[i]!).toNat ∧ (s[i]!).toNat ≤ 57) :
    Calls Try.prog 67 #[.string s] w fun e w' => Rv w w' e (pv s s.size) := by
  have Hs := Lib.hid hs
  have HB := Lib.hid (fun i (hi : i ≤ s.size) => Nat.lt_trans (pv_lt s hs i hi) (ten_big i (by omega)))
  clear hs
  go_enter Try.func67, Try.ntmps67
  go_wp2
  go_loopw [3, 4] (fun ov iv wr => ∃ (i : Nat) (A : Option Addr) (n c : Nat) (zs : List Nat), i ≤ s.size ∧ iv = .int .i64 i ∧ ov = .slice A n c ∧ Hid (Sl wr A n c zs ∧ V zs = pv s i ∧ n ≤ 4096 ∧ Nt w wr (.slice A n c) (pv s i) ∧ Below w.heap.size w wr)) (fun _ iv _ => s.size - (intOf iv).toNat)
  case atStart => exact ⟨0, none, 0, 0, [], by omega, rfl, rfl, ⟨rfl, Nat.le_refl _, by omega, Ws_nil, Rd.nil⟩, rfl, by omega, Nt.nil _ _, Below.refl _ _⟩
  case round =>
    obtain ⟨i, A, n, c, zs, hi, rfl, rfl, hH⟩ := hrel
    by_cases hlt : i < s.size
    · have hb := Hs.out i hlt
      obtain ⟨d, hd⟩ : ∃ d, (s[i]!).toNat = d := ⟨_, rfl⟩
      obtain ⟨q, hq⟩ : ∃ q, q = d - 48 := ⟨_, rfl⟩
      have hget : (s[i]'hlt).toNat = d := by rw [← hd, getElem!_pos s i hlt]
      have hpv : pv s (i + 1) = pv s i * 10 + q := by rw [pv, hd, hq]
      rw [hd] at hb
      have hd1 : (d : Int) - 48 = (q : Int) := by omega
      have hd2 : IntKind.u8.wrap (q : Int) = (q : Int) := by rw [IntKind.wrap_u8]; omega
      have hd3 : IntKind.u64.wrap (q : Int) = (q : Int) := by rw [IntKind.wrap_u64]; omega
      have hqB : q < B64 := by have : B64 = 18446744073709551616 := rfl; omega
      have HP := Lib.hid (And.intro hpv (And.intro hqB (HB.out (i + 1) (by omega))))
      have hn4 := hH.out.2.2.1
      clear hpv hd hq hb hqB
      have hB10 : 10 < Big := Big_of (k := 1) (by decide) (by omega)
      have HB2 := Lib.hid (And.intro hB10 (And.intro (show pv s i * 10 < Big by have := HP.out.2.2; rw [HP.out.1] at this; omega) (show q < Big by have := HP.out.2.2; rw [HP.out.1] at this; omega)))
      clear hB10
      go_wp2_with (fail)
      go_region_held3 (fun w' => True) (trivial)
        (first
          | (go_at_call 76; (with_reducible refine (RFromWord_ten _).mono ?_); rintro e w1 hR1; refine use_ (hR1.open HB2.out.1) ?_; rintro ⟨A1, n1, c1, zs1, rfl, h1⟩; have H1 := Lib.hid (And.intro h1 (belowA h1.bel)); clear h1 hR1)
          | (go_at_call 24; refine (RNMul_ok _ _ _ _ _ _ zs zs1 _ hn4 H1.out.1.2.2.2.1 (hH.out.1.below H1.out.2) H1.out.1.1).mono ?_; rintro e w2 hR2; rw [hH.out.2.1, H1.out.1.2.2.1] at hR2; refine use_ (hR2.open HB2.out.2.1) ?_; rintro ⟨A2, n2, c2, zs2, rfl, h2⟩; have H2 := Lib.hid (And.intro h2 (H1.out.2.trans (h2.bel.mono H1.out.2.size))); clear h2 hR2)
          | (go_at_call 76; (with_reducible refine (RFromWord_ok q _ HP.out.2.1).mono ?_); rintro e w3 hR3; refine use_ (hR3.open HB2.out.2.2) ?_; rintro ⟨A3, n3, c3, zs3, rfl, h3⟩; have H3 := Lib.hid (And.intro h3 (And.intro (H2.out.1.keep h3.bel) (H2.out.2.trans (h3.bel.mono H2.out.2.size)))); clear h3 hR3)
          | (go_at_call 18; refine (RNAdd_ok _ _ _ _ _ _ zs2 zs3 _ H3.out.2.1.2.2.2.1 H3.out.1.2.2.2.1 H3.out.2.1.1 H3.out.1.1).mono ?_; rintro e w4 hR4; rw [H3.out.2.1.2.2.1, H3.out.1.2.2.1, ← HP.out.1] at hR4; refine use_ (hR4.open HP.out.2.2) ?_; rintro ⟨A4, n4, c4, zs4, rfl, h4⟩; have H4 := Lib.hid (h4.from (H3.out.2.2)); clear h4 hR4))
      all_goals
        have HN : Hid (Sl w4 A4 n4 c4 zs4 ∧ V zs4 = pv s (i + 1) ∧ n4 ≤ 4096 ∧ Nt w w4 (.slice A4 n4 c4) (pv s (i + 1)) ∧ Below w.heap.size w w4) :=
          ⟨H4.out.1, H4.out.2.2.1, H4.out.2.2.2.1, H4.out.2.2.2.2.1.base hH.out.2.2.2.2.size, hH.out.2.2.2.2.trans (H4.out.bel.mono hH.out.2.2.2.2.size)⟩
        clear hH H1 H2 H3 H4
        go_wp2_with (fail)
        go_roundw
        case rel => exact ⟨i + 1, A4, n4, c4, zs4, by omega, by go_num, rfl, HN⟩
        case measure => simp [intOf]; omega
    · obtain rfl : i = s.size := by omega
      have hki : ¬ (s.size : Int) < (s.size : Int) := by omega
      go_wp2
      go_ret
      exact ⟨_, rfl, hH.out.2.2.2.1, hH.out.2.2.2.2⟩
end Go.Proofs.Ytekikolhnfofeaa
