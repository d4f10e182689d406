/- The walk of the law FastCosts. -/
import Derived.Test.YtelenmfajhamlaaDoorZFAwake
import Derived.OpenShut
namespace Go.Proofs.YtelenmfajhamlaaDoor.fastCosts
open Go.ChangeShapes Go.RowKit
set_option linter.unusedVariables false
set_option linter.unusedSimpArgs false

theorem shl64 (s : Nat) (h : s ≤ 14) : IntKind.i64.wrap ((64 : Int) * 2 ^ s) = ((64 * 2 ^ s : Nat) : Int) := by
  rcases (show s = 0 ∨ s = 1 ∨ s = 2 ∨ s = 3 ∨ s = 4 ∨ s = 5 ∨ s = 6 ∨ s = 7 ∨ s = 8 ∨ s = 9 ∨ s = 10 ∨ s = 11 ∨ s = 12 ∨ s = 13 ∨ s = 14 by omega) with rfl | rfl | rfl | rfl | rfl | rfl | rfl | rfl | rfl | rfl | rfl | rfl | rfl | rfl | rfl <;> decide
theorem shl64w (s : Nat) (h : s ≤ 14) : wrap64 ((64 : Int) * 2 ^ s) = ((64 * 2 ^ s : Nat) : Int) := by rw [← IntWalk.i64_left]; exact shl64 s h
theorem shl64_le (s : Nat) (h : s ≤ 14) : 64 * 2 ^ s ≤ 1048576 := by
  have := Nat.pow_le_pow_right (n := 2) (by decide) h
  omega
set_option maxRecDepth 100000 in
set_option maxHeartbeats 8000000 in
theorem walk (w : World) (a0 : Int) (w0 : (Lit.int .i64 a0).wf = true) (hT : TabF w) :
    Calls Tryd.prog 8 #[.int .i64 a0] w fun e w' => e = .returned (.bool true) ∧ Below w.heap.size w w' := by
  have hb := bounds_i64 w0
  have HT := Lib.hid hT
  clear w0 hT
  go_enter Tryd.func8, Tryd.ntmps8
  go_wp2
  go_loopw [0, 3, 4, 5, 6, 7, 8, 9, 10] (fun bv kv _ _ _ _ _ _ _ wr => ∃ (k : Nat) (b : Int), k ≤ 2 ∧ kv = .int .i64 k ∧ bv = .int .i64 b ∧ w = wr) (fun _ kv _ _ _ _ _ _ _ _ => 2 - (intOf kv).toNat)
  case atStart => exact ⟨0, a0, by omega, rfl, rfl, rfl⟩
  case round =>
    obtain ⟨k, b, hk, rfl, rfl, rfl⟩ := hrel
    by_cases hlt : k < 2
    · have hki : (k : Int) < 2 := by omega
      obtain ⟨s, hs⟩ : ∃ s, (IntKind.u64.wrap b % 15).toNat = s := ⟨_, rfl⟩
      have hw := IntKind.wrap_u64 b
      have hs14 : s ≤ 14 := by omega
      have hs1 : IntKind.u64.wrap b % 15 = (s : Int) := by omega
      have hs2 : (IntKind.u64.wrap b).tmod 15 = (s : Int) := by rw [Int.tmod_eq_emod_of_nonneg (by rw [hw]; omega)]; exact hs1
      have hs3 := shl64 s hs14
      have hs5 := shl64w s hs14
      obtain ⟨q, hq⟩ : ∃ q, 64 * 2 ^ s = q := ⟨_, rfl⟩
      rw [hq] at hs3 hs5
      have HS5 := Lib.hid hs5
      clear hs5
      clear hs hw hq
      by_cases h1 : b < 64
      · go_wp2_with (fail)
        refine (Products_out b _ (Or.inl h1)).mono ?_
        rintro e w1 ⟨rfl, rfl⟩
        go_wp2_with (fail)
        refine ⟨⟨k + 1, (q : Int), by omega, by go_num, rfl, trivial⟩, ?_⟩
        simp [intOf]; omega
      by_cases h2 : 1048576 < b
      · go_wp2_with (fail)
        refine (Products_out b _ (Or.inr h2)).mono ?_
        rintro e w1 ⟨rfl, rfl⟩
        go_wp2_with (fail)
        refine ⟨⟨k + 1, (q : Int), by omega, by go_num, rfl, trivial⟩, ?_⟩
        simp [intOf]; omega
      obtain ⟨m, rfl⟩ := Int.eq_ofNat_of_zero_le (show 0 ≤ b by omega)
      have hm1 : 64 ≤ m := by omega
      have hm2 : m ≤ 1048576 := by omega
      have hm15 : m % 15 = s := by have := IntKind.wrap_u64 (m : Int); omega
      by_cases hu : BitsU m = 0
      · obtain ⟨n, hn⟩ : ∃ n, m / 64 = n := ⟨_, rfl⟩
        have HP := Lib.hid (fun w => Products_ok m n w hm1 hm2 hn hu)
        have HQ := Lib.hid (fun w => RProducts_ok n w (by omega) (by omega))
        have a3 : bits BinOp.and IntKind.i64 (m : Int) ((m : Int) - 1) = 0 := hu
        have a4 : (m : Int).tdiv 64 = (n : Int) := by rw [Int.tdiv_eq_ediv_of_nonneg (by omega)]; omega
        have a5 : (m : Int) / 64 = (n : Int) := by omega
        have a6 : IntKind.i64.wrap (n : Int) = (n : Int) := IntWalk.i64_in _ (by omega)
        rw [show costV n = [.int .i64 ((n * n : Nat) : Int), .int .i64 (kmF 14 n : Int), .int .i64 (tmF 9 n : Int)] from rfl] at HQ
        generalize n * n = c1 at *
        generalize kmF 14 n = c2 at *
        generalize tmF 9 n = c3 at *
        clear hu hn
        go_wp2_with (fail)
        refine (HP.out _).mono ?_
        rintro e w1 ⟨rfl, rfl⟩
        go_wp2_with (fail)
        refine (HQ.out _).mono ?_
        rintro e w1 ⟨rfl, rfl⟩
        go_wp2_with (fail)
        refine ⟨⟨k + 1, (q : Int), by omega, by go_num, congrArg (Value.int .i64) (show wrap64 (64 * 2 ^ (m % 15)) = (q : Int) by rw [hm15]; exact HS5.out), trivial⟩, ?_⟩
        simp [intOf]; omega
      · have HP := Lib.hid (fun w => Products_not m w hm1 hm2 hu)
        obtain ⟨u, hU⟩ : ∃ u, bits BinOp.and IntKind.i64 (m : Int) ((m : Int) - 1) = u := ⟨_, rfl⟩
        have hu0 : (u == 0) = false := by rw [BitsU, hU] at hu; simpa using hu
        have hu1 : (u != 0) = true := by rw [bne, hu0]; rfl
        have a1 : ¬ (m : Int) < 64 := by omega
        have a2 : ¬ 1048576 < (m : Int) := by omega
        clear hu
        go_wp2_with (fail)
        refine (HP.out _).mono ?_
        rintro e w1 ⟨rfl, rfl⟩
        go_wp2_with (fail)
        refine ⟨⟨k + 1, (q : Int), by omega, by go_num, congrArg (Value.int .i64) (show wrap64 (64 * 2 ^ (m % 15)) = (q : Int) by rw [hm15]; exact HS5.out), trivial⟩, ?_⟩
        simp [intOf]; omega
    · have hki : ¬ (k : Int) < 2 := by omega
      have HP : Hid (∀ w, Calls Tryd.prog 35 #[.int .i64 1048576] w fun e w' => e = .returned (.tuple #[.int .i64 268435456, .int .i64 4782969, .int .i64 1953125, .int .i64 0]) ∧ w = w') := fun w => Products_ok 1048576 16384 w (by decide) (by decide) rfl (by decide)
      go_wp2_with (fail)
      refine (HP.out _).mono ?_
      rintro e w1 ⟨rfl, rfl⟩
      go_wp2_with (fail)
      refine (fawake_any _ HT.out).mono ?_
      rintro e w2 ⟨rfl, hb2⟩
      have HB := Lib.hid hb2
      clear hb2
      go_wp2_with (fail)
      go_ret
      exact ⟨rfl, HB.out⟩
end Go.Proofs.YtelenmfajhamlaaDoor.fastCosts
