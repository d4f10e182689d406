/- The contract of fast.Products. -/
import Derived.Test.YtalcikmngglplaaDoorZFCost
namespace Go.Proofs.YtalcikmngglplaaDoor
open Go.RowKit Go.Shelf
set_option linter.unusedVariables false
set_option linter.unusedSimpArgs false
set_option maxRecDepth 10000

/-- whether numbers of so many bits are taken -/
def BitsU (b : Nat) : Int := bits BinOp.and IntKind.i64 (b : Int) ((b : Int) - 1)
theorem Products_out (b : Int) (w : World) (hb : b < 64 ∨ 1048576 < b) : Calls Tryd.prog 53 #[.int .i64 b] w fun e w' => e = .returned (.tuple #[.int .i64 0, .int .i64 0, .int .i64 0, .int .i64 1]) ∧ w = w' := by
  by_cases h1 : b < 64
  · clear hb
    go_enter Tryd.func53, Tryd.ntmps53
    go_wp2
    exact bodyPost_ret (v := .tuple #[.int .i64 0, .int .i64 0, .int .i64 0, .int .i64 1]) (by simp [results, Tryd.results53, go_sem]) rfl ⟨rfl, rfl⟩
  · have h2 : 1048576 < b := by omega
    clear hb
    go_enter Tryd.func53, Tryd.ntmps53
    go_wp2
    exact bodyPost_ret (v := .tuple #[.int .i64 0, .int .i64 0, .int .i64 0, .int .i64 1]) (by simp [results, Tryd.results53, go_sem]) rfl ⟨rfl, rfl⟩
theorem Products_not (b : Nat) (w : World) (h1 : 64 ≤ b) (h2 : b ≤ 1048576) (hu : BitsU b ≠ 0) : Calls Tryd.prog 53 #[.int .i64 (b : Int)] w fun e w' => e = .returned (.tuple #[.int .i64 0, .int .i64 0, .int .i64 0, .int .i64 1]) ∧ w = w' := by
  have a1 : ¬ (b : Int) < 64 := by omega
  have a2 : ¬ 1048576 < (b : Int) := by omega
  obtain ⟨u, hU⟩ : ∃ u, bits BinOp.and IntKind.i64 (b : Int) ((b : Int) - 1) = u := ⟨_, rfl⟩
  have hu0 : (u == 0) = false := by rw [BitsU, hU] at hu; simpa using hu
  have hu1 : (u != 0) = true := by rw [bne, hu0]; rfl
  clear hu
  go_enter Tryd.func53, Tryd.ntmps53
  go_wp2
  exact bodyPost_ret (v := .tuple #[.int .i64 0, .int .i64 0, .int .i64 0, .int .i64 1]) (by simp [results, Tryd.results53, go_sem]) rfl ⟨rfl, rfl⟩
set_option maxHeartbeats 1000000 in
theorem Products_ok (b n : Nat) (w : World) (h1 : 64 ≤ b) (h2 : b ≤ 1048576) (hn : b / 64 = n) (hu : BitsU b = 0) : Calls Tryd.prog 53 #[.int .i64 (b : Int)] w fun e w' => e = .returned (.tuple #[.int .i64 ((n * n : Nat) : Int), .int .i64 (kmF 14 n : Int), .int .i64 (tmF 9 n : Int), .int .i64 0]) ∧ w = w' := by
  have a1 : ¬ (b : Int) < 64 := by omega
  have a2 : ¬ 1048576 < (b : Int) := by omega
  have a3 : bits BinOp.and IntKind.i64 (b : Int) ((b : Int) - 1) = 0 := hu
  have a4 : (b : Int).tdiv 64 = (n : Int) := by rw [Int.tdiv_eq_ediv_of_nonneg (by omega)]; omega
  have a5 : (b : Int) / 64 = (n : Int) := by omega
  have a6 : IntKind.i64.wrap (n : Int) = (n : Int) := IntWalk.i64_in _ (by omega)
  obtain ⟨m, hm⟩ : ∃ m, n * n = m := ⟨_, rfl⟩
  have Hs := Lib.hid (fun w => schoolP_ok n m w hm (by omega))
  have Hk := Lib.hid (fun w => kara_ok 14 n (by omega) (by omega) (by omega) w)
  have Ht := Lib.hid (fun w => toomP_ok 9 n (by omega) (by omega) w)
  rw [hm]
  generalize kmF 14 n = k at *
  generalize tmF 9 n = t at *
  clear hm hu hn
  go_enter Tryd.func53, Tryd.ntmps53
  go_wp2_with (fail)
  refine (Hs.out w).mono ?_
  rintro e w1 ⟨rfl, rfl⟩
  go_wp2_with (fail)
  refine (Hk.out w).mono ?_
  rintro e w1 ⟨rfl, rfl⟩
  go_wp2_with (fail)
  refine (Ht.out w).mono ?_
  rintro e w1 ⟨rfl, rfl⟩
  go_wp2_with (fail)
  exact bodyPost_ret (v := .tuple #[.int .i64 (m : Int), .int .i64 (k : Int), .int .i64 (t : Int), .int .i64 0]) (by simp [results, Tryd.results53, go_sem]) rfl ⟨rfl, rfl⟩
end Go.Proofs.YtalcikmngglplaaDoor
