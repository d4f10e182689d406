/- Pieces of the proofs, together: FCk, FCost, FCst. -/
import Derived.Test.YthpgdpkemnhneaaGreatDoorP9
import Derived.Test.YthpgdpkemnhneaaGreatDoorP8

namespace Go.Proofs.YthpgdpkemnhneaaGreatDoor
open Go.RowKit Go.Shelf
set_option linter.unusedVariables false
set_option linter.unusedSimpArgs false
set_option maxRecDepth 10000

theorem anyZ_succ (p : Sn → Bool) (ls : List Sn) (k : Nat) (h : k < ls.length) : (ls.take (k + 1)).any p = ((ls.take k).any p || p ls[k]) := by
  rw [List.take_succ_eq_append_getElem h, List.any_append]; simp
theorem anyZ_get (p : Sn → Bool) (ls : List Sn) (k : Nat) (h : k < ls.length) (hp : p ls[k] = true) : ls.any p = true := List.any_eq_true.2 ⟨_, List.getElem_mem h, hp⟩
set_option maxHeartbeats 1000000 in
theorem checkInts_ok (al : List Sn) (A : Option Addr) (m c : Nat) (w : World) (hm : m ≤ 100000) (hx : Zl w A m c al) :
    Calls Tryz.prog 28 #[.slice A m c] w fun e w' => e = .returned (.int .i64 (chkZ al)) ∧ Below w.heap.size w w' := by
  have Hx := Lib.hid hx
  clear hx
  go_enter Tryz.func28, Tryz.ntmps28
  go_wp2
  go_loopw [4, 5, 8] (fun _ _ kv wr => ∃ k : Nat, k ≤ m ∧ kv = .int .i64 k ∧ Hid ((al.take k).any (fun s => decide (4096 < s.n)) = false ∧ Below w.heap.size w wr)) (fun _ _ kv _ => m - (intOf kv).toNat)
  case atStart => exact ⟨0, Nat.zero_le _, rfl, rfl, Below.refl _ _⟩
  case round =>
    obtain ⟨k, hk, rfl, H⟩ := hrel
    by_cases hlt : k < m
    · have hkl : k < al.length := by rw [Hx.out.1]; exact hlt
      obtain ⟨b, o, rfl, _, c0, c1⟩ := (Hx.out.below H.out.2).at (List.getElem?_eq_getElem hkl)
      have Hs := Lib.hid (anyZ_succ (fun s => decide (4096 < s.n)) al k hkl)
      have Hy := Lib.hid (anyZ_get (fun s => decide (4096 < s.n)) al k hkl)
      generalize al[k] = a at *
      obtain ⟨ag, aA, an, ac, axs⟩ := a
      simp only at c0 c1
      have hki : (k : Int) < m := by omega
      clear hkl
      have hbA : Below wr.heap.size wr (wr.alloc (.cells #[.bool ag, .slice aA an ac] 32)) := (Below.refl _ _).alloc (Nat.le_refl _) _
      have HbA := Lib.hid hbA
      clear hbA
      by_cases hz : 4096 < an
      · have HC := Lib.hid (chkS_one_big (A := aA) (c := ac) hz)
        have HR := Lib.hid (show chkZ al = 2 by rw [chkZ, if_pos (Hy.out (by simpa using hz))])
        clear hz
        go_wp2_with (fail)
        refine (fcheck_one aA an ac _ _ _ (by simp)).mono ?_
        rintro e w3 ⟨rfl, hb3⟩
        rw [HC.out]
        have HB := Lib.hid (H.out.2.trans ((HbA.out.trans (hb3.mono HbA.out.size)).mono H.out.2.size))
        clear hb3
        go_wp2_with (fail)
        go_ret
        rw [HR.out]
        exact ⟨rfl, HB.out⟩
      · have HC := Lib.hid (chkS_one (A := aA) (c := ac) (n := an) (by omega))
        have HN := Lib.hid (show (al.take (k + 1)).any (fun s => decide (4096 < s.n)) = false by rw [Hs.out, H.out.1]; simpa using hz)
        clear hz
        go_wp2_with (fail)
        refine (fcheck_one aA an ac _ _ _ (by simp)).mono ?_
        rintro e w3 ⟨rfl, hb3⟩
        rw [HC.out]
        have HB := Lib.hid (H.out.2.trans ((HbA.out.trans (hb3.mono HbA.out.size)).mono H.out.2.size))
        clear hb3 H
        go_wp2_with (fail)
        go_roundw
        case rel => exact ⟨k + 1, by omega, by go_num, HN.out, HB.out⟩
        case measure => simp [intOf]; omega
    · have hki : ¬ (k : Int) < m := by omega
      have HR := Lib.hid (show chkZ al = 0 by
        have h := H.out.1
        rw [List.take_of_length_le (by rw [Hx.out.1]; omega)] at h
        rw [chkZ, h]; rfl)
      go_wp2_with (fail)
      go_ret
      rw [HR.out]
      exact ⟨rfl, H.out.2⟩
end Go.Proofs.YthpgdpkemnhneaaGreatDoor

namespace Go.Proofs.YthpgdpkemnhneaaGreatDoor
open Go.RowKit Go.Shelf
set_option linter.unusedVariables false
set_option linter.unusedSimpArgs false
set_option maxRecDepth 10000

/-- the products that Karatsuba makes, and Toom -/
def kmF : Nat → Nat → Nat
  | 0, _ => 1
  | f + 1, n => if n ≤ 1 then 1 else 3 * kmF f (n / 2)
def tmF : Nat → Nat → Nat
  | 0, n => n * n
  | f + 1, n => if n ≤ 2 then n * n else 5 * tmF f ((n + 2) / 3)
theorem kmF_le : ∀ f n, kmF f n ≤ 3 ^ f
  | 0, _ => Nat.le_refl _
  | f + 1, n => by
    have h := kmF_le f (n / 2)
    rw [kmF, Nat.pow_succ]
    have := Nat.pow_pos (n := f) (show 0 < 3 by decide)
    split <;> omega
theorem sq_small {n : Nat} (h : n ≤ 2) : n * n ≤ 4 := by
  rcases (show n = 0 ∨ n = 1 ∨ n = 2 by omega) with rfl | rfl | rfl <;> decide
theorem tmF_le : ∀ f n, n ≤ 2 * 3 ^ f → tmF f n ≤ 4 * 5 ^ f
  | 0, n, h => by rw [tmF]; exact sq_small (by simpa using h)
  | f + 1, n, h => by
    have h1 := tmF_le f ((n + 2) / 3) (by rw [Nat.pow_succ] at h; omega)
    rw [tmF, Nat.pow_succ]
    have := Nat.pow_pos (n := f) (show 0 < 5 by decide)
    split
    · rename_i h2; have := sq_small h2; omega
    · omega

theorem schoolP_ok (n m : Nat) (w : World) (hm : n * n = m) (hn : n ≤ 100000) : Calls Tryz.prog 86 #[.int .i64 (n : Int)] w fun e w' => e = .returned (.int .i64 (m : Int)) ∧ w = w' := by
  have hm5 : m ≤ 10000000000 := by rw [← hm]; exact Nat.mul_le_mul hn hn
  have hmi : (n : Int) * (n : Int) = (m : Int) := by rw [← hm]; push_cast; rfl
  have hw : IntKind.i64.wrap (m : Int) = (m : Int) := IntWalk.i64_in _ (by omega)
  clear hm
  go_enter Tryz.func86, Tryz.ntmps86
  go_wp2
  go_ret
  exact ⟨rfl, rfl⟩

set_option maxHeartbeats 400000 in
theorem kara_ok : ∀ (f n : Nat), 1 ≤ n → n < 2 ^ (f + 1) → f ≤ 20 → ∀ w : World, Calls Tryz.prog 87 #[.int .i64 (n : Int)] w fun e w' => e = .returned (.int .i64 (kmF f n : Int)) ∧ w = w'
  | f, n, h1, h2, hf, w => by
    by_cases hn : n = 1
    · subst hn
      have hk : kmF f 1 = 1 := by cases f <;> simp [kmF]
      rw [hk]
      clear h1 h2
      go_enter Tryz.func87, Tryz.ntmps87
      go_wp2
      go_ret
      exact ⟨rfl, rfl⟩
    · obtain ⟨g, rfl⟩ : ∃ g, f = g + 1 := by
        cases f with
        | zero => simp at h2; omega
        | succ g => exact ⟨g, rfl⟩
      obtain ⟨m, hm⟩ : ∃ m, m = n / 2 := ⟨_, rfl⟩
      have ih := Lib.hid (kara_ok g m (by omega) (by rw [Nat.pow_succ] at h2; omega) (by omega) w)
      obtain ⟨k, hk⟩ : ∃ k, kmF g m = k := ⟨_, rfl⟩
      have hk2 : kmF (g + 1) n = 3 * k := by rw [kmF, if_neg (by omega), ← hm, hk]
      rw [hk2]
      rw [hk] at ih
      have hk3 := kmF_le g m
      have hk4 : 3 ^ g ≤ 3 ^ 20 := Nat.pow_le_pow_right (by decide) (by omega)
      have hk5 : k ≤ 3486784401 := by rw [hk] at hk3; exact Nat.le_trans hk3 hk4
      have hd : (n : Int).tdiv 2 = (m : Int) := by rw [Int.tdiv_eq_ediv_of_nonneg (by omega)]; omega
      have hd2 : (n : Int) / 2 = (m : Int) := by omega
      have hn5 : ((n : Int) == 1) = false := by simp; omega
      have hwm : IntKind.i64.wrap (m : Int) = (m : Int) := by
        have : 2 ^ (g + 1 + 1) ≤ 2 ^ 22 := Nat.pow_le_pow_right (by decide) (by omega)
        exact IntWalk.i64_in _ (by omega)
      have hw3 : IntKind.i64.wrap (3 * (k : Int)) = 3 * (k : Int) := IntWalk.i64_in _ (by omega)
      have hc : ((3 * k : Nat) : Int) = 3 * (k : Int) := by omega
      rw [hc]
      clear h1 h2 hm hk hk2 hk3 hk4 hn
      go_enter Tryz.func87, Tryz.ntmps87
      go_wp2_with (fail)
      refine ih.out.mono ?_
      rintro e w1 ⟨rfl, rfl⟩
      go_wp2_with (fail)
      go_ret
      exact ⟨rfl, rfl⟩

set_option maxHeartbeats 400000 in
theorem toomP_ok : ∀ (f n : Nat), n ≤ 2 * 3 ^ f → f ≤ 9 → ∀ w : World, Calls Tryz.prog 88 #[.int .i64 (n : Int)] w fun e w' => e = .returned (.int .i64 (tmF f n : Int)) ∧ w = w'
  | f, n, h2, hf, w => by
    by_cases hn : n ≤ 2
    · obtain ⟨m, hm⟩ : ∃ m, n * n = m := ⟨_, rfl⟩
      have hk : tmF f n = m := by cases f <;> simp [tmF, hm, hn]
      rw [hk]
      have hni : (n : Int) ≤ 2 := by omega
      have hm5 : m ≤ 4 := by rw [← hm]; exact sq_small hn
      have hmi : (n : Int) * (n : Int) = (m : Int) := by rw [← hm]; push_cast; rfl
      clear h2 hk
      go_enter Tryz.func88, Tryz.ntmps88
      go_wp2_with (fail)
      refine (schoolP_ok n m w hm (by omega)).mono ?_
      rintro e w1 ⟨rfl, rfl⟩
      go_wp2_with (fail)
      go_ret
      exact ⟨rfl, rfl⟩
    · obtain ⟨g, rfl⟩ : ∃ g, f = g + 1 := by
        cases f with
        | zero => simp at h2; omega
        | succ g => exact ⟨g, rfl⟩
      obtain ⟨m, hm⟩ : ∃ m, m = (n + 2) / 3 := ⟨_, rfl⟩
      have hm9 : m ≤ 2 * 3 ^ g := by rw [Nat.pow_succ] at h2; omega
      have ih := Lib.hid (toomP_ok g m hm9 (by omega) w)
      obtain ⟨k, hk⟩ : ∃ k, tmF g m = k := ⟨_, rfl⟩
      have hk2 : tmF (g + 1) n = 5 * k := by rw [tmF, if_neg (by omega), ← hm, hk]
      rw [hk2]
      rw [hk] at ih
      have hk3 := tmF_le g m hm9
      have hk4 : 5 ^ g ≤ 5 ^ 9 := Nat.pow_le_pow_right (by decide) (by omega)
      have hk6 : 3 ^ g ≤ 3 ^ 9 := Nat.pow_le_pow_right (by decide) (by omega)
      have hk5 : k ≤ 7812500 := by rw [hk] at hk3; omega
      have hn9 : n ≤ 200000 := by omega
      have hd : ((n : Int) + 2).tdiv 3 = (m : Int) := by rw [Int.tdiv_eq_ediv_of_nonneg (by omega)]; omega
      have hd2 : ((n : Int) + 2) / 3 = (m : Int) := by omega
      have hni : ¬ (n : Int) ≤ 2 := by omega
      have hwm : IntKind.i64.wrap (m : Int) = (m : Int) := IntWalk.i64_in _ (by omega)
      have hw2 : IntKind.i64.wrap ((n : Int) + 2) = (n : Int) + 2 := IntWalk.i64_in _ (by omega)
      have hw3 : IntKind.i64.wrap (5 * (k : Int)) = 5 * (k : Int) := IntWalk.i64_in _ (by omega)
      have hc : ((5 * k : Nat) : Int) = 5 * (k : Int) := by omega
      rw [hc]
      clear h2 hm hk hk2 hk3 hk4 hk6 hn hm9
      go_enter Tryz.func88, Tryz.ntmps88
      go_wp2_with (fail)
      refine ih.out.mono ?_
      rintro e w1 ⟨rfl, rfl⟩
      go_wp2_with (fail)
      go_ret
      exact ⟨rfl, rfl⟩

/-- what three ways take -/
def costV (n : Nat) : List Value := [.int .i64 ((n * n : Nat) : Int), .int .i64 (kmF 14 n : Int), .int .i64 (tmF 9 n : Int)]
end Go.Proofs.YthpgdpkemnhneaaGreatDoor


namespace Go.Proofs.YthpgdpkemnhneaaGreatDoor
open Go.RowKit Go.Shelf
set_option linter.unusedVariables false
set_option linter.unusedSimpArgs false
set_option maxRecDepth 10000

/-- whether numbers of so many bits are taken -/
def BitsU (b : Nat) : Int := bits BinOp.and IntKind.i64 (b : Int) ((b : Int) - 1)
theorem Products_out (b : Int) (w : World) (hb : b < 64 ∨ 1048576 < b) : Calls Tryz.prog 55 #[.int .i64 b] w fun e w' => e = .returned (.tuple #[.int .i64 0, .int .i64 0, .int .i64 0, .int .i64 1]) ∧ w = w' := by
  by_cases h1 : b < 64
  · clear hb
    go_enter Tryz.func55, Tryz.ntmps55
    go_wp2
    exact bodyPost_ret (v := .tuple #[.int .i64 0, .int .i64 0, .int .i64 0, .int .i64 1]) (by simp [results, Tryz.results55, go_sem]) rfl ⟨rfl, rfl⟩
  · have h2 : 1048576 < b := by omega
    clear hb
    go_enter Tryz.func55, Tryz.ntmps55
    go_wp2
    exact bodyPost_ret (v := .tuple #[.int .i64 0, .int .i64 0, .int .i64 0, .int .i64 1]) (by simp [results, Tryz.results55, go_sem]) rfl ⟨rfl, rfl⟩
theorem Products_not (b : Nat) (w : World) (h1 : 64 ≤ b) (h2 : b ≤ 1048576) (hu : BitsU b ≠ 0) : Calls Tryz.prog 55 #[.int .i64 (b : Int)] w fun e w' => e = .returned (.tuple #[.int .i64 0, .int .i64 0, .int .i64 0, .int .i64 1]) ∧ w = w' := by
  have a1 : ¬ (b : Int) < 64 := by omega
  have a2 : ¬ 1048576 < (b : Int) := by omega
  obtain ⟨u, hU⟩ : ∃ u, bits BinOp.and IntKind.i64 (b : Int) ((b : Int) - 1) = u := ⟨_, rfl⟩
  have hu0 : (u == 0) = false := by rw [BitsU, hU] at hu; simpa using hu
  have hu1 : (u != 0) = true := by rw [bne, hu0]; rfl
  clear hu
  go_enter Tryz.func55, Tryz.ntmps55
  go_wp2
  exact bodyPost_ret (v := .tuple #[.int .i64 0, .int .i64 0, .int .i64 0, .int .i64 1]) (by simp [results, Tryz.results55, go_sem]) rfl ⟨rfl, rfl⟩
set_option maxHeartbeats 1000000 in
theorem Products_ok (b n : Nat) (w : World) (h1 : 64 ≤ b) (h2 : b ≤ 1048576) (hn : b / 64 = n) (hu : BitsU b = 0) : Calls Tryz.prog 55 #[.int .i64 (b : Int)] w fun e w' => e = .returned (.tuple #[.int .i64 ((n * n : Nat) : Int), .int .i64 (kmF 14 n : Int), .int .i64 (tmF 9 n : Int), .int .i64 0]) ∧ w = w' := by
  have a1 : ¬ (b : Int) < 64 := by omega
  have a2 : ¬ 1048576 < (b : Int) := by omega
  have a3 : bits BinOp.and IntKind.i64 (b : Int) ((b : Int) - 1) = 0 := hu
  have a4 : (b : Int).tdiv 64 = (n : Int) := by rw [Int.tdiv_eq_ediv_of_nonneg (by omega)]; omega
  have a5 : (b : Int) / 64 = (n : Int) := by omega
  have a6 : IntKind.i64.wrap (n : Int) = (n : Int) := IntWalk.i64_in _ (by omega)
  obtain ⟨m, hm⟩ : ∃ m, n * n = m := ⟨_, rfl⟩
  have Hs := Lib.hid (fun w => schoolP_ok n m w hm (by omega))
  have Hk := Lib.hid (fun w => kara_ok 14 n (by omega) (by omega) (by omega) w)
  have Ht := Lib.hid (fun w => toomP_ok 9 n (by omega) (by omega) w)
  rw [hm]
  generalize kmF 14 n = k at *
  generalize tmF 9 n = t at *
  clear hm hu hn
  go_enter Tryz.func55, Tryz.ntmps55
  go_wp2_with (fail)
  refine (Hs.out w).mono ?_
  rintro e w1 ⟨rfl, rfl⟩
  go_wp2_with (fail)
  refine (Hk.out w).mono ?_
  rintro e w1 ⟨rfl, rfl⟩
  go_wp2_with (fail)
  refine (Ht.out w).mono ?_
  rintro e w1 ⟨rfl, rfl⟩
  go_wp2_with (fail)
  exact bodyPost_ret (v := .tuple #[.int .i64 (m : Int), .int .i64 (k : Int), .int .i64 (t : Int), .int .i64 0]) (by simp [results, Tryz.results55, go_sem]) rfl ⟨rfl, rfl⟩
end Go.Proofs.YthpgdpkemnhneaaGreatDoor
