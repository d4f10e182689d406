/- The law's tame. -/
import Derived.Test.YthpgdpkemnhneaaDoorZYLst
namespace Go.Proofs.YthpgdpkemnhneaaDoor
open Go.RowKit Go.Shelf
set_option linter.unusedVariables false
set_option linter.unusedSimpArgs false
set_option maxRecDepth 10000

set_option maxHeartbeats 1000000 in
theorem tame_ok (A : Option Addr) (n c m : Nat) (xs : List Nat) (w : World) (hm : m ≤ 16) (hn : n ≤ 9223372036854775807) (hx : Sl w A n c xs) :
    Calls Tryd.prog 17 #[.slice A n c, .int .i64 m] w fun e w' => ∃ s, s ≤ m ∧ RwR 43 w w' e (2 ^ s) (fun i => yx xs i % PP) := by
  obtain ⟨i0, hi, hz0, hz1, hz2⟩ := info_parts Tryd.info43
  obtain ⟨F, hF⟩ : ∃ F : Nat → Nat, F = fun i => yx xs i % PP := ⟨_, rfl⟩
  rw [← hF]
  have HF : Hid ((∀ i, F i = yx xs i % PP) ∧ (∀ i, n ≤ i → F i = 0)) := Lib.hid ⟨fun i => by rw [hF], fun i hi => by rw [hF]; simp [yx_far (show xs.length ≤ i by rw [hx.1]; exact hi)]⟩
  have hp : (2 : Nat) ^ m ≤ 65536 := Nat.pow_le_pow_right (n := 2) (by decide) hm
  obtain ⟨M, hM⟩ : ∃ M : Nat, 2 ^ m = M := ⟨_, rfl⟩
  have hMi : IntKind.i64.wrap (2 ^ m) = (M : Int) := by
    rw [show ((2 : Int) ^ m) = ((2 ^ m : Nat) : Int) by push_cast; rfl, hM]
    exact IntWalk.i64_in _ (by omega)
  have hm0 : (0 : Int) ≤ (m : Int) := by omega
  have hm64 : (m : Int) ≤ 64 := by omega
  rw [hM] at hp
  have HM := Lib.hid hM
  have Hx := Lib.hid hx
  clear hx hF hM
  go_enter Tryd.func17, Tryd.ntmps17
  go_wp2_with (fail)
  go_loopw [5] (fun iv wr => ∃ N : Nat, 1 ≤ N ∧ N ≤ 65536 ∧ iv = .int .i64 N ∧ Hid ((∃ s, s ≤ m ∧ N = 2 ^ s) ∧ w = wr)) (fun iv _ => 131072 - (intOf iv).toNat)
  case atStart => exact ⟨1, by omega, by omega, rfl, Lib.hid ⟨⟨0, by omega, rfl⟩, rfl⟩⟩
  case round =>
    obtain ⟨N, hN1, hN5, rfl, hH⟩ := hrel
    obtain rfl := hH.out.2
    obtain ⟨N2, hN2⟩ : ∃ N2, N2 = 2 * N := ⟨_, rfl⟩
    have e1 : IntKind.i64.wrap (2 * (N : Int)) = (N2 : Int) := by rw [show (2 * (N : Int)) = (N2 : Int) by omega]; exact IntWalk.i64_in _ (by omega)
    have HN2 := Lib.hid hN2
    clear hN2
    by_cases h1 : (N2 : Int) ≤ (n : Int)
    · by_cases h2 : (N2 : Int) ≤ (M : Int)
      · have HS : Hid ((∃ s, s ≤ m ∧ N2 = 2 ^ s) ∧ 1 ≤ N2 ∧ N < N2 ∧ N2 ≤ 65536) := Lib.hid ⟨by
          obtain ⟨s, hs, hs2⟩ := hH.out.1
          have h3 : N2 = 2 ^ (s + 1) := by rw [HN2.out, hs2, Nat.pow_succ, Nat.mul_comm]
          refine ⟨s + 1, ?_, h3⟩
          rcases Nat.lt_or_ge m (s + 1) with h4 | h4
          · exfalso
            have h5 := Nat.pow_lt_pow_right (a := 2) (by decide) h4
            rw [← h3, HM.out] at h5
            omega
          · exact h4, by have := HN2.out; omega, by have := HN2.out; omega, by omega⟩
        clear hH
        go_wp2_with (fail)
        go_roundw
        case rel => exact ⟨N2, HS.out.2.1, HS.out.2.2.2, rfl, Lib.hid ⟨HS.out.1, trivial⟩⟩
        case measure => simp [intOf]; have := HS.out; omega
      · skip
        go_wp2_with (at_make; refine wpList_make_full _ rfl _ _ 22 rfl w.heap.size 43 i0 (.int .u64 0) 1 Tryd.underlying22 hi hz0 hz1 .i64 .i64 _ _ N rfl rfl rfl rfl (by rw [hz2]; omega) (by unfold maxLen; omega) (Nat.le_refl _) ?_)
        intro w1 hown hgrow
        have hb1 := below_of_grown hgrow (Nat.le_refl _)
        have hr := Rw.made hown
        obtain ⟨g, hg⟩ : ∃ g, g = w.heap.size := ⟨_, rfl⟩
        rw [← hg] at hr ⊢
        have H0 : Hid (Below w.heap.size w w1 ∧ Rw 43 w1 g N (fun i => if i < 0 then F i else 0) ∧ w.heap.size ≤ g) := ⟨hb1, hr.congr (fun i _ => by simp), by omega⟩
        have HN := Lib.hid hH.out.1
        clear hown hgrow hb1 hr hg hH e1 HN2 h1 h2
        go_wp2_with (fail)
        go_loopw [7] (fun iv wr => ∃ (k : Nat), k ≤ N ∧ k ≤ n ∧ iv = .int .i64 k ∧ Hid (Below w.heap.size w wr ∧ Rw 43 wr g N (fun i => if i < k then F i else 0) ∧ w.heap.size ≤ g)) (fun iv _ => N - (intOf iv).toNat)
        case atStart => exact ⟨0, Nat.zero_le _, Nat.zero_le _, rfl, H0⟩
        case round =>
          clear H0
          obtain ⟨k, hk, hkn, rfl, hH⟩ := hrel
          by_cases hlt : k < N
          · have hki : (k : Int) < N := by omega
            by_cases hlm : k < n
            · have hkm : (k : Int) < n := by omega
              have hc := hH.out.2.1.cell hlt
              have hf := hH.out.2.1.frozen k
              obtain ⟨b, o, rfl, -, hcx⟩ := (Hx.out.below hH.out.1).rd hlm
              obtain ⟨x, hxv⟩ : ∃ x, yx xs k = x := ⟨_, rfl⟩
              rw [hxv] at hcx
              obtain ⟨z, hz3, hz4, hz5⟩ : ∃ z : Nat, (x : Int).tmod 18446744069414584321 = (z : Int) ∧ (x : Int) % 18446744069414584321 = (z : Int) ∧ x % 18446744069414584321 = z := ⟨x % 18446744069414584321, by rw [Int.tmod_eq_emod_of_nonneg (by omega)]; omega, by omega, rfl⟩
              have hzB : z < B64 := by have : B64 = 18446744073709551616 := rfl; omega
              have hz6 : IntKind.u64.wrap (z : Int) = (z : Int) := wrap_nat z hzB
              have HZ : F k = z := by rw [HF.out.1, hxv]; exact hz5
              have HNx : Hid (Below w.heap.size w (wr.setCell ⟨g, k, none⟩ (.int .u64 z)) ∧ Rw 43 (wr.setCell ⟨g, k, none⟩ (.int .u64 z)) g N (fun i => if i < k + 1 then F i else 0) ∧ w.heap.size ≤ g) := by
                obtain ⟨h1, h2, h3⟩ := hH.out
                refine ⟨h1.setCell h3 _, (h2.set k hzB).congr fun i hi => ?_, h3⟩
                by_cases h5 : i = k
                · subst h5; simp [HZ]
                · by_cases h6 : i < k
                  · simp [h5, h6, show i < k + 1 by omega]
                  · simp [h5, h6, show ¬ i < k + 1 by omega]
              clear hH hxv hz5 HZ
              go_wp2_with (fail)
              go_roundw
              case rel => exact ⟨k + 1, by omega, by omega, by go_num, HNx⟩
              case measure => simp [intOf]; omega
            · have hkm : ¬ (k : Int) < n := by omega
              go_wp2_with (fail)
              go_ret
              obtain ⟨s, hs, hs2⟩ := HN.out
              refine ⟨s, hs, ?_⟩
              rw [← hs2]
              exact ⟨g, _, rfl, Nat.le_refl _, by omega, (hH.out.2.1.congr (fun i hi => by
                by_cases h5 : i < k
                · simp [h5]
                · simp [h5, HF.out.2 i (by omega)])).pre, hH.out.2.2, hH.out.1⟩
          · have hki : ¬ (k : Int) < N := by omega
            obtain rfl : k = N := by omega
            go_wp2_with (fail)
            go_ret
            obtain ⟨s, hs, hs2⟩ := HN.out
            refine ⟨s, hs, ?_⟩
            rw [← hs2]
            exact ⟨g, _, rfl, Nat.le_refl _, by omega, (hH.out.2.1.congr (fun i hi => by simp [hi])).pre, hH.out.2.2, hH.out.1⟩
    · skip
      go_wp2_with (at_make; refine wpList_make_full _ rfl _ _ 22 rfl w.heap.size 43 i0 (.int .u64 0) 1 Tryd.underlying22 hi hz0 hz1 .i64 .i64 _ _ N rfl rfl rfl rfl (by rw [hz2]; omega) (by unfold maxLen; omega) (Nat.le_refl _) ?_)
      intro w1 hown hgrow
      have hb1 := below_of_grown hgrow (Nat.le_refl _)
      have hr := Rw.made hown
      obtain ⟨g, hg⟩ : ∃ g, g = w.heap.size := ⟨_, rfl⟩
      rw [← hg] at hr ⊢
      have H0 : Hid (Below w.heap.size w w1 ∧ Rw 43 w1 g N (fun i => if i < 0 then F i else 0) ∧ w.heap.size ≤ g) := ⟨hb1, hr.congr (fun i _ => by simp), by omega⟩
      have HN := Lib.hid hH.out.1
      clear hown hgrow hb1 hr hg hH e1 HN2 h1
      go_wp2_with (fail)
      go_loopw [7] (fun iv wr => ∃ (k : Nat), k ≤ N ∧ k ≤ n ∧ iv = .int .i64 k ∧ Hid (Below w.heap.size w wr ∧ Rw 43 wr g N (fun i => if i < k then F i else 0) ∧ w.heap.size ≤ g)) (fun iv _ => N - (intOf iv).toNat)
      case atStart => exact ⟨0, Nat.zero_le _, Nat.zero_le _, rfl, H0⟩
      case round =>
        clear H0
        obtain ⟨k, hk, hkn, rfl, hH⟩ := hrel
        by_cases hlt : k < N
        · have hki : (k : Int) < N := by omega
          by_cases hlm : k < n
          · have hkm : (k : Int) < n := by omega
            have hc := hH.out.2.1.cell hlt
            have hf := hH.out.2.1.frozen k
            obtain ⟨b, o, rfl, -, hcx⟩ := (Hx.out.below hH.out.1).rd hlm
            obtain ⟨x, hxv⟩ : ∃ x, yx xs k = x := ⟨_, rfl⟩
            rw [hxv] at hcx
            obtain ⟨z, hz3, hz4, hz5⟩ : ∃ z : Nat, (x : Int).tmod 18446744069414584321 = (z : Int) ∧ (x : Int) % 18446744069414584321 = (z : Int) ∧ x % 18446744069414584321 = z := ⟨x % 18446744069414584321, by rw [Int.tmod_eq_emod_of_nonneg (by omega)]; omega, by omega, rfl⟩
            have hzB : z < B64 := by have : B64 = 18446744073709551616 := rfl; omega
            have hz6 : IntKind.u64.wrap (z : Int) = (z : Int) := wrap_nat z hzB
            have HZ : F k = z := by rw [HF.out.1, hxv]; exact hz5
            have HNx : Hid (Below w.heap.size w (wr.setCell ⟨g, k, none⟩ (.int .u64 z)) ∧ Rw 43 (wr.setCell ⟨g, k, none⟩ (.int .u64 z)) g N (fun i => if i < k + 1 then F i else 0) ∧ w.heap.size ≤ g) := by
              obtain ⟨h1, h2, h3⟩ := hH.out
              refine ⟨h1.setCell h3 _, (h2.set k hzB).congr fun i hi => ?_, h3⟩
              by_cases h5 : i = k
              · subst h5; simp [HZ]
              · by_cases h6 : i < k
                · simp [h5, h6, show i < k + 1 by omega]
                · simp [h5, h6, show ¬ i < k + 1 by omega]
            clear hH hxv hz5 HZ
            go_wp2_with (fail)
            go_roundw
            case rel => exact ⟨k + 1, by omega, by omega, by go_num, HNx⟩
            case measure => simp [intOf]; omega
          · have hkm : ¬ (k : Int) < n := by omega
            go_wp2_with (fail)
            go_ret
            obtain ⟨s, hs, hs2⟩ := HN.out
            refine ⟨s, hs, ?_⟩
            rw [← hs2]
            exact ⟨g, _, rfl, Nat.le_refl _, by omega, (hH.out.2.1.congr (fun i hi => by
              by_cases h5 : i < k
              · simp [h5]
              · simp [h5, HF.out.2 i (by omega)])).pre, hH.out.2.2, hH.out.1⟩
        · have hki : ¬ (k : Int) < N := by omega
          obtain rfl : k = N := by omega
          go_wp2_with (fail)
          go_ret
          obtain ⟨s, hs, hs2⟩ := HN.out
          refine ⟨s, hs, ?_⟩
          rw [← hs2]
          exact ⟨g, _, rfl, Nat.le_refl _, by omega, (hH.out.2.1.congr (fun i hi => by simp [hi])).pre, hH.out.2.2, hH.out.1⟩
end Go.Proofs.YthpgdpkemnhneaaDoor
