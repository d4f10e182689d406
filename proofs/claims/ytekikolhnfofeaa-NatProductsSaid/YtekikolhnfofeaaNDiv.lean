/- The contract of nat.DivMod, over the contract of nat.long where the divisor is longer than a word. -/
import Derived.Test.YtekikolhnfofeaaNDivW
import Derived.Test.YtekikolhnfofeaaRSum
namespace Go.Proofs.Ytekikolhnfofeaa
open Go.RowKit Go.Shelf
set_option linter.unusedVariables false
set_option maxRecDepth 10000

/-- the contract of long -/
def LongC : Prop := ∀ (A A' : Option Addr) (n m c c' : Nat) (xs ys : List Nat) (w : World), n ≤ 4096 → 2 ≤ m → m ≤ n → Sl w A n c xs → Sl w A' m c' ys → Cn ys →
  Calls Try.prog 77 #[.slice A n c, .slice A' m c'] w fun e w' => ∃ v v', e = .returned (.tuple #[v, v']) ∧ Nt w w' v (V xs / V ys) ∧ Nt w w' v' (V xs % V ys) ∧ Below w.heap.size w w'

theorem Nt_nil' {w w' : World} {x : Nat} (h : x = 0) : Nt w w' (.slice none 0 0) x := by subst h; exact Nt.nil w w'

set_option maxHeartbeats 4000000 in
theorem NDivMod_ok (A A' : Option Addr) (n n' c c' : Nat) (xs ys : List Nat) (w : World) (hn : n ≤ 4096) (hn' : n' ≤ 4096) (hx : Sl w A n c xs) (hy : Sl w A' n' c' ys) (h0 : 0 < V ys) (hL : LongC ∨ V ys < B64) :
    Calls Try.prog 28 #[.slice A n c, .slice A' n' c'] w fun e w' => ∃ v v', e = .returned (.tuple #[v, v', .int .i64 0]) ∧ Nt w w' v (V xs / V ys) ∧ Nt w w' v' (V xs % V ys) ∧ Below w.heap.size w w' := by
  have Hx := Lib.hid (And.intro hx (And.intro hy (And.intro h0 hL)))
  have Hk := Lib.hid (chkS_two (A := A) (A' := A') (c := c) (c' := c') hn hn')
  clear hx hy h0 hL
  go_enter Try.func28, Try.ntmps28
  go_wp2_with (fail)
  refine (checkSizes_two A A' _ _ c c' _ _ w rfl).mono ?_
  rintro e w1 ⟨rfl, hb1⟩
  rw [Hk.out]
  have H1 := Lib.hid (And.intro (Hx.out.1.below hb1) (And.intro (Hx.out.2.1.below hb1) hb1))
  clear hb1
  go_wp2_with (fail)
  refine (used_ok A n c xs w1 (by omega) H1.out.1).mono ?_
  rintro e w2 ⟨k, rfl, hk, hH, rfl⟩
  go_wp2_with (fail)
  refine (used_ok A' n' c' ys w1 (by omega) H1.out.2.1).mono ?_
  rintro e w2 ⟨k', rfl, hk', hH', rfl⟩
  have Hs := Lib.hid (And.intro (H1.out.1.tk hk) (H1.out.2.1.tk hk'))
  have hk0 : 0 < k' := by
    rcases Nat.eq_zero_or_pos k' with rfl | h
    · have h1 := hH'.out.1
      have h2 := Hx.out.2.2.1
      rw [← h1] at h2
      simp [V] at h2
    · exact h
  have e0 : ((k' : Int) == 0) = false := by simp; omega
  have hM : k ≤ 4096 := by omega
  by_cases hlt : k < k'
  · have hlti : (k : Int) < k' := by omega
    have hvlt : V xs < V ys := by
      have h1 := Hs.out.1.lt
      rw [hH.out.1] at h1
      have h2 := V_ge hH'.out.2 (show (ys.take k').length = (k' - 1) + 1 by rw [Hs.out.2.1]; omega)
      rw [hH'.out.1] at h2
      have h3 : B64 ^ k ≤ B64 ^ (k' - 1) := Nat.pow_le_pow_right B64_pos (by omega)
      omega
    have HV := Lib.hid hvlt
    clear hvlt
    go_wp2_with (fail)
    refine (NTrim_ok A k c (xs.take k) w1 (by omega) Hs.out.1).mono ?_
    rintro e w2 ⟨v, rfl, hN, hb2⟩
    have H2 := Lib.hid (And.intro hN hb2)
    clear hN hb2
    go_wp2_with (fail)
    go_ret3
    refine ⟨_, v, rfl, Nt_nil' (Nat.div_eq_of_lt HV.out), ?_, H1.out.2.2.trans (H2.out.2.mono H1.out.2.2.size)⟩
    rw [Nat.mod_eq_of_lt HV.out, ← hH.out.1]
    exact H2.out.1.base H1.out.2.2.size
  · have hlti : ¬ (k : Int) < k' := by omega
    by_cases h1 : k' = 1
    · subst h1
      obtain ⟨z, hz, hzB, hzV⟩ := one_of Hs.out.2.1 Hs.out.2.2.2.2.1
      obtain ⟨b, o, hAe, _, hcx⟩ := Hs.out.2.2.2.2.2.at (uvs_get (show (ys.take 1)[0]? = some z by rw [hz]; rfl))
      have hzv : V ys = z := by rw [← hH'.out.1]; exact hzV
      have HZ := Lib.hid (And.intro hzB (And.intro hzv (show 0 < z by rw [← hzv]; exact Hx.out.2.2.1)))
      clear hz hzB hzV hzv
      subst hAe
      rw [Nat.add_zero] at hcx
      go_wp2_with (fail)
      refine (NDivWord_ok A k c (xs.take k) z w1 hM Hs.out.1 HZ.out.1 HZ.out.2.2).mono ?_
      rintro e w2 ⟨v, r, rfl, hN, hr, hb2⟩
      have hrB : r < B64 := by rw [hr]; exact Nat.lt_trans (Nat.mod_lt _ HZ.out.2.2) HZ.out.1
      have H2 := Lib.hid (And.intro hN (And.intro hr hb2))
      clear hN hr hb2
      obtain ⟨A2, n2, c2, zs2, rfl, _⟩ := H2.out.1.sl
      go_wp2_with (fail)
      refine (NFromWord_ok r w2 hrB).mono ?_
      rintro e w3 ⟨v3, rfl, hN3, hb3⟩
      have H3 := Lib.hid (And.intro hN3 hb3)
      clear hN3 hb3
      have hb12 := H1.out.2.2.trans (H2.out.2.2.mono H1.out.2.2.size)
      have HF := Lib.hid (And.intro hb12 (hb12.trans (H3.out.2.mono hb12.size)))
      clear hb12
      go_wp2_with (fail)
      go_ret3
      refine ⟨_, v3, rfl, ?_, ?_, HF.out.2⟩
      · rw [HZ.out.2.1, ← hH.out.1]
        exact H2.out.1.later H1.out.2.2.size H3.out.2
      · rw [HZ.out.2.1, ← hH.out.1, ← H2.out.2.1]
        exact H3.out.1.base HF.out.1.size
    · have hk2 : 2 ≤ k' := by omega
      have e1 : ((k' : Int) == 1) = false := by simp; omega
      have hLC : LongC := by
        rcases Hx.out.2.2.2 with h | h
        · exact h
        · exfalso
          have h2 := V_ge hH'.out.2 (show (ys.take k').length = (k' - 1) + 1 by rw [Hs.out.2.1]; omega)
          rw [hH'.out.1] at h2
          have h3 : B64 ^ 1 ≤ B64 ^ (k' - 1) := Nat.pow_le_pow_right B64_pos (by omega)
          rw [Nat.pow_one] at h3
          omega
      go_wp2_with (fail)
      refine (hLC A A' k k' c c' (xs.take k) (ys.take k') w1 hM hk2 (by omega) Hs.out.1 Hs.out.2 hH'.out.2).mono ?_
      rintro e w2 ⟨v, v', rfl, hN, hN', hb2⟩
      rw [hH.out.1, hH'.out.1] at hN hN'
      have H2 := Lib.hid (And.intro hN (And.intro hN' hb2))
      clear hN hN' hb2 hLC
      go_wp2_with (fail)
      go_ret3
      exact ⟨v, v', rfl, H2.out.1.base H1.out.2.2.size, H2.out.2.1.base H1.out.2.2.size, H1.out.2.2.trans (H2.out.2.2.mono H1.out.2.2.size)⟩

set_option maxHeartbeats 400000 in
theorem NDivMod_zero (A A' : Option Addr) (n n' c c' : Nat) (xs ys : List Nat) (w : World) (hn : n ≤ 4096) (hn' : n' ≤ 4096) (hx : Sl w A n c xs) (hy : Sl w A' n' c' ys) (h0 : V ys = 0) :
    Calls Try.prog 28 #[.slice A n c, .slice A' n' c'] w fun e w' => e = .returned (.tuple #[.slice none 0 0, .slice none 0 0, .int .i64 5]) ∧ Below w.heap.size w w' := by
  have Hx := Lib.hid (And.intro hx (And.intro hy h0))
  have Hk := Lib.hid (chkS_two (A := A) (A' := A') (c := c) (c' := c') hn hn')
  clear hx hy h0
  go_enter Try.func28, Try.ntmps28
  go_wp2_with (fail)
  refine (checkSizes_two A A' _ _ c c' _ _ w rfl).mono ?_
  rintro e w1 ⟨rfl, hb1⟩
  rw [Hk.out]
  have H1 := Lib.hid (And.intro (Hx.out.1.below hb1) (And.intro (Hx.out.2.1.below hb1) hb1))
  clear hb1
  go_wp2_with (fail)
  refine (used_ok A n c xs w1 (by omega) H1.out.1).mono ?_
  rintro e w2 ⟨k, rfl, hk, hH, rfl⟩
  go_wp2_with (fail)
  refine (used_ok A' n' c' ys w1 (by omega) H1.out.2.1).mono ?_
  rintro e w2 ⟨k', rfl, hk', hH', rfl⟩
  obtain rfl : k' = 0 := by
    have h := (V_zero (Ws_take H1.out.2.1.2.2.2.1 k') hH'.out.2).1 (by rw [hH'.out.1]; exact Hx.out.2.2)
    have hl := (H1.out.2.1.tk hk').1
    rw [h] at hl
    simpa using hl.symm
  go_wp2_with (fail)
  go_ret3
  exact ⟨rfl, H1.out.2.2⟩
end Go.Proofs.Ytekikolhnfofeaa
