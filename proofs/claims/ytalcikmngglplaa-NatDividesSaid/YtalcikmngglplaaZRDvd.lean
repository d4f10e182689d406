/- The contracts of reckonerref01.Divide, by any digits, and of reckonerref02.DivMod. -/
import Derived.Test.YtalcikmngglplaaZDvW
import Derived.Test.YtalcikmngglplaaP1
namespace Go.Proofs.Ytalcikmngglplaa
open Go.RowKit
set_option linter.unusedVariables false
set_option linter.unusedSimpArgs false
set_option maxRecDepth 10000

set_option maxHeartbeats 1000000 in
theorem Divide_few (Aa Ab : Option Addr) (N nb ca cb : Nat) (xs bs0 : List Nat) (w : World) (hN2 : N ≤ 50000) (hnb : nb ≤ 50000) (hx : Sl w Aa N ca xs) (dx : Dg xs) (hb : Sl w Ab nb cb bs0) (db : Dg bs0) (h0 : 0 < VD bs0) (h1 : VD bs0 < H32) :
    Calls Try.prog 79 #[.slice Aa N ca, .slice Ab nb cb] w fun e w' => ∃ v A' n' c' rs qs K, e = .returned (.tuple #[v, .slice A' n' c']) ∧ DvR w w' v A' n' c' K qs rs (VD xs) (VD bs0) (N + 2) := by
  have Hx := Lib.hid (And.intro hx (And.intro dx (And.intro hb (And.intro db (And.intro h0 h1)))))
  clear hx dx hb db h0 h1
  go_enter Try.func79, Try.ntmps79
  go_wp2_with (fail)
  refine (Short_ok _ nb _ bs0 _ (by omega) Hx.out.2.2.1 Hx.out.2.2.2.1).mono ?_
  rintro e w' ⟨n, rfl, hk, rfl⟩
  have hdg := dv_digits Hx.out.2.2.2.1 (by rw [Hx.out.2.2.1.1]; exact hk.out.1) (D := VD bs0) hk.out.2.1 hk.out.2.2
  have hn1 : n = 1 := by
    rcases Nat.eq_zero_or_pos n with h | h
    · exfalso
      have := hdg.1
      rw [h, Nat.pow_zero] at this
      have := Hx.out.2.2.2.2.1
      omega
    · obtain ⟨m, hm⟩ : ∃ m, n = m + 1 := ⟨n - 1, by omega⟩
      have h2 := hdg.2 m hm
      have h3 : H32 ^ m < H32 ^ 1 := by rw [Nat.pow_one]; exact Nat.lt_of_le_of_lt h2 Hx.out.2.2.2.2.2
      have := (Nat.pow_lt_pow_iff_right (show 1 < H32 by decide)).1 h3
      omega
  subst hn1
  have hl : 0 < bs0.length := by rw [Hx.out.2.2.1.1]; have := hk.out.1; omega
  have hg := List.getElem?_eq_getElem hl
  obtain ⟨d, hd⟩ : ∃ d, bs0[0]'hl = d := ⟨_, rfl⟩
  rw [hd] at hg
  have hdv : VD bs0 = d := by
    rw [← hk.out.2.1]
    match bs0, hg with
    | x :: t, hg => simp at hg; subst hg; simp [VD]
  obtain ⟨bb, ob, rfl, hbb, hcb⟩ := Hx.out.2.2.1.2.2.2.2.at (uvs_get hg)
  rw [Nat.add_zero] at hcb
  have HD := Lib.hid hdv
  clear hk hdg hg hd hl hdv
  go_wp2_with (fail)
  refine (one_ok _ _ _ xs d _ (by omega) Hx.out.1 Hx.out.2.1 (by rw [← HD.out]; exact Hx.out.2.2.2.2.1) (by rw [← HD.out]; exact Hx.out.2.2.2.2.2)).mono ?_
  rintro e w2 ⟨v, qs, A', r, rfl, hn, hd, hs, hr, hv, hb⟩
  have HF := Lib.hid (And.intro hn (And.intro hd (And.intro hs (And.intro hr (And.intro hv hb)))))
  clear hn hd hs hr hv hb
  go_wp2_with (fail)
  go_ret2
  obtain ⟨h1, h2, h3, h4, h5, h6⟩ := HF.out
  have e : VD [r] = r := by simp [VD]
  have hdH : d < H32 := by rw [← HD.out]; exact Hx.out.2.2.2.2.2
  refine ⟨v, A', 1, 1, [r], qs, N, rfl, by omega, by omega, h1, h2, h3, fun z hz => by rw [List.mem_singleton] at hz; rw [hz]; omega, ?_, ?_, h6⟩
  · rw [e, HD.out]; exact h5
  · rw [e, HD.out]; exact h4
theorem Divide_any (Aa Ab : Option Addr) (N nb ca cb : Nat) (xs bs0 : List Nat) (w : World) (hN2 : N ≤ 50000) (hnb : nb ≤ 50000) (hx : Sl w Aa N ca xs) (dx : Dg xs) (hb : Sl w Ab nb cb bs0) (db : Dg bs0) (h0 : 0 < VD bs0) :
    Calls Try.prog 79 #[.slice Aa N ca, .slice Ab nb cb] w fun e w' => ∃ v A' n' c' rs qs K, e = .returned (.tuple #[v, .slice A' n' c']) ∧ DvR w w' v A' n' c' K qs rs (VD xs) (VD bs0) (N + 2) := by
  rcases Nat.lt_or_ge (VD bs0) H32 with h | h
  · exact Divide_few Aa Ab N nb ca cb xs bs0 w hN2 hnb hx dx hb db h0 h
  · exact Divide_many Aa Ab N nb ca cb xs bs0 w hN2 hnb hx dx hb db h
set_option maxHeartbeats 1000000 in
theorem RDivMod_ok (A A' : Option Addr) (n n' c c' : Nat) (xs ys : List Nat) (w : World) (hn : n ≤ 4096) (hn' : n' ≤ 4096) (hx : Sl w A n c xs) (hy : Sl w A' n' c' ys) (h0 : 0 < V ys) :
    Calls Try.prog 31 #[.slice A n c, .slice A' n' c'] w fun e w' => ∃ v v', e = .returned (.tuple #[v, v']) ∧ Nt w w' v (V xs / V ys) ∧ Nt w w' v' (V xs % V ys) ∧ Below w.heap.size w w' := by
  have Hx := Lib.hid (And.intro hx (And.intro hy h0))
  clear hx hy h0
  go_enter Try.func31, Try.ntmps31
  go_wp2_with (fail)
  refine (Digits_ok _ _ _ xs _ (by omega) Hx.out.1).mono ?_
  rintro e w1 ⟨v1, ds, rfl, hn1, hd1, hv1, hb1⟩
  obtain ⟨A1, c1, rfl, hs1⟩ := hn1.sl
  have H1 := Lib.hid (And.intro hs1 (And.intro hd1 (And.intro hv1 (And.intro (Hx.out.2.1.below hb1) hb1))))
  clear hn1 hd1 hv1 hb1 hs1
  go_wp2_with (fail)
  refine (Digits_ok _ _ _ ys _ (by omega) H1.out.2.2.2.1).mono ?_
  rintro e w2 ⟨v2, es, rfl, hn2, hd2, hv2, hb2⟩
  obtain ⟨A2, c2, rfl, hs2⟩ := hn2.sl
  have H2 := Lib.hid (And.intro (H1.out.1.below hb2) (And.intro hs2 (And.intro hd2 (And.intro hv2 (H1.out.2.2.2.2.trans (hb2.mono H1.out.2.2.2.2.size))))))
  clear hn2 hd2 hv2 hb2 hs2
  have hN2 : 2 * n ≤ 8192 := by omega
  have hM2 : 2 * n' ≤ 8192 := by omega
  generalize 2 * n = P at *
  generalize 2 * n' = Q at *
  go_wp2_with (fail)
  refine (Divide_any _ _ P Q _ _ ds es _ (by omega) (by omega) H2.out.1 H1.out.2.1 H2.out.2.1 H2.out.2.2.1 (by rw [H2.out.2.2.2.1]; exact Hx.out.2.2)).mono ?_
  rintro e w3 ⟨v3, A3, n3, c3, rs, qs, K, rfl, hR⟩
  obtain ⟨r1, r2, r3, r4, r5, r6, r7, r8, r9⟩ := hR
  obtain ⟨A4, c4, rfl, hs4⟩ := r3.sl
  rw [H1.out.2.2.1, H2.out.2.2.2.1] at r7
  rw [H2.out.2.2.2.1] at r8
  have hq : VD qs = V xs / V ys ∧ VD rs = V xs % V ys := by
    have h0 := Hx.out.2.2
    rw [← r7]
    refine ⟨?_, ?_⟩
    · rw [Nat.mul_comm, Nat.mul_add_div h0, Nat.div_eq_of_lt r8, Nat.add_zero]
    · rw [Nat.mul_comm, Nat.mul_add_mod, Nat.mod_eq_of_lt r8]
  have hK8 : K ≤ 18000 := by omega
  have hn8 : n3 ≤ 18000 := by omega
  have H3 := Lib.hid (And.intro hs4 (And.intro r4 (And.intro r5 (And.intro r6 (And.intro hq (H2.out.2.2.2.2.trans (r9.mono H2.out.2.2.2.2.size)))))))
  clear hs4 r1 r2 r3 r4 r5 r6 r7 r8 r9 hq
  go_wp2_with (fail)
  refine (nat_ok _ K _ qs _ hK8 H3.out.1 H3.out.2.1).mono ?_
  rintro e w5 hR5
  obtain ⟨v5, rfl, h5, b5⟩ := hR5
  have hbw := H3.out.2.2.2.2.2
  have H5 := Lib.hid (And.intro (H3.out.2.2.1.below b5) (And.intro (h5.base hbw.size) (And.intro (hbw.trans (b5.mono hbw.size)) (And.intro H3.out.2.2.2.1 H3.out.2.2.2.2.1))))
  clear h5 b5 H3 hbw
  go_wp2_with (fail)
  refine (nat_ok _ n3 _ rs _ hn8 H5.out.1 H5.out.2.2.2.1).mono ?_
  rintro e w6 ⟨v6, rfl, h6, b6⟩
  have hbw := H5.out.2.2.1
  have H6 := Lib.hid (And.intro (H5.out.2.1.later (Nat.le_refl _) b6) (And.intro (h6.base hbw.size) (And.intro (hbw.trans (b6.mono hbw.size)) H5.out.2.2.2.2)))
  clear h6 b6 H5 hbw
  go_wp2_with (fail)
  go_ret2
  obtain ⟨f1, f2, f3, f4, f5⟩ := H6.out
  rw [f4] at f1
  rw [f5] at f2
  exact ⟨v5, v6, rfl, f1, f2, f3⟩
end Go.Proofs.Ytalcikmngglplaa
