/- The contract of nat.Cmp. -/
import Derived.Test.YtalcikmngglplaaDoorZCmpU
import Derived.Test.YtalcikmngglplaaDoorP1
namespace Go.Proofs.YtalcikmngglplaaDoor
open Go.RowKit Go.Shelf
set_option linter.unusedVariables false
set_option linter.unusedSimpArgs false
set_option maxRecDepth 10000

theorem isNaNI (a : Nat) (w : World) : Calls Tryd.prog 61 #[.int .i64 a] w fun e w' => e = .returned (.bool false) ∧ w = w' := by
  go_enter Tryd.func61, Tryd.ntmps61
  go_wp2_with (fail)
  go_ret
  exact ⟨rfl, rfl⟩
set_option maxHeartbeats 400000 in
theorem cmpInt_ok (a b : Nat) (w : World) : Calls Tryd.prog 30 #[.int .i64 a, .int .i64 b] w fun e w' => e = .returned (.int .i64 (cmpI a b)) ∧ w = w' := by
  rcases Nat.lt_trichotomy a b with h | h | h
  · have h1 : (a : Int) < (b : Int) := by omega
    rw [cmpI_lt h]
    clear h
    go_enter Tryd.func30, Tryd.ntmps30
    go_wp2_with (fail)
    refine (isNaNI _ _).mono ?_
    rintro e w1 ⟨rfl, rfl⟩
    go_wp2_with (fail)
    refine (isNaNI _ _).mono ?_
    rintro e w1 ⟨rfl, rfl⟩
    go_wp2_with (fail)
    go_ret
    exact ⟨rfl, rfl⟩
  · subst h
    rw [cmpI_eq rfl]
    go_enter Tryd.func30, Tryd.ntmps30
    go_wp2_with (fail)
    refine (isNaNI _ _).mono ?_
    rintro e w1 ⟨rfl, rfl⟩
    go_wp2_with (fail)
    refine (isNaNI _ _).mono ?_
    rintro e w1 ⟨rfl, rfl⟩
    go_wp2_with (fail)
    go_ret
    exact ⟨rfl, rfl⟩
  · have h1 : ¬ (a : Int) < (b : Int) := by omega
    have h2 : (b : Int) < (a : Int) := by omega
    rw [cmpI_gt h]
    clear h
    go_enter Tryd.func30, Tryd.ntmps30
    go_wp2_with (fail)
    refine (isNaNI _ _).mono ?_
    rintro e w1 ⟨rfl, rfl⟩
    go_wp2_with (fail)
    refine (isNaNI _ _).mono ?_
    rintro e w1 ⟨rfl, rfl⟩
    go_wp2_with (fail)
    go_ret
    exact ⟨rfl, rfl⟩
set_option maxHeartbeats 1000000 in
theorem NCmp_ok (A A' : Option Addr) (n n' c c' : Nat) (xs ys : List Nat) (w : World) (hn : n ≤ 100000) (hn' : n' ≤ 100000) (hx : Sl w A n c xs) (hy : Sl w A' n' c' ys) :
    Calls Tryd.prog 12 #[.slice A n c, .slice A' n' c'] w fun e w' => e = .returned (.int .i64 (cmpI (V xs) (V ys))) ∧ Below w.heap.size w w' := by
  have Hx := Lib.hid (And.intro hx hy)
  clear hx hy
  go_enter Tryd.func12, Tryd.ntmps12
  go_wp2_with (fail)
  refine (used_ok A n c xs w hn Hx.out.1).mono ?_
  rintro e w1 ⟨k, rfl, hk, hH, rfl⟩
  go_wp2_with (fail)
  refine (used_ok A' n' c' ys w hn' Hx.out.2).mono ?_
  rintro e w1 ⟨j, rfl, hj, hH', rfl⟩
  obtain ⟨us, hus⟩ : ∃ us, xs.take k = us := ⟨_, rfl⟩
  obtain ⟨vs, hvs⟩ : ∃ vs, ys.take j = vs := ⟨_, rfl⟩
  rw [hus] at hH
  rw [hvs] at hH'
  have HS : Hid (Sl w A k c us ∧ Sl w A' j c' vs ∧ Cn us ∧ Cn vs ∧ V us = V xs ∧ V vs = V ys) := ⟨by rw [← hus]; exact Hx.out.1.tk hk, by rw [← hvs]; exact Hx.out.2.tk hj, hH.out.2, hH'.out.2, hH.out.1, hH'.out.1⟩
  have HE := Lib.hid (show cmpI (V us) (V vs) = cmpI (V xs) (V ys) by rw [HS.out.2.2.2.2.1, HS.out.2.2.2.2.2])
  clear hus hvs hH hH' Hx
  go_wp2_with (fail)
  refine (cmpInt_ok k j w).mono ?_
  rintro e w1 ⟨rfl, rfl⟩
  rcases Nat.lt_trichotomy k j with h | h | h
  · have H := Lib.hid (cmpI_lt (Cn_shorter HS.out.1.2.2.2.1 HS.out.2.2.2.1 (by rw [HS.out.1.1, HS.out.2.1.1]; exact h)))
    rw [cmpI_lt h]
    clear h
    go_wp2_with (fail)
    go_ret
    rw [← HE.out, H.out]
    exact ⟨rfl, Below.refl _ _⟩
  · subst h
    rw [cmpI_eq rfl]
    have hkb : k ≤ 100000 := by omega
    clear hk hj
    go_wp2_with (fail)
    go_loopw [6, 7] (fun iv _ wr => ∃ (m : Nat) (i : Int), m ≤ k ∧ iv = .int .i64 i ∧ i + 1 = m ∧ Hid (V (us.drop m) = V (vs.drop m) ∧ Below w.heap.size w wr)) (fun iv _ _ => (intOf iv + 1).toNat)
    case atStart => exact ⟨k, _, Nat.le_refl _, rfl, by omega, by rw [V_drop_all _ _ (by rw [HS.out.1.1]; exact Nat.le_refl _), V_drop_all _ _ (by rw [HS.out.2.1.1]; exact Nat.le_refl _)], Below.refl _ _⟩
    case round =>
      obtain ⟨m, i, hm, rfl, him, hH⟩ := hrel
      rcases Nat.eq_zero_or_pos m with rfl | hpos
      · have h0 : i < 0 := by omega
        have hH2 := hH.out
        rw [List.drop_zero, List.drop_zero] at hH2
        have H2 := Lib.hid hH2
        clear hH2 hH
        go_wp2_with (fail)
        go_ret
        rw [← HE.out, cmpI_eq H2.out.1]
        exact ⟨rfl, H2.out.2⟩
      · obtain ⟨l, rfl⟩ : ∃ l, m = l + 1 := ⟨m - 1, by omega⟩
        obtain rfl : i = (l : Int) := by omega
        clear him
        have hlk : (l : Int) < (k : Int) := by omega
        have hul : l < us.length := by rw [HS.out.1.1]; omega
        have hvl : l < vs.length := by rw [HS.out.2.1.1]; omega
        have hg := List.getElem?_eq_getElem hul
        have hg' := List.getElem?_eq_getElem hvl
        obtain ⟨b, o, rfl, _, hcx⟩ := (HS.out.1.below hH.out.2).2.2.2.2.at (uvs_get hg)
        obtain ⟨b', o', rfl, _, hcy⟩ := (HS.out.2.1.below hH.out.2).2.2.2.2.at (uvs_get hg')
        generalize us[l] = x at *
        generalize vs[l] = y at *
        have HG := Lib.hid (And.intro hg hg')
        clear hg hg' hul hvl
        go_wp2_with (fail)
        go_region_held3 (fun w' => w'.cell? ⟨b, o + l, none⟩ = some (.int .u64 (x : Int)) ∧ w'.cell? ⟨b', o' + l, none⟩ = some (.int .u64 (y : Int)))
          (first | go_keep | exact ⟨hcx, hcy⟩)
          ((go_at_call 31; refine (cmpU_ok x y _).mono ?_; rintro e w' ⟨rfl, rfl⟩))
        have hb2 : Below w.heap.size w wr.drew := below_drewN hH.out.2 1
        rcases Nat.lt_trichotomy x y with h | h | h
        · have H := Lib.hid (And.intro (cmpI_lt (cmp_top HS.out.1.2.2.2.1 HG.out.1 HG.out.2 hH.out.1 h)) hb2)
          rw [cmpI_lt h]
          clear h hb2 hH
          go_wp2_with (fail)
          go_ret
          rw [← HE.out, H.out.1]
          exact ⟨rfl, H.out.2⟩
        · subst h
          rw [cmpI_eq rfl]
          have HN : Hid (V (us.drop l) = V (vs.drop l) ∧ Below w.heap.size w wr.drew) := ⟨by rw [V_drop _ _ _ HG.out.1, V_drop _ _ _ HG.out.2, hH.out.1], hb2⟩
          clear hb2 hH
          go_wp2_with (fail)
          go_roundw
          case rel => exact ⟨l, (l : Int) - 1, by omega, rfl, by omega, HN⟩
          case measure => simp [intOf]
        · have H := Lib.hid (And.intro (cmpI_gt (cmp_top HS.out.2.1.2.2.2.1 HG.out.2 HG.out.1 hH.out.1.symm h)) hb2)
          rw [cmpI_gt h]
          clear h hb2 hH
          go_wp2_with (fail)
          go_ret
          rw [← HE.out, H.out.1]
          exact ⟨rfl, H.out.2⟩
  · have H := Lib.hid (cmpI_gt (Cn_shorter HS.out.2.1.2.2.2.1 HS.out.2.2.1 (by rw [HS.out.1.1, HS.out.2.1.1]; exact h)))
    rw [cmpI_gt h]
    clear h
    go_wp2_with (fail)
    go_ret
    rw [← HE.out, H.out]
    exact ⟨rfl, Below.refl _ _⟩
end Go.Proofs.YtalcikmngglplaaDoor
