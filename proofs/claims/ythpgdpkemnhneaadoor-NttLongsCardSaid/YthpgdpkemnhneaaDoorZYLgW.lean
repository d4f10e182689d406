/- The walk of the law NttLongs. -/
import Derived.Test.YthpgdpkemnhneaaDoorZYCp
import Derived.OpenShut
namespace Go.Proofs.YthpgdpkemnhneaaDoor.nttLongs
open Go.ChangeShapes Go.RowKit Go.Shelf
set_option linter.unusedVariables false
set_option linter.unusedSimpArgs false

theorem not_len : ¬ IsLen ((131072 : Nat) : Int) := by
  rintro ⟨k, hk, h⟩
  have h1 : (131072 : Nat) = 2 ^ k := by omega
  have h2 := Nat.pow_le_pow_right (n := 2) (by decide) hk
  omega
set_option maxRecDepth 100000 in
set_option maxHeartbeats 16000000 in
theorem walk (w : World) (a0 : Option Addr) (n0 c0 : Nat) (xs : List Nat) (hx : Sl w a0 n0 c0 xs) (a1 : Option Addr) (n1 c1 : Nat) (ys : List Nat) (hy : Sl w a1 n1 c1 ys) (hT : TabY w) :
    Calls Tryd.prog 5 #[.slice a0 n0 c0, .slice a1 n1 c1] w fun e w' => e = .returned (.bool true) ∧ Below w.heap.size w w' := by
  obtain ⟨i0, hi, hz0, hz1, hz2⟩ := info_parts Tryd.info43
  have Hx := Lib.hid (And.intro hx (And.intro hy hT))
  clear hx hy hT
  go_enter Tryd.func5, Tryd.ntmps5
  go_wp2_with (fail)
  refine (residues_ok a0 n0 c0 40 xs _ (min n0 40) rfl (by omega) Hx.out.1).mono ?_
  rintro e w1 ⟨v, rfl, hN, hb⟩
  obtain ⟨k1, hk1⟩ : ∃ K, min n0 40 = K := ⟨_, rfl⟩
  rw [hk1] at hN
  have hk15 : k1 ≤ 40 := by omega
  obtain ⟨A1, d1, rfl, hs⟩ := hN.sl
  have H1 := Lib.hid (And.intro hs (And.intro (Hx.out.2.1.below hb) (And.intro (Hx.out.2.2.below hb) hb)))
  clear hN hs hb hk1 Hx
  go_wp2_with (fail)
  refine (residues_ok a1 n1 c1 40 ys _ (min n1 40) rfl (by omega) H1.out.2.1).mono ?_
  rintro e w2 ⟨v, rfl, hN, hb⟩
  obtain ⟨k2, hk2⟩ : ∃ K, min n1 40 = K := ⟨_, rfl⟩
  rw [hk2] at hN
  have hk25 : k2 ≤ 40 := by omega
  obtain ⟨A2, d2, rfl, hs⟩ := hN.sl
  obtain ⟨us, hus⟩ : ∃ us, tb k1 (fun i => yx xs i % PP) = us := ⟨_, rfl⟩
  obtain ⟨vs, hvs⟩ : ∃ vs, tb k2 (fun i => yx ys i % PP) = vs := ⟨_, rfl⟩
  rw [hus] at H1
  rw [hvs] at hs
  have hP : ∀ i, i < k1 → yx us i < PP := fun i hi => by rw [← hus, yx_tb _ hi]; exact Nat.mod_lt _ PP_pos
  have hP' : ∀ i, i < k2 → yx vs i < PP := fun i hi => by rw [← hvs, yx_tb _ hi]; exact Nat.mod_lt _ PP_pos
  have H2 : Hid (RowY w w2 A1 A2 k1 k2 d1 d2 us vs) := Lib.hid ⟨H1.out.1.below hb, hs, H1.out.2.2.1.below hb, H1.out.2.2.2.trans (hb.mono H1.out.2.2.2.size)⟩
  have HP := Lib.hid (And.intro hP hP')
  obtain ⟨m, hm⟩ : ∃ m, lcn k1 k2 = m := ⟨_, rfl⟩
  have hm5 : m ≤ 1000 := by rw [← hm]; unfold lcn; split <;> omega
  obtain ⟨J, hJ⟩ : ∃ J : Nat → Nat, (fun m => Lc k1 k2 (yx us) (yx vs) m % PP) = J := ⟨_, rfl⟩
  have HJ := Lib.hid (And.intro hJ hm)
  clear hN hs hb hk2 H1 hus hvs hP hP' hm hJ
  go_wp2_with (fail)
  refine (YLong_ok A1 A2 k1 k2 d1 d2 us vs _ (by omega) (by omega) H2.out.1 H2.out.2.1 HP.out.1 HP.out.2 H2.out.2.2.1).mono ?_
  rw [HJ.out.1, HJ.out.2]
  rintro e w3 ⟨g3, c3, rfl, hc3, hc4, hRp, -, hb⟩
  have H3 := Lib.hid (And.intro (H2.out.keep hb) (hRp.sl hc3 hc4))
  clear hc3 hc4 hRp hb H2
  go_wp2_with (at_make; refine wpList_make_full _ rfl _ _ 22 rfl w3.heap.size 43 i0 (.int .u64 0) 1 Tryd.underlying22 hi hz0 hz1 .i64 .i64 _ _ 32769 rfl rfl rfl rfl (by rw [hz2]; omega) (by unfold maxLen; omega) (Nat.le_refl _) ?_)
  intro w4 hown hgrow
  have hb := below_of_grown hgrow (Nat.le_refl _)
  have hr := (Rw.made hown).sl (by omega)
  have H4 := Lib.hid (And.intro (H3.out.1.keep hb) (And.intro (H3.out.2.below hb) hr))
  clear hown hgrow hb hr H3
  go_wp2_with (fail)
  refine (YLong_err _ A1 32769 k1 32769 d1 _ us _ H4.out.2.2 H4.out.1.1 (.inl (by omega))).mono ?_
  rintro e w5 ⟨rfl, hb⟩
  have H5 := Lib.hid (And.intro (H4.out.1.keep hb) (H4.out.2.1.below hb))
  clear hb H4
  go_wp2_with (at_make; refine wpList_make_full _ rfl _ _ 22 rfl w5.heap.size 43 i0 (.int .u64 0) 1 Tryd.underlying22 hi hz0 hz1 .i64 .i64 _ _ 32769 rfl rfl rfl rfl (by rw [hz2]; omega) (by unfold maxLen; omega) (Nat.le_refl _) ?_)
  intro w6 hown hgrow
  have hb := below_of_grown hgrow (Nat.le_refl _)
  have hr := (Rw.made hown).sl (by omega)
  have H6 := Lib.hid (And.intro (H5.out.1.keep hb) (And.intro (H5.out.2.below hb) hr))
  clear hown hgrow hb hr H5
  go_wp2_with (fail)
  refine (YLong_err A1 _ k1 32769 d1 32769 us _ _ H6.out.1.1 H6.out.2.2 (.inr (.inl (by omega)))).mono ?_
  rintro e w7 ⟨rfl, hb⟩
  have H7 := Lib.hid (And.intro (H6.out.1.keep hb) (H6.out.2.1.below hb))
  clear hb H6
  go_wp2_with (at_make; refine wpList_make_full _ rfl _ _ 22 rfl w7.heap.size 43 i0 (.int .u64 0) 1 Tryd.underlying22 hi hz0 hz1 .i64 .i64 _ _ 131072 rfl rfl rfl rfl (by rw [hz2]; omega) (by unfold maxLen; omega) (Nat.le_refl _) ?_)
  intro w8 hown hgrow
  have hb := below_of_grown hgrow (Nat.le_refl _)
  have hr := (Rw.made hown).sl (by omega)
  have H8 := Lib.hid (And.intro (H7.out.1.keep hb) (And.intro (H7.out.2.below hb) hr))
  clear hown hgrow hb hr H7
  go_wp2_with (fail)
  refine (YTransform_err _ 131072 131072 _ _ H8.out.2.2 (fun h => not_len h.1)).mono ?_
  rintro e w9 ⟨rfl, hb⟩
  have H9 := Lib.hid (And.intro (H8.out.1.keep hb) (H8.out.2.1.below hb))
  clear hb H8
  go_wp2_with (fail)
  refine (R4Long_ok A1 A2 k1 k2 d1 d2 us vs _ (by omega) (by omega) H9.out.1.1 H9.out.1.2.1).mono ?_
  rw [HJ.out.1, HJ.out.2]
  rintro e w11 ⟨B11, d11, rfl, hs11, hb⟩
  have H11 := Lib.hid (And.intro (H9.out.1.keep hb) (And.intro (H9.out.2.below hb) hs11))
  clear hs11 hb H9
  go_wp2_with (fail)
  refine (same_ok _ _ m m _ _ _ _ _ (by omega) (by omega) H11.out.2.1 H11.out.2.2).mono ?_
  rintro e w12 ⟨rfl, hb⟩
  rw [decide_eq_true (rfl : tb m J = tb m J)]
  have H12 := Lib.hid (H11.out.1.keep hb)
  clear hb H11
  go_wp2_with (fail)
  refine (yawake_any _ H12.out.2.2.1).mono ?_
  rintro e w15 ⟨rfl, b15⟩
  have H15 := Lib.hid (H12.out.keep b15)
  clear b15 H12
  go_wp2_with (fail)
  go_ret
  exact ⟨rfl, H15.out.2.2.2⟩
end Go.Proofs.YthpgdpkemnhneaaDoor.nttLongs
