/- The walk of the law NttFolds. -/
import Derived.Test.YthpgdpkemnhneaaDoorZYFm
import Derived.OpenShut
namespace Go.Proofs.YthpgdpkemnhneaaDoor.nttFolds
open Go.ChangeShapes Go.RowKit Go.Shelf
set_option linter.unusedVariables false
set_option linter.unusedSimpArgs false

theorem gSub (a b : Nat) (w : World) (ha : a < PP) (hb : b < PP) {z : Nat} (hz : (a + (PP - b)) % PP = z) :
    Calls Tryd.prog 35 #[.int .u64 a, .int .u64 b] w fun e w' => e = .returned (.tuple #[.int .u64 (z : Int), .int .i64 0]) ∧ Below w.heap.size w w' := by
  subst hz
  refine (YSub_ok a b w (PP_B ha) (PP_B hb)).mono ?_
  rintro e w' ⟨h, hb'⟩
  exact ⟨op_ok h ⟨ha, hb⟩, hb'⟩
theorem gInv (a : Nat) (w : World) (h0 : 0 < a) (ha : a < PP) {z : Nat} (hz : a ^ (PP - 2) % PP = z) :
    Calls Tryd.prog 36 #[.int .u64 a] w fun e w' => e = .returned (.tuple #[.int .u64 (z : Int), .int .i64 0]) ∧ Below w.heap.size w w' := by
  have h := YInverse_ok a w (PP_B ha)
  rw [if_pos ⟨h0, ha⟩, hz, if_neg (by omega), if_neg (by omega)] at h
  exact h
set_option maxRecDepth 100000 in
set_option maxHeartbeats 16000000 in
theorem walk (w : World) (a0 : Option Addr) (n0 c0 : Nat) (xs : List Nat) (hx : Sl w a0 n0 c0 xs) (a1 : Option Addr) (n1 c1 : Nat) (ys : List Nat) (hy : Sl w a1 n1 c1 ys) (a2 : Int) (w2 : (Lit.int .u64 a2).wf = true) (hT : TabY w) :
    Calls Tryd.prog 8 #[.slice a0 n0 c0, .slice a1 n1 c1, .int .u64 a2] w fun e w' => e = .returned (.bool true) ∧ Below w.heap.size w w' := by
  obtain ⟨i0, hi, hz0, hz1, hz2⟩ := info_parts Tryd.info43
  have hb2 := bounds_u64 w2
  have HZ := Lib.hid (show n0 ≤ 9223372036854775807 by have := hx.2.1; have := hx.2.2.1; omega)
  have Hx := Lib.hid (And.intro hx (And.intro hy hT))
  obtain ⟨kk, rfl⟩ := Int.eq_ofNat_of_zero_le (show 0 ≤ a2 by omega)
  obtain ⟨κ, hk1, hk2, hk3⟩ : ∃ z : Nat, (kk : Int).tmod 18446744069414584321 = (z : Int) ∧ (kk : Int) % 18446744069414584321 = (z : Int) ∧ z < PP := ⟨kk % 18446744069414584321, by rw [Int.tmod_eq_emod_of_nonneg (by omega)]; omega, by omega, Nat.mod_lt _ PP_pos⟩
  have hk4 : IntKind.u64.wrap (κ : Int) = (κ : Int) := wrap_nat κ (PP_B hk3)
  have HK := Lib.hid hk3
  clear hx hy hT hb2 w2 hk3
  go_enter Tryd.func8, Tryd.ntmps8
  go_wp2_with (fail)
  refine (tame_ok a0 n0 c0 5 xs _ (by decide) HZ.out Hx.out.1).mono ?_
  rintro e wt ⟨s, hs5, hRt⟩
  obtain ⟨ga, ca, rfl, hsa, hba, hca⟩ := hRt.open
  obtain ⟨N, hN⟩ : ∃ N, N = 2 ^ s := ⟨_, rfl⟩
  have hN5 : N ≤ 32 := by rw [hN]; exact Nat.pow_le_pow_right (n := 2) (by decide) hs5
  have hN0 : 0 < N := by rw [hN]; exact Nat.pow_pos (by decide)
  rw [← hN] at hsa ⊢
  obtain ⟨α, hα⟩ : ∃ α : Nat → Nat, (fun i => yx xs i % PP) = α := ⟨_, rfl⟩
  have hαP : ∀ i, α i < PP := fun i => by rw [← hα]; exact Nat.mod_lt _ PP_pos
  rw [hα] at hsa
  have HT := Lib.hid (And.intro hsa (And.intro (Hx.out.1.below hba) (And.intro (Hx.out.2.1.below hba) (And.intro (Hx.out.2.2.below hba) hba))))
  have HN := Lib.hid (And.intro (show s ≤ 16 by omega) (And.intro hN hαP))
  clear hRt hsa hba hca hN hs5 hα hαP Hx HZ
  go_wp2_with (at_make; refine wpList_make_full _ rfl _ _ 22 rfl wt.heap.size 43 i0 (.int .u64 0) 1 Tryd.underlying22 hi hz0 hz1 .i64 .i64 _ _ N rfl rfl rfl rfl (by rw [hz2]; omega) (by unfold maxLen; omega) (Nat.le_refl _) ?_)
  intro wm hown hgrow
  have hbm := below_of_grown hgrow (Nat.le_refl _)
  have hr := Rw.made hown
  obtain ⟨g, hg⟩ : ∃ g, g = wt.heap.size := ⟨_, rfl⟩
  rw [← hg] at hr ⊢
  have HM := Lib.hid (And.intro hr (And.intro hbm (show wt.heap.size ≤ g by omega)))
  have HMy := Lib.hid (HT.out.2.2.1.below hbm)
  clear hown hgrow hbm hr hg
  go_wp2_with (fail)
  refine (residues_ok a1 n1 c1 N ys _ (min n1 N) rfl (by omega) HMy.out).mono ?_
  rintro e wn ⟨v, rfl, hN2, hb2⟩
  obtain ⟨K, hK⟩ : ∃ K, min n1 N = K := ⟨_, rfl⟩
  rw [hK, ← rsK_tb] at hN2
  obtain ⟨A7, c7, rfl, hs7⟩ := hN2.sl
  have hKN : K ≤ N := by omega
  have HC := Lib.hid (And.intro (cpb (HM.out.1.keep hb2) hs7 hKN) (And.intro (HM.out.2.1.trans (hb2.mono HM.out.2.1.size)) HM.out.2.2))
  clear hN2 hs7 hb2 HM HMy hK
  go_wp2_with (with_reducible refine wpList_copy_splice rfl (.tmp 36) (.tmp 39) 22 22 rfl 43 Tryd.underlying22 Tryd.size1 _ _ _ _ _ _ rfl rfl g 0 (uvs (tb N fun _ => 0)) 43 HC.out.1.1 (uvs (tb K (rsK ys K))) HC.out.1.2.1 (fun h => ⟨rfl, HC.out.1.2.2.1 h⟩) HC.out.1.2.2.2 (uvs_one _) wt.heap.size wt HC.out.2.1 HC.out.2.2 ?_)
  intro wc hrow hbc
  have HB := Lib.hid (And.intro (cpb_row hrow hKN (fun i hi => if_neg (by omega)) (fun i => PP_B (rsK_lt ys K i))) hbc)
  clear hrow hbc HC hKN
  obtain ⟨β, hβ⟩ : ∃ β : Nat → Nat, rsK ys K = β := ⟨_, rfl⟩
  have hβP : ∀ i, β i < PP := fun i => by rw [← hβ]; exact rsK_lt ys K i
  rw [hβ] at HB
  obtain ⟨us, hus⟩ : ∃ us, tb N α = us := ⟨_, rfl⟩
  obtain ⟨vs, hvs⟩ : ∃ vs, tb N β = vs := ⟨_, rfl⟩
  obtain ⟨L, hLd⟩ : ∃ L : Nat → Nat, (fun m => Lc N N (yx us) (yx vs) m % PP) = L := ⟨_, rfl⟩
  obtain ⟨C, hCd⟩ : ∃ C : Nat → Nat, (fun k => Cv N (yx us) (yx vs) k % PP) = C := ⟨_, rfl⟩
  obtain ⟨D, hDd⟩ : ∃ D : Nat → Nat, Tn N (yx us) (yx vs) = D := ⟨_, rfl⟩
  obtain ⟨M, hM⟩ : ∃ M, lcn N N = M := ⟨_, rfl⟩
  have hM2 : M = 2 * N - 1 := by rw [← hM]; unfold lcn; rw [if_neg (by omega)]; omega
  have hL : ∀ i, L i < PP := fun i => by rw [← hLd]; exact Nat.mod_lt _ PP_pos
  have hL0 : L M = 0 := by rw [← hLd, hM2]; exact lg_far _ _
  have fC : ∀ i, i < N → (L i + L (i + N)) % PP = C i := fun i hi => by
    rw [← hLd, ← hCd]
    show (Lc N N (yx us) (yx vs) i % PP + Lc N N (yx us) (yx vs) (i + N) % PP) % PP = Cv N (yx us) (yx vs) i % PP
    rw [Cv_Lc _ _ hi]
    exact Eqm.add (Eqm.mod _) (Eqm.mod _)
  have fD : ∀ i, (L i + (PP - L (i + N))) % PP = D i := fun i => by
    rw [← hLd, ← hDd]
    exact Eqm.add (Eqm.mod _) (.refl _)
  have hua : ∀ i, i < N → yx us i < PP := by rw [← hus]; exact tb_row fun i _ => HN.out.2.2 i
  have hva : ∀ i, i < N → yx vs i < PP := by rw [← hvs]; exact tb_row fun i _ => hβP i
  have hLg := fun (A A' : Option Addr) (c c' : Nat) (W : World) (h1 : Sl W A N c us) (h2 : Sl W A' N c' vs) (h3 : TabY W) => YLong_ok A A' N N c c' us vs W (by omega) (by omega) h1 h2 hua hva h3
  rw [hLd, hM] at hLg
  have hCv := fun (A A' : Option Addr) (c c' : Nat) (W : World) (h1 : Sl W A N c us) (h2 : Sl W A' N c' vs) (h3 : TabY W) => YRound_ok A A' N c c' s us vs W HN.out.1 HN.out.2.1 h1 h2 hua hva h3
  rw [hCd] at hCv
  have hTn := fun (A A' : Option Addr) (c c' : Nat) (W : World) (h1 : Sl W A N c us) (h2 : Sl W A' N c' vs) (h3 : TabY W) => YTurned_ok A A' N c c' s us vs W HN.out.1 HN.out.2.1 h1 h2 hua hva h3
  rw [hDd] at hTn
  have HF := Lib.hid (And.intro hLg (And.intro hCv hTn))
  have HE := Lib.hid (And.intro hL (And.intro hL0 (And.intro fC fD)))
  have H0 := Lib.hid (And.intro (HT.out.2.2.2.1.below HB.out.2) (And.intro (HT.out.2.2.2.2.trans (HB.out.2.mono HT.out.2.2.2.2.size)) (And.intro (hus ▸ HT.out.1.below HB.out.2) (hvs ▸ HB.out.1.sl (by omega)))))
  have HU := Lib.hid (And.intro hus HN.out.2.2)
  have hMi : (M : Int) = 2 * (N : Int) - 1 := by omega
  have e2N : IntKind.i64.wrap (2 * (N : Int)) = 2 * (N : Int) := IntWalk.i64_in _ (by omega)
  have e2N1 : IntKind.i64.wrap (2 * (N : Int) - 1) = (M : Int) := by rw [← hMi]; exact IntWalk.i64_in _ (by omega)
  clear hLd hCd hDd hM hL hL0 fC fD hua hva hLg hCv hTn hβ hβP hus hvs HB HT hMi
  go_wp2_with (fail)
  refine (HF.out.1 _ _ _ _ _ H0.out.2.2.1 H0.out.2.2.2 H0.out.1).mono ?_
  rintro e w1 ⟨g1, c1, rfl, hc3, hc4, hRp, -, hb⟩
  have H1 := Lib.hid (And.intro (H0.out.1.below hb) (And.intro (H0.out.2.1.trans (hb.mono H0.out.2.1.size)) (And.intro (H0.out.2.2.1.below hb) (And.intro (H0.out.2.2.2.below hb) (hRp.sl hc3 hc4)))))
  clear hc3 hc4 hRp hb H0
  go_wp2_with (fail)
  refine (HF.out.2.1 _ _ _ _ _ H1.out.2.2.1 H1.out.2.2.2.1 H1.out.1).mono ?_
  rintro e w3 ⟨g2, c2, rfl, hc3, hc4, hRp, -, hb⟩
  have H2 := Lib.hid (And.intro (H1.out.1.below hb) (And.intro (H1.out.2.1.trans (hb.mono H1.out.2.1.size)) (And.intro (H1.out.2.2.1.below hb) (And.intro (H1.out.2.2.2.1.below hb) (And.intro (H1.out.2.2.2.2.below hb) (hRp.sl hc3 hc4))))))
  clear hc3 hc4 hRp hb H1
  go_wp2_with (fail)
  refine (HF.out.2.2 _ _ _ _ _ H2.out.2.2.1 H2.out.2.2.2.1 H2.out.1).mono ?_
  rintro e w4 ⟨g3, c3, rfl, hc3, hc4, hRp, -, hb⟩
  have H3 := Lib.hid (And.intro (H2.out.1.below hb) (And.intro (H2.out.2.1.trans (hb.mono H2.out.2.1.size)) (And.intro (H2.out.2.2.1.below hb) (And.intro (H2.out.2.2.2.1.below hb) (And.intro (H2.out.2.2.2.2.1.below hb) (And.intro (H2.out.2.2.2.2.2.below hb) (hRp.sl hc3 hc4)))))))
  clear hc3 hc4 hRp hb H2
  obtain ⟨wq, hwq⟩ : ∃ wq, wq = w4 := ⟨_, rfl⟩
  rw [← hwq] at H3
  have H12 : Hid (Below wq.heap.size wq w4) := Lib.hid (by rw [hwq]; exact Below.refl _ _)
  clear hwq
  go_wp2_with (fail)
  go_loopw [16, 17, 18, 19, 20, 21] (fun mv _ _ _ _ _ wr => ∃ (i : Nat), i ≤ N ∧ mv = .int .i64 i ∧ Hid (Below wq.heap.size wq wr)) (fun mv _ _ _ _ _ _ => N - (intOf mv).toNat)
  case atStart => exact ⟨0, by omega, rfl, H12⟩
  case round =>
    clear H12
    obtain ⟨i, him, rfl, hM⟩ := hrel
    by_cases hlt : i < N
    · have hki : (i : Int) < N := by omega
      have hiM : i < M := by omega
      have hiM2 : (i : Int) < M := by omega
      obtain ⟨j, hj⟩ : ∃ j, i + N = j := ⟨_, rfl⟩
      have e0 : (i : Int) + (N : Int) = (j : Int) := by omega
      have e1 : IntKind.i64.wrap (j : Int) = (j : Int) := IntWalk.i64_in _ (by omega)
      obtain ⟨b, o, hA, -, hcL⟩ := (H3.out.2.2.2.2.1.below hM.out).rd hiM
      rw [yx_tb _ hiM] at hcL
      injection hA with hA
      injection hA with hA3 hA4
      subst hA3 hA4
      rw [Nat.zero_add] at hcL
      obtain ⟨b, o, hA, -, hcC⟩ := (H3.out.2.2.2.2.2.1.below hM.out).rd hlt
      rw [yx_tb _ hlt] at hcC
      injection hA with hA
      injection hA with hA3 hA4
      subst hA3 hA4
      rw [Nat.zero_add] at hcC
      obtain ⟨b, o, hA, -, hcD⟩ := (H3.out.2.2.2.2.2.2.below hM.out).rd hlt
      rw [yx_tb _ hlt] at hcD
      injection hA with hA
      injection hA with hA3 hA4
      subst hA3 hA4
      rw [Nat.zero_add] at hcD
      have fC := HE.out.2.2.1 i hlt
      have fD := HE.out.2.2.2 i
      rw [hj] at fC fD
      have hA1 := fun W => gAdd (L i) (L j) W (HE.out.1 i) (HE.out.1 j) fC
      have hS1 := fun W => gSub (L i) (L j) W (HE.out.1 i) (HE.out.1 j) fD
      obtain ⟨xl, hxl⟩ : ∃ x, L i = x := ⟨_, rfl⟩
      obtain ⟨xc, hxc⟩ : ∃ x, C i = x := ⟨_, rfl⟩
      obtain ⟨xd, hxd⟩ : ∃ x, D i = x := ⟨_, rfl⟩
      rw [hxl] at hcL hA1 hS1
      rw [hxc] at hcC hA1
      rw [hxd] at hcD hS1
      have HC := Lib.hid (And.intro hcL (And.intro hcC hcD))
      by_cases hjM : j < M
      · have hjM2 : (j : Int) < M := by omega
        have hj0 : (0 : Int) ≤ (j : Int) := by omega
        obtain ⟨b, o, hA, -, hcJ⟩ := (H3.out.2.2.2.2.1.below hM.out).rd hjM
        rw [yx_tb _ hjM] at hcJ
        injection hA with hA
        injection hA with hA3 hA4
        subst hA3 hA4
        rw [Nat.zero_add] at hcJ
        obtain ⟨xj, hxj⟩ : ∃ x, L j = x := ⟨_, rfl⟩
        rw [hxj] at hcJ hA1 hS1
        have HX := Lib.hid (And.intro hA1 hS1)
        clear fC fD hA1 hS1 hxl hxc hxd hxj hj hjM hcC hcD
        go_wp2_with (fail)
        refine (HX.out.1 _).mono ?_
        rintro e w5 ⟨rfl, hb5⟩
        have HB5 := Lib.hid hb5
        have hcL := (HB5.out.cell (World.block_lt_of_cell? _ _ HC.out.1)).trans HC.out.1
        clear hb5
        go_wp2_with (fail)
        refine (HX.out.2 _).mono ?_
        rintro e w6 ⟨rfl, hb6⟩
        have HB6 := Lib.hid (HB5.out.trans (hb6.mono HB5.out.size))
        have hcC := (HB6.out.cell (World.block_lt_of_cell? _ _ HC.out.2.1)).trans HC.out.2.1
        have hcD := (HB6.out.cell (World.block_lt_of_cell? _ _ HC.out.2.2)).trans HC.out.2.2
        have HN8 := Lib.hid (hM.out.trans (HB6.out.mono hM.out.size))
        clear hb6 HB5 HB6 hcL HX HC hM
        go_wp2_with (fail)
        go_roundw
        case rel => exact ⟨i + 1, by omega, by go_num, HN8⟩
        case measure => simp [intOf]; omega
      · have hjM2 : ¬ (j : Int) < M := by omega
        have hxj : L j = 0 := by rw [show j = M by omega]; exact HE.out.2.1
        rw [hxj] at hA1 hS1
        have HX : Hid ((∀ W : World, Calls Tryd.prog 31 #[.int .u64 xl, .int .u64 0] W fun e w' => e = .returned (.tuple #[.int .u64 (xc : Int), .int .i64 0]) ∧ Below W.heap.size W w') ∧ (∀ W : World, Calls Tryd.prog 35 #[.int .u64 xl, .int .u64 0] W fun e w' => e = .returned (.tuple #[.int .u64 (xd : Int), .int .i64 0]) ∧ Below W.heap.size W w')) := Lib.hid ⟨hA1, hS1⟩
        clear fC fD hA1 hS1 hxl hxc hxd hxj hj hjM hcC hcD
        go_wp2_with (fail)
        refine (HX.out.1 _).mono ?_
        rintro e w5 ⟨rfl, hb5⟩
        have HB5 := Lib.hid hb5
        have hcL := (HB5.out.cell (World.block_lt_of_cell? _ _ HC.out.1)).trans HC.out.1
        clear hb5
        go_wp2_with (fail)
        refine (HX.out.2 _).mono ?_
        rintro e w6 ⟨rfl, hb6⟩
        have HB6 := Lib.hid (HB5.out.trans (hb6.mono HB5.out.size))
        have hcC := (HB6.out.cell (World.block_lt_of_cell? _ _ HC.out.2.1)).trans HC.out.2.1
        have hcD := (HB6.out.cell (World.block_lt_of_cell? _ _ HC.out.2.2)).trans HC.out.2.2
        have HN8 := Lib.hid (hM.out.trans (HB6.out.mono hM.out.size))
        clear hb6 HB5 HB6 hcL HX HC hM
        go_wp2_with (fail)
        go_roundw
        case rel => exact ⟨i + 1, by omega, by go_num, HN8⟩
        case measure => simp [intOf]; omega
    · have hki : ¬ (i : Int) < N := by omega
      obtain rfl : i = N := by omega
      obtain ⟨b, o, hA, -, hcA⟩ := (H3.out.2.2.1.below hM.out).rd hN0
      rw [← HU.out.1, yx_tb _ hN0] at hcA
      injection hA with hA
      injection hA with hA3 hA4
      subst hA3 hA4
      rw [Nat.zero_add] at hcA
      have HP := Lib.hid (And.intro (H3.out.1.below hM.out) (H3.out.2.1.trans (hM.out.mono H3.out.2.1.size)))
      obtain ⟨z, hz⟩ : ∃ z, α 0 * κ % PP = z := ⟨_, rfl⟩
      have hT1 := fun W => gTimes (α 0) κ W (HU.out.2 0) HK.out hz
      have hT2 := fun W => gTimes κ (α 0) W HK.out (HU.out.2 0) ((congrArg (· % PP) (Nat.mul_comm κ (α 0))).trans hz)
      obtain ⟨xa, hxa⟩ : ∃ x, α 0 = x := ⟨_, rfl⟩
      rw [hxa] at hcA hT1 hT2
      have HX := Lib.hid (And.intro hT1 hT2)
      have HC := Lib.hid hcA
      have hNi : (0 : Int) < (i : Int) := by omega
      clear hT1 hT2 hz hxa hM H3
      go_wp2_with (fail)
      refine (HX.out.1 _).mono ?_
      rintro e w5 ⟨rfl, hb5⟩
      have HB5 := Lib.hid hb5
      have H4 := Lib.hid (And.intro (HP.out.1.below hb5) (HP.out.2.trans (hb5.mono HP.out.2.size)))
      have hcA5 := (HB5.out.cell (World.block_lt_of_cell? _ _ HC.out)).trans HC.out
      clear hb5 HB5 HP hcA
      go_wp2_with (fail)
      refine (HX.out.2 _).mono ?_
      rintro e w6 ⟨rfl, hb6⟩
      have H5 := Lib.hid (And.intro (H4.out.1.below hb6) (H4.out.2.trans (hb6.mono H4.out.2.size)))
      clear hb6 H4 HX HC hcA5
      rcases Nat.eq_zero_or_pos κ with h0 | h0
      · have h00 : ¬ (0 : Int) < (κ : Int) := by omega
        go_wp2_with (fail)
        refine (yawake_any _ H5.out.1).mono ?_
        rintro e w15 ⟨rfl, b15⟩
        have H15 := Lib.hid (H5.out.2.trans (b15.mono H5.out.2.size))
        clear b15 H5
        go_wp2_with (fail)
        go_ret
        exact ⟨rfl, H15.out⟩
      · have h00 : (0 : Int) < (κ : Int) := by omega
        obtain ⟨v, hv⟩ : ∃ v, κ ^ (PP - 2) % PP = v := ⟨_, rfl⟩
        have hvP : v < PP := by rw [← hv]; exact Nat.mod_lt _ PP_pos
        have h1 : v * κ % PP = 1 := by rw [← hv]; exact fermat h0 HK.out
        have hI := fun W => gInv κ W h0 HK.out hv
        have hO : ∀ W : World, Calls Tryd.prog 32 #[.int .u64 v, .int .u64 κ] W fun e w' => e = .returned (.tuple #[.int .u64 1, .int .i64 0]) ∧ Below W.heap.size W w' := fun W => gTimes v κ W hvP HK.out (z := 1) h1
        have HX := Lib.hid (And.intro hI hO)
        clear hv hvP h1 hI hO
        go_wp2_with (fail)
        refine (HX.out.1 _).mono ?_
        rintro e w7 ⟨rfl, hb⟩
        have H6 := Lib.hid (And.intro (H5.out.1.below hb) (H5.out.2.trans (hb.mono H5.out.2.size)))
        clear hb H5
        go_wp2_with (fail)
        refine (HX.out.2 _).mono ?_
        rintro e w8 ⟨rfl, hb⟩
        have H7 := Lib.hid (And.intro (H6.out.1.below hb) (H6.out.2.trans (hb.mono H6.out.2.size)))
        clear hb H6 HX
        go_wp2_with (fail)
        refine (yawake_any _ H7.out.1).mono ?_
        rintro e w15 ⟨rfl, b15⟩
        have H15 := Lib.hid (H7.out.2.trans (b15.mono H7.out.2.size))
        clear b15 H7
        go_wp2_with (fail)
        go_ret
        exact ⟨rfl, H15.out⟩
end Go.Proofs.YthpgdpkemnhneaaDoor.nttFolds
