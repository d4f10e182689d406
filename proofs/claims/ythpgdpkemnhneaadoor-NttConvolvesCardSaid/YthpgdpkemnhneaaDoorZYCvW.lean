/- The walk of the law NttConvolves. -/
import Derived.Test.YthpgdpkemnhneaaDoorZYCvM
import Derived.Deep.RegionHeld3
import Derived.OpenShut
namespace Go.Proofs.YthpgdpkemnhneaaDoor.nttConvolves
open Go.ChangeShapes Go.RowKit Go.Shelf
set_option linter.unusedVariables false
set_option linter.unusedSimpArgs false

set_option maxRecDepth 100000 in
set_option maxHeartbeats 16000000 in
theorem walk (w : World) (a0 : Option Addr) (n0 c0 : Nat) (xs : List Nat) (hx : Sl w a0 n0 c0 xs) (a1 : Option Addr) (n1 c1 : Nat) (ys : List Nat) (hy : Sl w a1 n1 c1 ys) (hT : TabY w) :
    Calls Tryd.prog 7 #[.slice a0 n0 c0, .slice a1 n1 c1] w fun e w' => e = .returned (.bool true) ∧ Below w.heap.size w w' := by
  obtain ⟨i0, hi, hz0, hz1, hz2⟩ := info_parts Tryd.info43
  have HZ := Lib.hid (show n0 ≤ 9223372036854775807 by have := hx.2.1; have := hx.2.2.1; omega)
  have Hx := Lib.hid (And.intro hx (And.intro hy hT))
  clear hx hy hT
  go_enter Tryd.func7, Tryd.ntmps7
  go_wp2_with (fail)
  refine (tame_ok a0 n0 c0 6 xs _ (by decide) HZ.out Hx.out.1).mono ?_
  rintro e wt ⟨s, hs6, hRt⟩
  obtain ⟨ga, ca, rfl, hsa, hba, hca⟩ := hRt.open
  obtain ⟨N, hN⟩ : ∃ N, N = 2 ^ s := ⟨_, rfl⟩
  have hN5 : N ≤ 64 := by rw [hN]; exact Nat.pow_le_pow_right (n := 2) (by decide) hs6
  have hN0 : 0 < N := by rw [hN]; exact Nat.pow_pos (by decide)
  rw [← hN] at hsa ⊢
  obtain ⟨α, hα⟩ : ∃ α : Nat → Nat, (fun i => yx xs i % PP) = α := ⟨_, rfl⟩
  have hαP : ∀ i, α i < PP := fun i => by rw [← hα]; exact Nat.mod_lt _ PP_pos
  rw [hα] at hsa
  have HT := Lib.hid (And.intro hsa (And.intro (Hx.out.1.below hba) (And.intro (Hx.out.2.1.below hba) (And.intro (Hx.out.2.2.below hba) hba))))
  have HN := Lib.hid (And.intro (show s ≤ 16 by omega) (And.intro hN hαP))
  clear hRt hsa hba hca hN hs6 hα hαP Hx HZ
  go_wp2_with (at_make; refine wpList_make_full _ rfl _ _ 22 rfl wt.heap.size 43 i0 (.int .u64 0) 1 Tryd.underlying22 hi hz0 hz1 .i64 .i64 _ _ N rfl rfl rfl rfl (by rw [hz2]; omega) (by unfold maxLen; omega) (Nat.le_refl _) ?_)
  intro wm hown hgrow
  have hbm := below_of_grown hgrow (Nat.le_refl _)
  have hr := Rw.made hown
  obtain ⟨g, hg⟩ : ∃ g, g = wt.heap.size := ⟨_, rfl⟩
  rw [← hg] at hr ⊢
  have HM := Lib.hid (And.intro hr (And.intro hbm (show wt.heap.size ≤ g by omega)))
  have HMy := Lib.hid (HT.out.2.2.1.below hbm)
  clear hown hgrow hbm hr hg
  go_wp2_with (fail)
  refine (residues_ok a1 n1 c1 N ys _ (min n1 N) rfl (by omega) HMy.out).mono ?_
  rintro e wn ⟨v, rfl, hN2, hb2⟩
  obtain ⟨K, hK⟩ : ∃ K, min n1 N = K := ⟨_, rfl⟩
  rw [hK, ← rsK_tb] at hN2
  obtain ⟨A7, c7, rfl, hs7⟩ := hN2.sl
  have hKN : K ≤ N := by omega
  have HC := Lib.hid (And.intro (cpb (HM.out.1.keep hb2) hs7 hKN) (And.intro (HM.out.2.1.trans (hb2.mono HM.out.2.1.size)) HM.out.2.2))
  clear hN2 hs7 hb2 HM HMy hK
  go_wp2_with (with_reducible refine wpList_copy_splice rfl (.tmp 45) (.tmp 48) 22 22 rfl 43 Tryd.underlying22 Tryd.size1 _ _ _ _ _ _ rfl rfl g 0 (uvs (tb N fun _ => 0)) 43 HC.out.1.1 (uvs (tb K (rsK ys K))) HC.out.1.2.1 (fun h => ⟨rfl, HC.out.1.2.2.1 h⟩) HC.out.1.2.2.2 (uvs_one _) wt.heap.size wt HC.out.2.1 HC.out.2.2 ?_)
  intro wc hrow hbc
  have HB := Lib.hid (And.intro (cpb_row hrow hKN (fun i hi => if_neg (by omega)) (fun i => PP_B (rsK_lt ys K i))) hbc)
  clear hrow hbc HC hKN
  obtain ⟨β, hβ⟩ : ∃ β : Nat → Nat, rsK ys K = β := ⟨_, rfl⟩
  have hβP : ∀ i, β i < PP := fun i => by rw [← hβ]; exact rsK_lt ys K i
  rw [hβ] at HB
  obtain ⟨r, hr⟩ : ∃ r, rt s = r := ⟨_, rfl⟩
  have hrP : r < PP := by rw [← hr]; exact rt_lt s
  obtain ⟨P, hPd⟩ : ∃ P : Nat → Nat, Tr N r (yx (tb N α)) = P := ⟨_, rfl⟩
  obtain ⟨Q, hQd⟩ : ∃ Q : Nat → Nat, Tr N r (yx (tb N β)) = Q := ⟨_, rfl⟩
  obtain ⟨C, hCd⟩ : ∃ C : Nat → Nat, (fun k => Cv N (yx (tb N α)) (yx (tb N β)) k % PP) = C := ⟨_, rfl⟩
  obtain ⟨S, hSd⟩ : ∃ S : Nat → Nat, (fun i => (α i + β i) % PP) = S := ⟨_, rfl⟩
  obtain ⟨R, hRd⟩ : ∃ R : Nat → Nat, Tr N r (yx (tb N C)) = R := ⟨_, rfl⟩
  obtain ⟨T, hTd⟩ : ∃ T : Nat → Nat, Tr N r (yx (tb N S)) = T := ⟨_, rfl⟩
  obtain ⟨W2, hWd⟩ : ∃ W2 : Nat → Nat, Tr N r (yx (tb N P)) = W2 := ⟨_, rfl⟩
  obtain ⟨Bk2, hBd⟩ : ∃ Bk2 : Nat → Nat, (fun k => Tr N r (yx (tb N P)) ((N - k) % N) * (N ^ (PP - 2) % PP) % PP) = Bk2 := ⟨_, rfl⟩
  have hP : ∀ i, P i < PP := fun i => by rw [← hPd]; exact Tr_lt _ _ _ _
  have hQ : ∀ i, Q i < PP := fun i => by rw [← hQd]; exact Tr_lt _ _ _ _
  have hC : ∀ i, C i < PP := fun i => by rw [← hCd]; exact Nat.mod_lt _ PP_pos
  have hS : ∀ i, S i < PP := fun i => by rw [← hSd]; exact Nat.mod_lt _ PP_pos
  have hs32 : s ≤ 32 := by have := HN.out.1; omega
  have hPα : Tr N r α = P := by rw [← hPd]; funext k; exact (Tr_congr (fun i hi => by rw [yx_tb _ hi]; exact .refl _) k).symm
  have hQβ : Tr N r β = Q := by rw [← hQd]; funext k; exact (Tr_congr (fun i hi => by rw [yx_tb _ hi]; exact .refl _) k).symm
  have hCe : (fun k => Cv N α β k % PP) = C := by
    rw [← hCd]; funext k
    exact Cv_eqm (fun i hi => by rw [yx_tb _ hi]; exact .refl _) (fun i hi => by rw [yx_tb _ hi]; exact .refl _) k
  have fR : ∀ m, R m = P m * Q m % PP := fun m => by rw [← hRd, ← hCe, ← hPα, ← hQβ, ← hr]; exact cv_mul hs32 HN.out.2.1 α β m
  have fT : ∀ m, T m = (P m + Q m) % PP := fun m => by rw [← hTd, ← hSd, ← hPα, ← hQβ]; exact cv_add α β m
  have fW : ∀ m, m < N → W2 m = α ((N - m) % N) * N % PP := fun m hm => by rw [← hWd, ← hPα, ← hr]; exact cv_two hs32 HN.out.2.1 α hm
  have fB : tb N Bk2 = tb N α := tb_congr fun k hk => by rw [← hBd]; show Tr N r (yx (tb N P)) ((N - k) % N) * (N ^ (PP - 2) % PP) % PP = α k; rw [← hPα, ← hr]; exact cv_back hs32 HN.out.2.1 α hk (HN.out.2.2 k)
  have hTr := fun (F : Nat → Nat) (hF : ∀ i, F i < PP) (A : Option Addr) (c : Nat) (W : World) (h1 : Sl W A N c (tb N F)) (h2 : TabY W) => YTransform_ok A N c s (tb N F) W HN.out.1 HN.out.2.1 h1 (tb_row fun i _ => hF i) h2
  rw [hr] at hTr
  have hCv := fun (A A' : Option Addr) (c c' : Nat) (W : World) (h1 : Sl W A N c (tb N α)) (h2 : Sl W A' N c' (tb N β)) (h3 : TabY W) => YRound_ok A A' N c c' s (tb N α) (tb N β) W HN.out.1 HN.out.2.1 h1 h2 (tb_row fun i _ => HN.out.2.2 i) (tb_row fun i _ => hβP i) h3
  rw [hCd] at hCv
  have hBk := fun (A : Option Addr) (c : Nat) (W : World) (h1 : Sl W A N c (tb N P)) (h2 : TabY W) => YBack_ok A N c s (tb N P) W HN.out.1 HN.out.2.1 h1 (tb_row fun i _ => hP i) h2
  rw [hr, hBd] at hBk
  have hTα := hTr α HN.out.2.2
  rw [hPd] at hTα
  have hTβ := hTr β hβP
  rw [hQd] at hTβ
  have hTC := hTr C hC
  rw [hRd] at hTC
  have hTS := hTr S hS
  rw [hTd] at hTS
  have hTP := hTr P hP
  rw [hWd] at hTP
  have hrt : (∃ s', s' + 1 = s) ∨ s = 0 := by
    rcases Nat.eq_zero_or_pos s with h | h
    · right; exact h
    · left; exact ⟨s - 1, by omega⟩
  have HF := Lib.hid (And.intro (And.intro hTα (And.intro hTβ (And.intro hTC (And.intro hTS hTP)))) (And.intro hCv hBk))
  have HE := Lib.hid (And.intro fR (And.intro fT (And.intro fW fB)))
  have HP := Lib.hid (And.intro hP (And.intro hQ (And.intro HN.out.2.2 (And.intro hβP (show ∀ i, (α i + β i) % PP = S i from fun i => by rw [← hSd])))))
  have HR := Lib.hid (And.intro hr (And.intro hrP hrt))
  have H0 := Lib.hid (And.intro (HT.out.2.2.2.1.below HB.out.2) (And.intro (HT.out.2.2.2.2.trans (HB.out.2.mono HT.out.2.2.2.2.size)) (And.intro (HT.out.1.below HB.out.2) (HB.out.1.sl (by omega)))))
  clear hPd hQd hCd hSd hRd hTd hWd hBd hP hQ hC hS hs32 hPα hQβ hCe fR fT fW fB hTr hCv hBk hTα hTβ hTC hTS hTP hβ hβP hr hrP hrt HB HT
  go_wp2_with (fail)
  refine (HF.out.1.1 _ _ _ H0.out.2.2.1 H0.out.1).mono ?_
  rintro e w1 ⟨g1, c1, rfl, hc3, hc4, hRp, -, hb⟩
  have H1 := Lib.hid (And.intro (H0.out.1.below hb) (And.intro (H0.out.2.1.trans (hb.mono H0.out.2.1.size)) (And.intro (H0.out.2.2.1.below hb) (And.intro (H0.out.2.2.2.below hb) (hRp.sl hc3 hc4)))))
  clear hc3 hc4 hRp hb H0
  go_wp2_with (fail)
  refine (HF.out.1.2.1 _ _ _ H1.out.2.2.2.1 H1.out.1).mono ?_
  rintro e w2 ⟨g2, c2, rfl, hc3, hc4, hRp, -, hb⟩
  have H2 := Lib.hid (And.intro (H1.out.1.below hb) (And.intro (H1.out.2.1.trans (hb.mono H1.out.2.1.size)) (And.intro (H1.out.2.2.1.below hb) (And.intro (H1.out.2.2.2.1.below hb) (And.intro (H1.out.2.2.2.2.below hb) (hRp.sl hc3 hc4))))))
  clear hc3 hc4 hRp hb H1
  go_wp2_with (fail)
  refine (HF.out.2.1 _ _ _ _ _ H2.out.2.2.1 H2.out.2.2.2.1 H2.out.1).mono ?_
  rintro e w3 ⟨g3, c3, rfl, hc3, hc4, hRp, -, hb⟩
  have H3 := Lib.hid (And.intro (H2.out.1.below hb) (And.intro (H2.out.2.1.trans (hb.mono H2.out.2.1.size)) (And.intro (H2.out.2.2.1.below hb) (And.intro (H2.out.2.2.2.1.below hb) (And.intro (H2.out.2.2.2.2.1.below hb) (And.intro (H2.out.2.2.2.2.2.below hb) (hRp.sl hc3 hc4)))))))
  clear hc3 hc4 hRp hb H2
  go_wp2_with (fail)
  refine (HF.out.1.2.2.1 _ _ _ H3.out.2.2.2.2.2.2 H3.out.1).mono ?_
  rintro e w4 ⟨g4, c4, rfl, hc3, hc4, hRp, -, hb⟩
  have H4 := Lib.hid (And.intro (H3.out.1.below hb) (And.intro (H3.out.2.1.trans (hb.mono H3.out.2.1.size)) (And.intro (H3.out.2.2.1.below hb) (And.intro (H3.out.2.2.2.1.below hb) (And.intro (H3.out.2.2.2.2.1.below hb) (And.intro (H3.out.2.2.2.2.2.1.below hb) (And.intro (H3.out.2.2.2.2.2.2.below hb) (hRp.sl hc3 hc4))))))))
  clear hc3 hc4 hRp hb H3
  obtain ⟨wp, hwp⟩ : ∃ wp, wp = w4 := ⟨_, rfl⟩
  rw [← hwp] at H4
  have H5 : Hid (w4.ownsRow wp.heap.size 43 1 (.slice none 0 0) 0 (uvs (tb 0 S)) ∧ Below wp.heap.size wp w4) := Lib.hid ⟨World.ownsRow_nil _ _ _ _, by rw [hwp]; exact Below.refl _ _⟩
  clear hwp
  go_wp2_with (fail)
  go_loopw [16, 17, 18, 19] (fun sv iv _ _ wr => ∃ (k d2 : Nat) (B2 : Option Addr), k ≤ N ∧ iv = .int .i64 k ∧ sv = .slice B2 k d2 ∧ Hid (wr.ownsRow wp.heap.size 43 1 (.slice B2 k d2) k (uvs (tb k S)) ∧ Below wp.heap.size wp wr)) (fun _ iv _ _ _ => N - (intOf iv).toNat)
  case atStart => exact ⟨0, 0, none, by omega, rfl, rfl, H5⟩
  case round =>
    clear H5
    obtain ⟨k, d2, B2, hk, rfl, rfl, hK⟩ := hrel
    by_cases hlt : k < N
    · have hki : (k : Int) < N := by omega
      obtain ⟨b, o, hA, -, hcx⟩ := (H4.out.2.2.1.below hK.out.2).rd hlt
      obtain ⟨b2, o2, hA2, -, hcy⟩ := (H4.out.2.2.2.1.below hK.out.2).rd hlt
      rw [yx_tb _ hlt] at hcx hcy
      injection hA with hA
      injection hA with hA3 hA4
      injection hA2 with hA2
      injection hA2 with hA5 hA6
      subst hA3 hA4 hA5 hA6
      obtain ⟨x, hxv⟩ : ∃ x, α k = x := ⟨_, rfl⟩
      obtain ⟨y, hyv⟩ : ∃ y, β k = y := ⟨_, rfl⟩
      obtain ⟨z, hzv⟩ : ∃ z, S k = z := ⟨_, rfl⟩
      have hA := fun W => gAdd (α k) (β k) W (HP.out.2.2.1 k) (HP.out.2.2.2.1 k) (HP.out.2.2.2.2 k)
      rw [hxv] at hcx hA
      rw [hyv] at hcy hA
      rw [hzv] at hA
      have HX := Lib.hid (And.intro hA hzv)
      have HC := Lib.hid (And.intro (World.block_lt_of_cell? _ _ hcx) (World.block_lt_of_cell? _ _ hcy))
      clear hA hxv hyv hzv
      rw [Nat.zero_add] at hcx hcy
      go_wp2_with (fail)
      go_region_held3 (fun w' => w'.cell? ⟨ga, k, none⟩ = some (.int .u64 (x : Int)) ∧ w'.cell? ⟨g, k, none⟩ = some (.int .u64 (y : Int)))
        (first | exact ⟨hcx, hcy⟩ | exact S1.out | go_keep)
        (first
          | (go_at_call 31; refine (HX.out.1 _).mono ?_; rintro e w5 ⟨hEq, h5⟩; subst hEq; have HB5 := Lib.hid (show Below wr.heap.size wr w5 from belowA h5); have S1 := Lib.hid (And.intro ((HB5.out.cell HC.out.1).trans hcx) ((HB5.out.cell HC.out.2).trans hcy)); clear h5))
      have hown := own_below hK.out.1 HB5.out (Nat.le_refl _)
      have HB6 := Lib.hid (hK.out.2.trans (HB5.out.mono hK.out.2.size))
      have hs3 := HB6.out.size
      clear hK HB5 S1 hcx hcy HC
      go_wp2_with (at_builtin; refine wpList_append_rd _ rfl (.tmp 90) (.tmp 92) 22 rfl wp.heap.size 43 i0 (.int .u64 0) Tryd.underlying22 hi hz0 hz1 hz2 rfl _ k (uvs (tb k S)) rfl (hown.alloc _) (w5.heap.size + 1) (some ⟨w5.heap.size, 0, none⟩) 1 1 [.int .u64 (z : Int)] rfl rfl (fun _ => ⟨w5.heap.size, 0, rfl, by omega, fun j u hj => by simpa [Addr.add] using hj⟩) (by simp [Value.oneCell']) (by omega) (by simp; omega) ?_)
      intro v6 w6 hown3 hgrow hblk
      obtain ⟨B3, d3, rfl, -⟩ := own_form hown3
      have HN6 : Hid (w6.ownsRow wp.heap.size 43 1 (.slice B3 (k + 1) d3) (k + 1) (uvs (tb (k + 1) S)) ∧ Below wp.heap.size wp w6) := by
        refine ⟨?_, (HB6.out.alloc hs3 _).grown hgrow (by simp; omega) (fun j hj => (hown.lt j hj).1)⟩
        rw [tb_succ, uvs_append, HX.out.2]
        exact hown3
      clear hown3 hgrow hblk hown HX HB6
      go_wp2_with (fail)
      go_roundw
      case rel => exact ⟨k + 1, d3, B3, by omega, by go_num, rfl, HN6⟩
      case measure => simp [intOf]; omega
    · have hki : ¬ (k : Int) < N := by omega
      obtain rfl : k = N := by omega
      have hb := hK.out.2
      have hsS := own_sl hK.out.1 (fun i _ => by rw [← HP.out.2.2.2.2]; exact mod_lt_B _)
      have H7 := Lib.hid (And.intro (H4.out.1.below hb) (And.intro (H4.out.2.1.trans (hb.mono H4.out.2.1.size)) (And.intro (H4.out.2.2.1.below hb) (And.intro (H4.out.2.2.2.1.below hb) (And.intro (H4.out.2.2.2.2.1.below hb) (And.intro (H4.out.2.2.2.2.2.1.below hb) (And.intro (H4.out.2.2.2.2.2.2.1.below hb) (And.intro (H4.out.2.2.2.2.2.2.2.below hb) (hsS)))))))))
      clear hb hsS hK H4 hlt hki
      go_wp2_with (fail)
      refine (HF.out.1.2.2.2.1 _ _ _ H7.out.2.2.2.2.2.2.2.2 H7.out.1).mono ?_
      rintro e w7 ⟨g7, c7, rfl, hc3, hc4, hRp, -, hb⟩
      have H8 := Lib.hid (And.intro (H7.out.1.below hb) (And.intro (H7.out.2.1.trans (hb.mono H7.out.2.1.size)) (And.intro (H7.out.2.2.1.below hb) (And.intro (H7.out.2.2.2.1.below hb) (And.intro (H7.out.2.2.2.2.1.below hb) (And.intro (H7.out.2.2.2.2.2.1.below hb) (And.intro (H7.out.2.2.2.2.2.2.1.below hb) (And.intro (H7.out.2.2.2.2.2.2.2.1.below hb) (And.intro (H7.out.2.2.2.2.2.2.2.2.below hb) (hRp.sl hc3 hc4))))))))))
      clear hc3 hc4 hRp hb H7
      go_wp2_with (fail)
      refine (HF.out.1.2.2.2.2 _ _ _ H8.out.2.2.2.2.1 H8.out.1).mono ?_
      rintro e w8 ⟨g8, c8, rfl, hc3, hc4, hRp, -, hb⟩
      have H9 := Lib.hid (And.intro (H8.out.1.below hb) (And.intro (H8.out.2.1.trans (hb.mono H8.out.2.1.size)) (And.intro (H8.out.2.2.1.below hb) (And.intro (H8.out.2.2.2.1.below hb) (And.intro (H8.out.2.2.2.2.1.below hb) (And.intro (H8.out.2.2.2.2.2.1.below hb) (And.intro (H8.out.2.2.2.2.2.2.1.below hb) (And.intro (H8.out.2.2.2.2.2.2.2.1.below hb) (And.intro (H8.out.2.2.2.2.2.2.2.2.1.below hb) (And.intro (H8.out.2.2.2.2.2.2.2.2.2.below hb) (hRp.sl hc3 hc4)))))))))))
      clear hc3 hc4 hRp hb H8
      go_wp2_with (fail)
      refine (HF.out.2.2 _ _ _ H9.out.2.2.2.2.1 H9.out.1).mono ?_
      rintro e w9 ⟨g9, c9, rfl, hc3, hc4, hRp, -, hb⟩
      have H10 := Lib.hid (And.intro (H9.out.1.below hb) (And.intro (H9.out.2.1.trans (hb.mono H9.out.2.1.size)) (And.intro (H9.out.2.2.1.below hb) (And.intro (H9.out.2.2.2.1.below hb) (And.intro (H9.out.2.2.2.2.1.below hb) (And.intro (H9.out.2.2.2.2.2.1.below hb) (And.intro (H9.out.2.2.2.2.2.2.1.below hb) (And.intro (H9.out.2.2.2.2.2.2.2.1.below hb) (And.intro (H9.out.2.2.2.2.2.2.2.2.1.below hb) (And.intro (H9.out.2.2.2.2.2.2.2.2.2.1.below hb) (And.intro (H9.out.2.2.2.2.2.2.2.2.2.2.below hb) (hRp.sl hc3 hc4))))))))))))
      clear hc3 hc4 hRp hb H9
      go_wp2_with (fail)
      refine (same_ok _ _ k k _ _ _ _ _ (by omega) (by omega) H10.out.2.2.2.2.2.2.2.2.2.2.2 H10.out.2.2.1).mono ?_
      rintro e w10 ⟨rfl, hb⟩
      rw [decide_eq_true HE.out.2.2.2]
      have H11 := Lib.hid (And.intro (H10.out.1.below hb) (And.intro (H10.out.2.1.trans (hb.mono H10.out.2.1.size)) (And.intro (H10.out.2.2.1.below hb) (And.intro (H10.out.2.2.2.1.below hb) (And.intro (H10.out.2.2.2.2.1.below hb) (And.intro (H10.out.2.2.2.2.2.1.below hb) (And.intro (H10.out.2.2.2.2.2.2.1.below hb) (And.intro (H10.out.2.2.2.2.2.2.2.1.below hb) (And.intro (H10.out.2.2.2.2.2.2.2.2.1.below hb) (And.intro (H10.out.2.2.2.2.2.2.2.2.2.1.below hb) (And.intro (H10.out.2.2.2.2.2.2.2.2.2.2.1.below hb) (H10.out.2.2.2.2.2.2.2.2.2.2.2.below hb))))))))))))
      obtain ⟨wq, hwq⟩ : ∃ wq, wq = w10 := ⟨_, rfl⟩
      rw [← hwq] at H11
      have H12 : Hid (Below wq.heap.size wq w10) := Lib.hid (by rw [hwq]; exact Below.refl _ _)
      have hkk : ¬ (k : Int) = 0 := by omega
      have hkk2 : ¬ k = 0 := by omega
      have hkw : IntKind.u64.wrap (k : Int) = (k : Int) := wrap_nat k (by have : B64 = 18446744073709551616 := rfl; omega)
      clear hb hwq H10
      go_wp2_with (fail)
      go_loopw [26, 27, 28, 29, 30, 31, 32] (fun mv _ _ _ _ _ _ wr => ∃ (m : Nat), m ≤ k ∧ mv = .int .i64 m ∧ Hid (Below wq.heap.size wq wr)) (fun mv _ _ _ _ _ _ _ => k - (intOf mv).toNat)
      case atStart => exact ⟨0, by omega, rfl, H12⟩
      case round =>
        clear H12
        obtain ⟨m, hm, rfl, hM⟩ := hrel
        by_cases hlt : m < k
        · have hki : (m : Int) < k := by omega
          obtain ⟨p, hp⟩ : ∃ p, k - m = p := ⟨_, rfl⟩
          have e0 : (k : Int) - (m : Int) = (p : Int) := by omega
          have e1 : IntKind.i64.wrap (p : Int) = (p : Int) := IntWalk.i64_in _ (by omega)
          obtain ⟨q, hq⟩ : ∃ q, p % k = q := ⟨_, rfl⟩
          have hqk : q < k := by rw [← hq]; exact Nat.mod_lt _ hN0
          have e2 : (p : Int).tmod (k : Int) = (q : Int) := by rw [← hq, Int.tmod_eq_emod_of_nonneg (by omega)]; simp
          have e3 : (p : Int) % (k : Int) = (q : Int) := by rw [← hq]; simp
          have e4 : IntKind.i64.wrap (q : Int) = (q : Int) := IntWalk.i64_in _ (by omega)
          have hqi : (q : Int) < k := by omega
          have hq0 : (0 : Int) ≤ (q : Int) := by omega
          obtain ⟨b, o, hA, -, hcA⟩ := (H11.out.2.2.1.below hM.out).rd hqk
          rw [yx_tb _ hqk] at hcA
          injection hA with hA
          injection hA with hA3 hA4
          subst hA3 hA4
          rw [Nat.zero_add] at hcA
          obtain ⟨b, o, hA, -, hcP⟩ := (H11.out.2.2.2.2.1.below hM.out).rd hlt
          rw [yx_tb _ hlt] at hcP
          injection hA with hA
          injection hA with hA3 hA4
          subst hA3 hA4
          rw [Nat.zero_add] at hcP
          obtain ⟨b, o, hA, -, hcQ⟩ := (H11.out.2.2.2.2.2.1.below hM.out).rd hlt
          rw [yx_tb _ hlt] at hcQ
          injection hA with hA
          injection hA with hA3 hA4
          subst hA3 hA4
          rw [Nat.zero_add] at hcQ
          obtain ⟨b, o, hA, -, hcR⟩ := (H11.out.2.2.2.2.2.2.2.1.below hM.out).rd hlt
          rw [yx_tb _ hlt] at hcR
          injection hA with hA
          injection hA with hA3 hA4
          subst hA3 hA4
          rw [Nat.zero_add] at hcR
          obtain ⟨b, o, hA, -, hcT⟩ := (H11.out.2.2.2.2.2.2.2.2.2.1.below hM.out).rd hlt
          rw [yx_tb _ hlt] at hcT
          injection hA with hA
          injection hA with hA3 hA4
          subst hA3 hA4
          rw [Nat.zero_add] at hcT
          obtain ⟨b, o, hA, -, hcV⟩ := (H11.out.2.2.2.2.2.2.2.2.2.2.1.below hM.out).rd hlt
          rw [yx_tb _ hlt] at hcV
          injection hA with hA
          injection hA with hA3 hA4
          subst hA3 hA4
          rw [Nat.zero_add] at hcV
          have fR := HE.out.1 m
          have fT := HE.out.2.1 m
          have fW := HE.out.2.2.1 m hlt
          rw [hp, hq] at fW
          have hT1 := fun W => gTimes (P m) (Q m) W (HP.out.1 m) (HP.out.2.1 m) fR.symm
          have hA1 := fun W => gAdd (P m) (Q m) W (HP.out.1 m) (HP.out.2.1 m) fT.symm
          have hT2 := fun W => gTimes (α q) k W (HP.out.2.2.1 q) (by have : PP = 18446744069414584321 := rfl; omega) fW.symm
          obtain ⟨xa, hxa⟩ : ∃ x, α q = x := ⟨_, rfl⟩
          obtain ⟨xp, hxp⟩ : ∃ x, P m = x := ⟨_, rfl⟩
          obtain ⟨xq, hxq⟩ : ∃ x, Q m = x := ⟨_, rfl⟩
          obtain ⟨xr, hxr⟩ : ∃ x, R m = x := ⟨_, rfl⟩
          obtain ⟨xt, hxt⟩ : ∃ x, T m = x := ⟨_, rfl⟩
          obtain ⟨xw, hxw⟩ : ∃ x, W2 m = x := ⟨_, rfl⟩
          rw [hxa] at hcA hT2
          rw [hxp] at hcP hT1 hA1
          rw [hxq] at hcQ hT1 hA1
          rw [hxr] at hcR hT1
          rw [hxt] at hcT hA1
          rw [hxw] at hcV hT2
          have HX := Lib.hid (And.intro hT1 (And.intro hA1 hT2))
          have HC := Lib.hid (And.intro hcA (And.intro hcP (And.intro hcQ (And.intro hcR (And.intro hcT hcV)))))
          have HL := Lib.hid (And.intro (World.block_lt_of_cell? _ _ hcP) (World.block_lt_of_cell? _ _ hcQ))
          clear fR fT fW hT1 hA1 hT2 hxa hxp hxq hxr hxt hxw hp hq hqk hcA hcR hcT hcV
          go_wp2_with (fail)
          go_region_held3 (fun w' => w'.cell? ⟨g1, m, none⟩ = some (.int .u64 (xp : Int)) ∧ w'.cell? ⟨g2, m, none⟩ = some (.int .u64 (xq : Int)))
            (first | exact ⟨hcP, hcQ⟩ | exact S1.out | go_keep)
            (first
              | (go_at_call 32; refine (HX.out.1 _).mono ?_; rintro e w5 ⟨hEq, h5⟩; subst hEq; have HB5 := Lib.hid (show Below wr.heap.size wr w5 from belowA h5); have S1 := Lib.hid (And.intro ((HB5.out.cell HL.out.1).trans hcP) ((HB5.out.cell HL.out.2).trans hcQ)); clear h5))
          obtain ⟨hcP5, hcQ5⟩ := S1.out
          have HL5 := Lib.hid (And.intro (World.block_lt_of_cell? _ _ hcP5) (World.block_lt_of_cell? _ _ hcQ5))
          clear S1 hcP hcQ HL
          go_wp2_with (fail)
          go_region_held3 (fun w' => w'.cell? ⟨g1, m, none⟩ = some (.int .u64 (xp : Int)) ∧ w'.cell? ⟨g2, m, none⟩ = some (.int .u64 (xq : Int)))
            (first | exact ⟨hcP5, hcQ5⟩ | exact S1.out | go_keep)
            (first
              | (go_at_call 31; refine (HX.out.2.1 _).mono ?_; rintro e w6 ⟨hEq, h6⟩; subst hEq; have HB6 := Lib.hid (show Below w5.heap.size w5 w6 from belowA h6); have S1 := Lib.hid (And.intro ((HB6.out.cell HL5.out.1).trans hcP5) ((HB6.out.cell HL5.out.2).trans hcQ5)); clear h6))
          have HB7 := Lib.hid (HB5.out.trans (HB6.out.mono HB5.out.size))
          have hcA := (HB7.out.cell (World.block_lt_of_cell? _ _ HC.out.1)).trans HC.out.1
          clear S1 hcP5 hcQ5 HL5 HB5 HB6
          go_wp2_with (fail)
          refine (HX.out.2.2 _).mono ?_
          rintro e w8 ⟨rfl, hb8⟩
          have HB8 := Lib.hid (HB7.out.trans (hb8.mono HB7.out.size))
          have hcR := (HB8.out.cell (World.block_lt_of_cell? _ _ HC.out.2.2.2.1)).trans HC.out.2.2.2.1
          have hcT := (HB8.out.cell (World.block_lt_of_cell? _ _ HC.out.2.2.2.2.1)).trans HC.out.2.2.2.2.1
          have hcV := (HB8.out.cell (World.block_lt_of_cell? _ _ HC.out.2.2.2.2.2)).trans HC.out.2.2.2.2.2
          have HN8 := Lib.hid (hM.out.trans (HB8.out.mono hM.out.size))
          clear hb8 HB7 HB8 hcA HX HC hM
          go_wp2_with (fail)
          go_roundw
          case rel => exact ⟨m + 1, by omega, by go_num, HN8⟩
          case measure => simp [intOf]; omega
        · have hki : ¬ (m : Int) < k := by omega
          obtain rfl : m = k := by omega
          have HK := Lib.hid (And.intro (H11.out.1.below hM.out) (H11.out.2.1.trans (hM.out.mono H11.out.2.1.size)))
          have hrt : ∀ W : World, Calls Tryd.prog 33 #[.int .i64 (m : Int)] W fun e w' => e = .returned (.tuple #[.int .u64 (r : Int), .int .i64 0]) ∧ Below W.heap.size W w' := fun W => (YRoot_ok m W (by omega) (by omega)).mono (by
            rintro e w' ⟨⟨k', hk', h2, rfl⟩ | ⟨h, -⟩, hb⟩
            · obtain rfl : k' = s := two_inj ((show 2 ^ k' = m by omega).trans HN.out.2.1)
              exact ⟨by rw [HR.out.1], hb⟩
            · exact absurd ⟨s, HN.out.1, congrArg _ HN.out.2.1⟩ h)
          have hs32 : s ≤ 32 := by have := HN.out.1; omega
          have hmB : m < B64 := by have : B64 = 18446744073709551616 := rfl; omega
          have hfull : ∀ W : World, Calls Tryd.prog 34 #[.int .u64 r, .int .u64 m] W fun e w' => e = .returned (.tuple #[.int .u64 1, .int .i64 0]) ∧ Below W.heap.size W w' := fun W => gPow r m W HR.out.2.1 hmB (z := 1) (by rw [← HR.out.1]; exact cv_full hs32 HN.out.2.1)
          obtain ⟨h, hh⟩ : ∃ h, m / 2 = h := ⟨_, rfl⟩
          have e1 : (m : Int).tdiv 2 = (h : Int) := by rw [Int.tdiv_eq_ediv_of_nonneg (by omega)]; omega
          have e2 : (m : Int) / 2 = (h : Int) := by omega
          have e3 : IntKind.i64.wrap (h : Int) = (h : Int) := IntWalk.i64_in _ (by omega)
          have e4 : IntKind.u64.wrap (h : Int) = (h : Int) := wrap_nat h (by omega)
          obtain ⟨z, hz⟩ : ∃ z, r ^ h % PP = z := ⟨_, rfl⟩
          have hhalf := fun W => gPow r h W HR.out.2.1 (by omega) hz
          have hcase : (((m : Int) == 1) = true) ∨ (((m : Int) == 1) = false ∧ ((z : Int) == 18446744069414584320) = true) := by
            rcases HR.out.2.2 with ⟨s', hs'⟩ | h0
            · right
              have hm2 : m = 2 ^ (s' + 1) := by rw [HN.out.2.1, hs']
              have h1 : 1 < m := by rw [hm2]; exact Nat.one_lt_two_pow (by omega)
              have h2 : z = PP - 1 := by rw [← hz, ← hh, ← HR.out.1, ← hs']; exact cv_half (by omega) hm2
              refine ⟨by simp; omega, ?_⟩
              rw [h2]
              rfl
            · left
              have : m = 1 := by rw [HN.out.2.1, h0]
              simp; omega
          have HZ := Lib.hid (And.intro hrt (And.intro hfull hhalf))
          clear hrt hfull hhalf hz hh hmB hs32 hM H11
          go_wp2_with (fail)
          refine (HZ.out.1 _).mono ?_
          rintro e w11 ⟨rfl, hb⟩
          have H12 := Lib.hid (And.intro (HK.out.1.below hb) (HK.out.2.trans (hb.mono HK.out.2.size)))
          clear hb HK
          go_wp2_with (fail)
          refine (HZ.out.2.1 _).mono ?_
          rintro e w12 ⟨rfl, hb⟩
          have H13 := Lib.hid (And.intro (H12.out.1.below hb) (H12.out.2.trans (hb.mono H12.out.2.size)))
          clear hb H12
          go_wp2_with (fail)
          refine (HZ.out.2.2 _).mono ?_
          rintro e w13 ⟨rfl, hb⟩
          have H14 := Lib.hid (And.intro (H13.out.1.below hb) (H13.out.2.trans (hb.mono H13.out.2.size)))
          clear hb H13 HZ
          rcases hcase with hone | ⟨hone, hzz⟩
          all_goals
            go_wp2_with (fail)
            refine (yawake_any _ H14.out.1).mono ?_
            rintro e w15 ⟨rfl, b15⟩
            have H15 := Lib.hid (H14.out.2.trans (b15.mono H14.out.2.size))
            clear b15 H14
            go_wp2_with (fail)
            go_ret
            exact ⟨rfl, H15.out⟩
end Go.Proofs.YthpgdpkemnhneaaDoor.nttConvolves
