/- The walk of the law NttProducts. -/
import Derived.Test.YthpgdpkemnhneaaDoorZYCp
import Derived.OpenShut
namespace Go.Proofs.YthpgdpkemnhneaaDoor.nttProducts
open Go.ChangeShapes Go.RowKit Go.Shelf
set_option linter.unusedVariables false
set_option linter.unusedSimpArgs false

/-- the state: both lists, the arguments, the tables -/
def PrI (w wr : World) (A1 : Option Addr) (k1 d1 : Nat) (us : List Nat) (A2 : Option Addr) (k2 d2 : Nat) (vs : List Nat) (a0 : Option Addr) (n0 c0 : Nat) (xs : List Nat) (a1 : Option Addr) (n1 c1 : Nat) (ys : List Nat) : Prop :=
  Sl wr A1 k1 d1 us ∧ Sl wr A2 k2 d2 vs ∧ Sl wr a0 n0 c0 xs ∧ Sl wr a1 n1 c1 ys ∧ TabY wr ∧ Below w.heap.size w wr
theorem PrI.keep {w wr w' : World} {A1 : Option Addr} {k1 d1 : Nat} {us : List Nat} {A2 : Option Addr} {k2 d2 : Nat} {vs : List Nat} {a0 : Option Addr} {n0 c0 : Nat} {xs : List Nat} {a1 : Option Addr} {n1 c1 : Nat} {ys : List Nat} (h : PrI w wr A1 k1 d1 us A2 k2 d2 vs a0 n0 c0 xs a1 n1 c1 ys) (hb : Below wr.heap.size wr w') : PrI w w' A1 k1 d1 us A2 k2 d2 vs a0 n0 c0 xs a1 n1 c1 ys :=
  ⟨h.1.below hb, h.2.1.below hb, h.2.2.1.below hb, h.2.2.2.1.below hb, h.2.2.2.2.1.below hb, h.2.2.2.2.2.trans (hb.mono h.2.2.2.2.2.size)⟩
theorem len_small {n s : Nat} (hn : n ≤ 40) (h : n = 2 ^ s) : s ≤ 9 := by
  rcases Nat.lt_or_ge 9 s with h1 | h1
  · have := Nat.pow_le_pow_right (n := 2) (by decide) (show 6 ≤ s by omega)
    omega
  · exact h1
open Classical in
set_option maxRecDepth 100000 in
set_option maxHeartbeats 16000000 in
theorem walk (w : World) (a0 : Option Addr) (n0 c0 : Nat) (xs : List Nat) (hx : Sl w a0 n0 c0 xs) (a1 : Option Addr) (n1 c1 : Nat) (ys : List Nat) (hy : Sl w a1 n1 c1 ys) (hT : TabY w) :
    Calls Tryd.prog 4 #[.slice a0 n0 c0, .slice a1 n1 c1] w fun e w' => e = .returned (.bool true) ∧ Below w.heap.size w w' := by
  obtain ⟨i0, hi, hz0, hz1, hz2⟩ := info_parts Tryd.info43
  have HZ := Lib.hid (show n0 ≤ 9223372036854775807 by have := hx.2.1; have := hx.2.2.1; omega)
  have Hx := Lib.hid (And.intro hx (And.intro hy hT))
  clear hx hy hT
  go_enter Tryd.func4, Tryd.ntmps4
  go_wp2_with (fail)
  refine (few4_row _ _ _ 34 xs _ Hx.out.1 (by omega)).mono ?_
  rintro e w3 ⟨A1, k1, d1, us, rfl, hk1, hs1, -, -, hb1⟩
  have H1 := Lib.hid (And.intro hs1 hb1)
  clear hs1 hb1
  go_wp2_with (fail)
  refine (few4_row _ _ _ 34 ys _ (Hx.out.2.1.below H1.out.2) (by omega)).mono ?_
  rintro e w4 ⟨A2, k2, d2, vs, rfl, hk2, hs2, -, -, hb2⟩
  have H2 : Hid (∃ us vs, PrI w w4 A1 k1 d1 us A2 k2 d2 vs a0 n0 c0 xs a1 n1 c1 ys) := Lib.hid ⟨us, vs, H1.out.1.below hb2, hs2, (Hx.out.1.below H1.out.2).below hb2, (Hx.out.2.1.below H1.out.2).below hb2, (Hx.out.2.2.below H1.out.2).below hb2, H1.out.2.trans (hb2.mono H1.out.2.size)⟩
  clear hs2 hb2 H1 Hx
  go_wp2_with (fail)
  go_loopw [5, 6, 7, 8, 9, 10, 11, 12, 13, 14] (fun av bv iv _ _ _ _ _ _ _ wr => ∃ (k k1 d1 k2 d2 : Nat) (A1 A2 : Option Addr), k ≤ 2 ∧ k1 ≤ 34 ∧ k2 ≤ 34 ∧ iv = .int .i64 k ∧ av = .slice A1 k1 d1 ∧ bv = .slice A2 k2 d2 ∧ Hid (∃ us vs, PrI w wr A1 k1 d1 us A2 k2 d2 vs a0 n0 c0 xs a1 n1 c1 ys)) (fun _ _ iv _ _ _ _ _ _ _ _ => 2 - (intOf iv).toNat)
  case atStart => exact ⟨0, k1, d1, k2, d2, A1, A2, by omega, hk1, hk2, rfl, rfl, rfl, H2⟩
  case round =>
    clear H2
    obtain ⟨k, n, d, n', d', A, A', hk, hn, hn', rfl, rfl, rfl, HE⟩ := hrel
    obtain ⟨us, vs, hH⟩ := HE.out
    have H := Lib.hid hH
    clear HE hH
    by_cases hlt : k < 2
    · have hki : (k : Int) < 2 := by omega
      have hlen := fun W => R4Length_ok (n : Int) W (by omega) (by omega)
      by_cases hok : Rs1 us = true ∧ Rs1 vs = true
      · by_cases hgood : n = n' ∧ IsLen (n : Int)
        · obtain ⟨rfl, hL1⟩ := hgood
          obtain ⟨s, hs, hns⟩ := id hL1
          have hn2 : n = 2 ^ s := by omega
          have hP := (rs1_iff H.out.1.1).1 hok.1
          have hP' := (rs1_iff H.out.2.1.1).1 hok.2
          have hln : Hid (∀ W, Calls Tryd.prog 12 #[.int .i64 n] W fun e w' => e = .returned (.bool true) ∧ W = w') := Lib.hid (by intro W; have := hlen W; rwa [decide_eq_true hL1] at this)
          obtain ⟨F, hF⟩ : ∃ F : Nat → Nat, (fun k => Cv n (yx us) (yx vs) k % PP) = F := ⟨_, rfl⟩
          obtain ⟨G, hG⟩ : ∃ G : Nat → Nat, Tn n (yx us) (yx vs) = G := ⟨_, rfl⟩
          obtain ⟨J, hJ⟩ : ∃ J : Nat → Nat, (fun m => Lc n n (yx us) (yx vs) m % PP) = J := ⟨_, rfl⟩
          have hn0 : 0 < n := by rw [hn2]; exact Nat.pow_pos (by decide)
          obtain ⟨m, hm⟩ : ∃ m, lcn n n = m := ⟨_, rfl⟩
          have hm5 : m ≤ 1000 := by rw [← hm]; unfold lcn; split <;> omega
          have hr := fun W (h1 : Sl W A n d us) (h2 : Sl W A' n d' vs) (h3 : TabY W) => YRound_ok A A' n d d' s us vs W hs hn2 h1 h2 hP hP' h3
          have ht := fun W (h1 : Sl W A n d us) (h2 : Sl W A' n d' vs) (h3 : TabY W) => YTurned_ok A A' n d d' s us vs W hs hn2 h1 h2 hP hP' h3
          have hl := fun W (h1 : Sl W A n d us) (h2 : Sl W A' n d' vs) (h3 : TabY W) => YLong_ok A A' n n d d' us vs W (by omega) (by omega) h1 h2 hP hP' h3
          have hr4 := fun W (h1 : Sl W A n d us) (h2 : Sl W A' n d' vs) => R4Round_ok A A' n d d' us vs W hn0 (by omega) h1 h2
          have ht4 := fun W (h1 : Sl W A n d us) (h2 : Sl W A' n d' vs) => R4Turned_ok A A' n d d' us vs W hn0 (by omega) h1 h2
          have hl4 := fun W (h1 : Sl W A n d us) (h2 : Sl W A' n d' vs) => R4Long_ok A A' n n d d' us vs W (by omega) (by omega) h1 h2
          rw [hF] at hr hr4
          rw [hG] at ht ht4
          rw [hJ, hm] at hl hl4
          have HP := Lib.hid (And.intro hr (And.intro ht (And.intro hl (And.intro hr4 (And.intro ht4 (And.intro hl4 hok))))))
          clear hL1 hlen hns hn2 hP hP' hs hF hG hJ hm hn0 hr ht hl hr4 ht4 hl4 hok
          go_wp2_with (fail)
          refine (HP.out.1 _ H.out.1 H.out.2.1 H.out.2.2.2.2.1).mono ?_
          rintro e w4 ⟨g4, c4, rfl, hc3, hc4, hRp, -, hb⟩
          have H4 := Lib.hid (And.intro (H.out.keep hb) (hRp.sl hc3 hc4))
          clear hc3 hc4 hRp hb H
          go_wp2_with (fail)
          refine (HP.out.2.1 _ H4.out.1.1 H4.out.1.2.1 H4.out.1.2.2.2.2.1).mono ?_
          rintro e w5 ⟨g5, c5, rfl, hc3, hc4, hRp, -, hb⟩
          have H5 := Lib.hid (And.intro (H4.out.1.keep hb) (And.intro (H4.out.2.below hb) (hRp.sl hc3 hc4)))
          clear hc3 hc4 hRp hb H4
          go_wp2_with (fail)
          refine (HP.out.2.2.1 _ H5.out.1.1 H5.out.1.2.1 H5.out.1.2.2.2.2.1).mono ?_
          rintro e w6 ⟨g6, c6, rfl, hc3, hc4, hRp, -, hb⟩
          have H6 := Lib.hid (And.intro (H5.out.1.keep hb) (And.intro (H5.out.2.1.below hb) (And.intro (H5.out.2.2.below hb) (hRp.sl hc3 hc4))))
          clear hc3 hc4 hRp hb H5
          go_wp2_with (fail)
          refine (R4Residues_ok A n d us _ (by omega) H6.out.1.1).mono ?_
          rintro e w7 ⟨rfl, rfl⟩
          rw [HP.out.2.2.2.2.2.2.1]
          go_wp2_with (fail)
          refine (R4Residues_ok A' n d' vs _ (by omega) H6.out.1.2.1).mono ?_
          rintro e w7 ⟨rfl, rfl⟩
          rw [HP.out.2.2.2.2.2.2.2]
          go_wp2_with (fail)
          refine (hln.out _).mono ?_
          rintro e w7 ⟨rfl, rfl⟩
          go_wp2_with (fail)
          refine (HP.out.2.2.2.1 _ H6.out.1.1 H6.out.1.2.1).mono ?_
          rintro e w7 ⟨B7, d7, rfl, hs7, hb⟩
          have H7 := Lib.hid (And.intro (H6.out.1.keep hb) (And.intro (H6.out.2.1.below hb) (And.intro (H6.out.2.2.1.below hb) (And.intro (H6.out.2.2.2.below hb) hs7))))
          clear hs7 hb H6
          go_wp2_with (fail)
          refine (same_ok _ _ n n _ _ _ _ _ (by omega) (by omega) H7.out.2.1 H7.out.2.2.2.2).mono ?_
          rintro e w8 ⟨rfl, hb⟩
          rw [decide_eq_true (rfl : tb n F = tb n F)]
          have H8 := Lib.hid (And.intro (H7.out.1.keep hb) (And.intro (H7.out.2.2.1.below hb) (H7.out.2.2.2.1.below hb)))
          clear hb H7
          go_wp2_with (fail)
          refine (HP.out.2.2.2.2.1 _ H8.out.1.1 H8.out.1.2.1).mono ?_
          rintro e w9 ⟨B9, d9, rfl, hs9, hb⟩
          have H9 := Lib.hid (And.intro (H8.out.1.keep hb) (And.intro (H8.out.2.1.below hb) (And.intro (H8.out.2.2.below hb) hs9)))
          clear hs9 hb H8
          go_wp2_with (fail)
          refine (same_ok _ _ n n _ _ _ _ _ (by omega) (by omega) H9.out.2.1 H9.out.2.2.2).mono ?_
          rintro e w10 ⟨rfl, hb⟩
          rw [decide_eq_true (rfl : tb n G = tb n G)]
          have H10 := Lib.hid (And.intro (H9.out.1.keep hb) (H9.out.2.2.1.below hb))
          clear hb H9
          go_wp2_with (fail)
          refine (HP.out.2.2.2.2.2.1 _ H10.out.1.1 H10.out.1.2.1).mono ?_
          rintro e w11 ⟨B11, d11, rfl, hs11, hb⟩
          have H11 := Lib.hid (And.intro (H10.out.1.keep hb) (And.intro (H10.out.2.below hb) hs11))
          clear hs11 hb H10
          go_wp2_with (fail)
          refine (same_ok _ _ m m _ _ _ _ _ (by omega) (by omega) H11.out.2.1 H11.out.2.2).mono ?_
          rintro e w12 ⟨rfl, hb⟩
          rw [decide_eq_true (rfl : tb m J = tb m J)]
          have H9 := Lib.hid (H11.out.1.keep hb)
          clear hb H11 HP hln
          go_wp2_with (fail)
          refine (tame_ok a0 n0 c0 4 xs _ (by decide) HZ.out H9.out.2.2.1).mono ?_
          rintro e wt ⟨s, hs4, hRt⟩
          obtain ⟨ga, ca, rfl, hsa, hba, hca⟩ := hRt.open
          obtain ⟨N, hN⟩ : ∃ N, 2 ^ s = N := ⟨_, rfl⟩
          have hN5 : N ≤ 16 := by rw [← hN]; exact Nat.pow_le_pow_right (n := 2) (by decide) hs4
          rw [hN] at hsa ⊢
          have HT := Lib.hid (And.intro hsa (And.intro (H9.out.2.2.1.below hba) (And.intro (H9.out.2.2.2.1.below hba) (And.intro (H9.out.2.2.2.2.1.below hba) (H9.out.2.2.2.2.2.trans (hba.mono H9.out.2.2.2.2.2.size))))))
          clear hRt hsa hba hca hN hs4 H9
          go_wp2_with (at_make; refine wpList_make_full _ rfl _ _ 22 rfl wt.heap.size 43 i0 (.int .u64 0) 1 Tryd.underlying22 hi hz0 hz1 .i64 .i64 _ _ N rfl rfl rfl rfl (by rw [hz2]; omega) (by unfold maxLen; omega) (Nat.le_refl _) ?_)
          intro wm hown hgrow
          have hbm := below_of_grown hgrow (Nat.le_refl _)
          have hr := Rw.made hown
          obtain ⟨g, hg⟩ : ∃ g, g = wt.heap.size := ⟨_, rfl⟩
          rw [← hg] at hr ⊢
          have HM := Lib.hid (And.intro hr (And.intro hbm (show wt.heap.size ≤ g by omega)))
          have HMy := Lib.hid (HT.out.2.2.1.below hbm)
          clear hown hgrow hbm hr hg
          go_wp2_with (fail)
          refine (residues_ok a1 n1 c1 N ys _ (min n1 N) rfl (by omega) HMy.out).mono ?_
          rintro e wn ⟨v, rfl, hN2, hb2⟩
          obtain ⟨K, hK⟩ : ∃ K, min n1 N = K := ⟨_, rfl⟩
          rw [hK, ← rsK_tb] at hN2
          obtain ⟨A7, c7, rfl, hs7⟩ := hN2.sl
          have hKN : K ≤ N := by omega
          have HC := Lib.hid (And.intro (cpb (HM.out.1.keep hb2) hs7 hKN) (And.intro (HM.out.2.1.trans (hb2.mono HM.out.2.1.size)) HM.out.2.2))
          clear hN2 hs7 hb2 HM HMy hK
          go_wp2_with (with_reducible refine wpList_copy_splice rfl (.tmp 129) (.tmp 133) 22 22 rfl 43 Tryd.underlying22 Tryd.size1 _ _ _ _ _ _ rfl rfl g 0 (uvs (tb N fun _ => 0)) 43 HC.out.1.1 (uvs (tb K (rsK ys K))) HC.out.1.2.1 (fun h => ⟨rfl, HC.out.1.2.2.1 h⟩) HC.out.1.2.2.2 (uvs_one _) wt.heap.size wt HC.out.2.1 HC.out.2.2 ?_)
          intro wc hrow hbc
          have HB := Lib.hid (And.intro (cpb_row hrow hKN (fun i hi => if_neg (by omega)) (fun i => PP_B (rsK_lt ys K i))) hbc)
          clear hrow hbc HC hKN
          have HN : Hid (∃ us vs, PrI w wc (some ⟨ga, 0, none⟩) N ca us (some ⟨g, 0, none⟩) N N vs a0 n0 c0 xs a1 n1 c1 ys) := Lib.hid ⟨_, _, HT.out.1.below HB.out.2, HB.out.1.sl (by omega), HT.out.2.1.below HB.out.2, HT.out.2.2.1.below HB.out.2, HT.out.2.2.2.1.below HB.out.2, HT.out.2.2.2.2.trans (HB.out.2.mono HT.out.2.2.2.2.size)⟩
          clear HB HT
          go_wp2_with (fail)
          go_roundw
          case rel => exact ⟨k + 1, N, ca, N, N, some ⟨ga, 0, none⟩, some ⟨g, 0, none⟩, by omega, by omega, by omega, by go_num, rfl, rfl, HN⟩
          case measure => simp [intOf]; omega
        · have hP := (rs1_iff H.out.1.1).1 hok.1
          have hP' := (rs1_iff H.out.2.1.1).1 hok.2
          obtain ⟨J, hJ⟩ : ∃ J : Nat → Nat, (fun m => Lc n n' (yx us) (yx vs) m % PP) = J := ⟨_, rfl⟩
          obtain ⟨m, hm⟩ : ∃ m, lcn n n' = m := ⟨_, rfl⟩
          have hm5 : m ≤ 1000 := by rw [← hm]; unfold lcn; split <;> omega
          have hl := fun W (h1 : Sl W A n d us) (h2 : Sl W A' n' d' vs) (h3 : TabY W) => YLong_ok A A' n n' d d' us vs W (by omega) (by omega) h1 h2 hP hP' h3
          have hl4 := fun W (h1 : Sl W A n d us) (h2 : Sl W A' n' d' vs) => R4Long_ok A A' n n' d d' us vs W (by omega) (by omega) h1 h2
          rw [hJ, hm] at hl hl4
          have hno : ¬ (n = n' ∧ IsLen (n : Int) ∧ Rs1 us = true ∧ Rs1 vs = true) := fun h => hgood ⟨h.1, h.2.1⟩
          have hcase : (((n : Int) != (n' : Int)) = true) ∨ (((n : Int) != (n' : Int)) = false ∧ Hid (∀ W, Calls Tryd.prog 12 #[.int .i64 n] W fun e w' => e = .returned (.bool false) ∧ W = w')) := by
            by_cases he : n = n'
            · right
              refine ⟨by simp; omega, Lib.hid ?_⟩
              intro W
              have := hlen W
              rwa [decide_eq_false (fun h => hgood ⟨he, h⟩)] at this
            · left; simp; omega
          have HP := Lib.hid (And.intro hno (And.intro hl (And.intro hl4 hok)))
          clear hlen hP hP' hJ hm hl hl4 hok hno hgood
          go_wp2_with (fail)
          refine (YRound_err A A' n n' d d' us vs _ H.out.1 H.out.2.1 HP.out.1).mono ?_
          rintro e w4 ⟨rfl, hb⟩
          have H4 := Lib.hid (H.out.keep hb)
          clear hb H
          go_wp2_with (fail)
          refine (YTurned_err A A' n n' d d' us vs _ H4.out.1 H4.out.2.1 HP.out.1).mono ?_
          rintro e w5 ⟨rfl, hb⟩
          have H5 := Lib.hid (H4.out.keep hb)
          clear hb H4
          go_wp2_with (fail)
          refine (HP.out.2.1 _ H5.out.1 H5.out.2.1 H5.out.2.2.2.2.1).mono ?_
          rintro e w6 ⟨g6, c6, rfl, hc3, hc4, hRp, -, hb⟩
          have H6 := Lib.hid (And.intro (H5.out.keep hb) (hRp.sl hc3 hc4))
          clear hc3 hc4 hRp hb H5
          go_wp2_with (fail)
          refine (R4Residues_ok A n d us _ (by omega) H6.out.1.1).mono ?_
          rintro e w7 ⟨rfl, rfl⟩
          rw [HP.out.2.2.2.1]
          go_wp2_with (fail)
          refine (R4Residues_ok A' n' d' vs _ (by omega) H6.out.1.2.1).mono ?_
          rintro e w7 ⟨rfl, rfl⟩
          rw [HP.out.2.2.2.2]
          rcases hcase with hne | ⟨hne, hln⟩
          · go_wp2_with (fail)
            refine (HP.out.2.2.1 _ H6.out.1.1 H6.out.1.2.1).mono ?_
            rintro e w11 ⟨B11, d11, rfl, hs11, hb⟩
            have H11 := Lib.hid (And.intro (H6.out.1.keep hb) (And.intro (H6.out.2.below hb) hs11))
            clear hs11 hb H6
            go_wp2_with (fail)
            refine (same_ok _ _ m m _ _ _ _ _ (by omega) (by omega) H11.out.2.1 H11.out.2.2).mono ?_
            rintro e w12 ⟨rfl, hb⟩
            rw [decide_eq_true (rfl : tb m J = tb m J)]
            have H9 := Lib.hid (H11.out.1.keep hb)
            clear hb H11 HP
            go_wp2_with (fail)
            refine (tame_ok a0 n0 c0 4 xs _ (by decide) HZ.out H9.out.2.2.1).mono ?_
            rintro e wt ⟨s, hs4, hRt⟩
            obtain ⟨ga, ca, rfl, hsa, hba, hca⟩ := hRt.open
            obtain ⟨N, hN⟩ : ∃ N, 2 ^ s = N := ⟨_, rfl⟩
            have hN5 : N ≤ 16 := by rw [← hN]; exact Nat.pow_le_pow_right (n := 2) (by decide) hs4
            rw [hN] at hsa ⊢
            have HT := Lib.hid (And.intro hsa (And.intro (H9.out.2.2.1.below hba) (And.intro (H9.out.2.2.2.1.below hba) (And.intro (H9.out.2.2.2.2.1.below hba) (H9.out.2.2.2.2.2.trans (hba.mono H9.out.2.2.2.2.2.size))))))
            clear hRt hsa hba hca hN hs4 H9
            go_wp2_with (at_make; refine wpList_make_full _ rfl _ _ 22 rfl wt.heap.size 43 i0 (.int .u64 0) 1 Tryd.underlying22 hi hz0 hz1 .i64 .i64 _ _ N rfl rfl rfl rfl (by rw [hz2]; omega) (by unfold maxLen; omega) (Nat.le_refl _) ?_)
            intro wm hown hgrow
            have hbm := below_of_grown hgrow (Nat.le_refl _)
            have hr := Rw.made hown
            obtain ⟨g, hg⟩ : ∃ g, g = wt.heap.size := ⟨_, rfl⟩
            rw [← hg] at hr ⊢
            have HM := Lib.hid (And.intro hr (And.intro hbm (show wt.heap.size ≤ g by omega)))
            have HMy := Lib.hid (HT.out.2.2.1.below hbm)
            clear hown hgrow hbm hr hg
            go_wp2_with (fail)
            refine (residues_ok a1 n1 c1 N ys _ (min n1 N) rfl (by omega) HMy.out).mono ?_
            rintro e wn ⟨v, rfl, hN2, hb2⟩
            obtain ⟨K, hK⟩ : ∃ K, min n1 N = K := ⟨_, rfl⟩
            rw [hK, ← rsK_tb] at hN2
            obtain ⟨A7, c7, rfl, hs7⟩ := hN2.sl
            have hKN : K ≤ N := by omega
            have HC := Lib.hid (And.intro (cpb (HM.out.1.keep hb2) hs7 hKN) (And.intro (HM.out.2.1.trans (hb2.mono HM.out.2.1.size)) HM.out.2.2))
            clear hN2 hs7 hb2 HM HMy hK
            go_wp2_with (with_reducible refine wpList_copy_splice rfl (.tmp 129) (.tmp 133) 22 22 rfl 43 Tryd.underlying22 Tryd.size1 _ _ _ _ _ _ rfl rfl g 0 (uvs (tb N fun _ => 0)) 43 HC.out.1.1 (uvs (tb K (rsK ys K))) HC.out.1.2.1 (fun h => ⟨rfl, HC.out.1.2.2.1 h⟩) HC.out.1.2.2.2 (uvs_one _) wt.heap.size wt HC.out.2.1 HC.out.2.2 ?_)
            intro wc hrow hbc
            have HB := Lib.hid (And.intro (cpb_row hrow hKN (fun i hi => if_neg (by omega)) (fun i => PP_B (rsK_lt ys K i))) hbc)
            clear hrow hbc HC hKN
            have HN : Hid (∃ us vs, PrI w wc (some ⟨ga, 0, none⟩) N ca us (some ⟨g, 0, none⟩) N N vs a0 n0 c0 xs a1 n1 c1 ys) := Lib.hid ⟨_, _, HT.out.1.below HB.out.2, HB.out.1.sl (by omega), HT.out.2.1.below HB.out.2, HT.out.2.2.1.below HB.out.2, HT.out.2.2.2.1.below HB.out.2, HT.out.2.2.2.2.trans (HB.out.2.mono HT.out.2.2.2.2.size)⟩
            clear HB HT
            go_wp2_with (fail)
            go_roundw
            case rel => exact ⟨k + 1, N, ca, N, N, some ⟨ga, 0, none⟩, some ⟨g, 0, none⟩, by omega, by omega, by omega, by go_num, rfl, rfl, HN⟩
            case measure => simp [intOf]; omega
          · go_wp2_with (fail)
            refine (hln.out _).mono ?_
            rintro e w7 ⟨rfl, rfl⟩
            go_wp2_with (fail)
            refine (HP.out.2.2.1 _ H6.out.1.1 H6.out.1.2.1).mono ?_
            rintro e w11 ⟨B11, d11, rfl, hs11, hb⟩
            have H11 := Lib.hid (And.intro (H6.out.1.keep hb) (And.intro (H6.out.2.below hb) hs11))
            clear hs11 hb H6
            go_wp2_with (fail)
            refine (same_ok _ _ m m _ _ _ _ _ (by omega) (by omega) H11.out.2.1 H11.out.2.2).mono ?_
            rintro e w12 ⟨rfl, hb⟩
            rw [decide_eq_true (rfl : tb m J = tb m J)]
            have H9 := Lib.hid (H11.out.1.keep hb)
            clear hb H11 HP
            go_wp2_with (fail)
            refine (tame_ok a0 n0 c0 4 xs _ (by decide) HZ.out H9.out.2.2.1).mono ?_
            rintro e wt ⟨s, hs4, hRt⟩
            obtain ⟨ga, ca, rfl, hsa, hba, hca⟩ := hRt.open
            obtain ⟨N, hN⟩ : ∃ N, 2 ^ s = N := ⟨_, rfl⟩
            have hN5 : N ≤ 16 := by rw [← hN]; exact Nat.pow_le_pow_right (n := 2) (by decide) hs4
            rw [hN] at hsa ⊢
            have HT := Lib.hid (And.intro hsa (And.intro (H9.out.2.2.1.below hba) (And.intro (H9.out.2.2.2.1.below hba) (And.intro (H9.out.2.2.2.2.1.below hba) (H9.out.2.2.2.2.2.trans (hba.mono H9.out.2.2.2.2.2.size))))))
            clear hRt hsa hba hca hN hs4 H9
            go_wp2_with (at_make; refine wpList_make_full _ rfl _ _ 22 rfl wt.heap.size 43 i0 (.int .u64 0) 1 Tryd.underlying22 hi hz0 hz1 .i64 .i64 _ _ N rfl rfl rfl rfl (by rw [hz2]; omega) (by unfold maxLen; omega) (Nat.le_refl _) ?_)
            intro wm hown hgrow
            have hbm := below_of_grown hgrow (Nat.le_refl _)
            have hr := Rw.made hown
            obtain ⟨g, hg⟩ : ∃ g, g = wt.heap.size := ⟨_, rfl⟩
            rw [← hg] at hr ⊢
            have HM := Lib.hid (And.intro hr (And.intro hbm (show wt.heap.size ≤ g by omega)))
            have HMy := Lib.hid (HT.out.2.2.1.below hbm)
            clear hown hgrow hbm hr hg
            go_wp2_with (fail)
            refine (residues_ok a1 n1 c1 N ys _ (min n1 N) rfl (by omega) HMy.out).mono ?_
            rintro e wn ⟨v, rfl, hN2, hb2⟩
            obtain ⟨K, hK⟩ : ∃ K, min n1 N = K := ⟨_, rfl⟩
            rw [hK, ← rsK_tb] at hN2
            obtain ⟨A7, c7, rfl, hs7⟩ := hN2.sl
            have hKN : K ≤ N := by omega
            have HC := Lib.hid (And.intro (cpb (HM.out.1.keep hb2) hs7 hKN) (And.intro (HM.out.2.1.trans (hb2.mono HM.out.2.1.size)) HM.out.2.2))
            clear hN2 hs7 hb2 HM HMy hK
            go_wp2_with (with_reducible refine wpList_copy_splice rfl (.tmp 129) (.tmp 133) 22 22 rfl 43 Tryd.underlying22 Tryd.size1 _ _ _ _ _ _ rfl rfl g 0 (uvs (tb N fun _ => 0)) 43 HC.out.1.1 (uvs (tb K (rsK ys K))) HC.out.1.2.1 (fun h => ⟨rfl, HC.out.1.2.2.1 h⟩) HC.out.1.2.2.2 (uvs_one _) wt.heap.size wt HC.out.2.1 HC.out.2.2 ?_)
            intro wc hrow hbc
            have HB := Lib.hid (And.intro (cpb_row hrow hKN (fun i hi => if_neg (by omega)) (fun i => PP_B (rsK_lt ys K i))) hbc)
            clear hrow hbc HC hKN
            have HN : Hid (∃ us vs, PrI w wc (some ⟨ga, 0, none⟩) N ca us (some ⟨g, 0, none⟩) N N vs a0 n0 c0 xs a1 n1 c1 ys) := Lib.hid ⟨_, _, HT.out.1.below HB.out.2, HB.out.1.sl (by omega), HT.out.2.1.below HB.out.2, HT.out.2.2.1.below HB.out.2, HT.out.2.2.2.1.below HB.out.2, HT.out.2.2.2.2.trans (HB.out.2.mono HT.out.2.2.2.2.size)⟩
            clear HB HT
            go_wp2_with (fail)
            go_roundw
            case rel => exact ⟨k + 1, N, ca, N, N, some ⟨ga, 0, none⟩, some ⟨g, 0, none⟩, by omega, by omega, by omega, by go_num, rfl, rfl, HN⟩
            case measure => simp [intOf]; omega
      · have hno : ¬ (n = n' ∧ IsLen (n : Int) ∧ Rs1 us = true ∧ Rs1 vs = true) := fun h => hok h.2.2
        have hcase : Hid (Rs1 us = false) ∨ Hid (Rs1 us = true ∧ Rs1 vs = false) := by
          cases e : Rs1 us
          · exact .inl (Lib.hid rfl)
          · right
            cases e' : Rs1 vs
            · exact Lib.hid ⟨rfl, rfl⟩
            · exact absurd ⟨e, e'⟩ hok
        have HP := Lib.hid (And.intro hno hok)
        clear hlen hok hno
        go_wp2_with (fail)
        refine (YRound_err A A' n n' d d' us vs _ H.out.1 H.out.2.1 HP.out.1).mono ?_
        rintro e w4 ⟨rfl, hb⟩
        have H4 := Lib.hid (H.out.keep hb)
        clear hb H
        go_wp2_with (fail)
        refine (YTurned_err A A' n n' d d' us vs _ H4.out.1 H4.out.2.1 HP.out.1).mono ?_
        rintro e w5 ⟨rfl, hb⟩
        have H5 := Lib.hid (H4.out.keep hb)
        clear hb H4
        go_wp2_with (fail)
        refine (YLong_err A A' n n' d d' us vs _ H5.out.1 H5.out.2.1 (.inr (.inr HP.out.2))).mono ?_
        rintro e w6 ⟨rfl, hb⟩
        have H6 := Lib.hid (H5.out.keep hb)
        clear hb H5
        go_wp2_with (fail)
        refine (R4Residues_ok A n d us _ (by omega) H6.out.1).mono ?_
        rintro e w7 ⟨rfl, rfl⟩
        rcases hcase with hc | hc
        · rw [hc.out]
          have H9 := H6
          clear H6 hc HP
          go_wp2_with (fail)
          refine (tame_ok a0 n0 c0 4 xs _ (by decide) HZ.out H9.out.2.2.1).mono ?_
          rintro e wt ⟨s, hs4, hRt⟩
          obtain ⟨ga, ca, rfl, hsa, hba, hca⟩ := hRt.open
          obtain ⟨N, hN⟩ : ∃ N, 2 ^ s = N := ⟨_, rfl⟩
          have hN5 : N ≤ 16 := by rw [← hN]; exact Nat.pow_le_pow_right (n := 2) (by decide) hs4
          rw [hN] at hsa ⊢
          have HT := Lib.hid (And.intro hsa (And.intro (H9.out.2.2.1.below hba) (And.intro (H9.out.2.2.2.1.below hba) (And.intro (H9.out.2.2.2.2.1.below hba) (H9.out.2.2.2.2.2.trans (hba.mono H9.out.2.2.2.2.2.size))))))
          clear hRt hsa hba hca hN hs4 H9
          go_wp2_with (at_make; refine wpList_make_full _ rfl _ _ 22 rfl wt.heap.size 43 i0 (.int .u64 0) 1 Tryd.underlying22 hi hz0 hz1 .i64 .i64 _ _ N rfl rfl rfl rfl (by rw [hz2]; omega) (by unfold maxLen; omega) (Nat.le_refl _) ?_)
          intro wm hown hgrow
          have hbm := below_of_grown hgrow (Nat.le_refl _)
          have hr := Rw.made hown
          obtain ⟨g, hg⟩ : ∃ g, g = wt.heap.size := ⟨_, rfl⟩
          rw [← hg] at hr ⊢
          have HM := Lib.hid (And.intro hr (And.intro hbm (show wt.heap.size ≤ g by omega)))
          have HMy := Lib.hid (HT.out.2.2.1.below hbm)
          clear hown hgrow hbm hr hg
          go_wp2_with (fail)
          refine (residues_ok a1 n1 c1 N ys _ (min n1 N) rfl (by omega) HMy.out).mono ?_
          rintro e wn ⟨v, rfl, hN2, hb2⟩
          obtain ⟨K, hK⟩ : ∃ K, min n1 N = K := ⟨_, rfl⟩
          rw [hK, ← rsK_tb] at hN2
          obtain ⟨A7, c7, rfl, hs7⟩ := hN2.sl
          have hKN : K ≤ N := by omega
          have HC := Lib.hid (And.intro (cpb (HM.out.1.keep hb2) hs7 hKN) (And.intro (HM.out.2.1.trans (hb2.mono HM.out.2.1.size)) HM.out.2.2))
          clear hN2 hs7 hb2 HM HMy hK
          go_wp2_with (with_reducible refine wpList_copy_splice rfl (.tmp 129) (.tmp 133) 22 22 rfl 43 Tryd.underlying22 Tryd.size1 _ _ _ _ _ _ rfl rfl g 0 (uvs (tb N fun _ => 0)) 43 HC.out.1.1 (uvs (tb K (rsK ys K))) HC.out.1.2.1 (fun h => ⟨rfl, HC.out.1.2.2.1 h⟩) HC.out.1.2.2.2 (uvs_one _) wt.heap.size wt HC.out.2.1 HC.out.2.2 ?_)
          intro wc hrow hbc
          have HB := Lib.hid (And.intro (cpb_row hrow hKN (fun i hi => if_neg (by omega)) (fun i => PP_B (rsK_lt ys K i))) hbc)
          clear hrow hbc HC hKN
          have HN : Hid (∃ us vs, PrI w wc (some ⟨ga, 0, none⟩) N ca us (some ⟨g, 0, none⟩) N N vs a0 n0 c0 xs a1 n1 c1 ys) := Lib.hid ⟨_, _, HT.out.1.below HB.out.2, HB.out.1.sl (by omega), HT.out.2.1.below HB.out.2, HT.out.2.2.1.below HB.out.2, HT.out.2.2.2.1.below HB.out.2, HT.out.2.2.2.2.trans (HB.out.2.mono HT.out.2.2.2.2.size)⟩
          clear HB HT
          go_wp2_with (fail)
          go_roundw
          case rel => exact ⟨k + 1, N, ca, N, N, some ⟨ga, 0, none⟩, some ⟨g, 0, none⟩, by omega, by omega, by omega, by go_num, rfl, rfl, HN⟩
          case measure => simp [intOf]; omega
        · rw [hc.out.1]
          go_wp2_with (fail)
          refine (R4Residues_ok A' n' d' vs _ (by omega) H6.out.2.1).mono ?_
          rintro e w7 ⟨rfl, rfl⟩
          rw [hc.out.2]
          have H9 := H6
          clear H6 hc HP
          go_wp2_with (fail)
          refine (tame_ok a0 n0 c0 4 xs _ (by decide) HZ.out H9.out.2.2.1).mono ?_
          rintro e wt ⟨s, hs4, hRt⟩
          obtain ⟨ga, ca, rfl, hsa, hba, hca⟩ := hRt.open
          obtain ⟨N, hN⟩ : ∃ N, 2 ^ s = N := ⟨_, rfl⟩
          have hN5 : N ≤ 16 := by rw [← hN]; exact Nat.pow_le_pow_right (n := 2) (by decide) hs4
          rw [hN] at hsa ⊢
          have HT := Lib.hid (And.intro hsa (And.intro (H9.out.2.2.1.below hba) (And.intro (H9.out.2.2.2.1.below hba) (And.intro (H9.out.2.2.2.2.1.below hba) (H9.out.2.2.2.2.2.trans (hba.mono H9.out.2.2.2.2.2.size))))))
          clear hRt hsa hba hca hN hs4 H9
          go_wp2_with (at_make; refine wpList_make_full _ rfl _ _ 22 rfl wt.heap.size 43 i0 (.int .u64 0) 1 Tryd.underlying22 hi hz0 hz1 .i64 .i64 _ _ N rfl rfl rfl rfl (by rw [hz2]; omega) (by unfold maxLen; omega) (Nat.le_refl _) ?_)
          intro wm hown hgrow
          have hbm := below_of_grown hgrow (Nat.le_refl _)
          have hr := Rw.made hown
          obtain ⟨g, hg⟩ : ∃ g, g = wt.heap.size := ⟨_, rfl⟩
          rw [← hg] at hr ⊢
          have HM := Lib.hid (And.intro hr (And.intro hbm (show wt.heap.size ≤ g by omega)))
          have HMy := Lib.hid (HT.out.2.2.1.below hbm)
          clear hown hgrow hbm hr hg
          go_wp2_with (fail)
          refine (residues_ok a1 n1 c1 N ys _ (min n1 N) rfl (by omega) HMy.out).mono ?_
          rintro e wn ⟨v, rfl, hN2, hb2⟩
          obtain ⟨K, hK⟩ : ∃ K, min n1 N = K := ⟨_, rfl⟩
          rw [hK, ← rsK_tb] at hN2
          obtain ⟨A7, c7, rfl, hs7⟩ := hN2.sl
          have hKN : K ≤ N := by omega
          have HC := Lib.hid (And.intro (cpb (HM.out.1.keep hb2) hs7 hKN) (And.intro (HM.out.2.1.trans (hb2.mono HM.out.2.1.size)) HM.out.2.2))
          clear hN2 hs7 hb2 HM HMy hK
          go_wp2_with (with_reducible refine wpList_copy_splice rfl (.tmp 129) (.tmp 133) 22 22 rfl 43 Tryd.underlying22 Tryd.size1 _ _ _ _ _ _ rfl rfl g 0 (uvs (tb N fun _ => 0)) 43 HC.out.1.1 (uvs (tb K (rsK ys K))) HC.out.1.2.1 (fun h => ⟨rfl, HC.out.1.2.2.1 h⟩) HC.out.1.2.2.2 (uvs_one _) wt.heap.size wt HC.out.2.1 HC.out.2.2 ?_)
          intro wc hrow hbc
          have HB := Lib.hid (And.intro (cpb_row hrow hKN (fun i hi => if_neg (by omega)) (fun i => PP_B (rsK_lt ys K i))) hbc)
          clear hrow hbc HC hKN
          have HN : Hid (∃ us vs, PrI w wc (some ⟨ga, 0, none⟩) N ca us (some ⟨g, 0, none⟩) N N vs a0 n0 c0 xs a1 n1 c1 ys) := Lib.hid ⟨_, _, HT.out.1.below HB.out.2, HB.out.1.sl (by omega), HT.out.2.1.below HB.out.2, HT.out.2.2.1.below HB.out.2, HT.out.2.2.2.1.below HB.out.2, HT.out.2.2.2.2.trans (HB.out.2.mono HT.out.2.2.2.2.size)⟩
          clear HB HT
          go_wp2_with (fail)
          go_roundw
          case rel => exact ⟨k + 1, N, ca, N, N, some ⟨ga, 0, none⟩, some ⟨g, 0, none⟩, by omega, by omega, by omega, by go_num, rfl, rfl, HN⟩
          case measure => simp [intOf]; omega
    · have hki : ¬ (k : Int) < 2 := by omega
      go_wp2_with (fail)
      refine (yawake_any _ H.out.2.2.2.2.1).mono ?_
      rintro e w9 ⟨rfl, b9⟩
      have H9 := Lib.hid (H.out.keep b9)
      clear b9 H
      go_wp2_with (fail)
      go_ret
      exact ⟨rfl, H9.out.2.2.2.2.2⟩
end Go.Proofs.YthpgdpkemnhneaaDoor.nttProducts
