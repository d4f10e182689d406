/- The walk of the law FastSizes. -/
import Derived.Test.YthpgdpkemnhneaaGreatDoorZFSzM
import Derived.OpenShut
namespace Go.Proofs.YthpgdpkemnhneaaGreatDoor.fastSizes
open Go.ChangeShapes Go.RowKit Go.Shelf
set_option linter.unusedVariables false
set_option linter.unusedSimpArgs false

/-- what stays: the long row, the short number, the tables -/
def SzI (w W : World) (AL : Option Addr) (L : List Nat) (A1 : Option Addr) (k1 d1 : Nat) (us : List Nat) : Prop := Sl W AL 5000 5000 L ∧ Sl W A1 k1 d1 us ∧ TabF W ∧ Below w.heap.size w W
theorem SzI.keep {w W W' : World} {AL : Option Addr} {L : List Nat} {A1 : Option Addr} {k1 d1 : Nat} {us : List Nat} (h : SzI w W AL L A1 k1 d1 us) (hb : Below W.heap.size W W') : SzI w W' AL L A1 k1 d1 us :=
  ⟨h.1.below hb, h.2.1.below hb, h.2.2.1.below hb, h.2.2.2.trans (hb.mono h.2.2.2.size)⟩
theorem at_size (n : Int) : ∃ (t : Nat), t < 50 ∧ (IntKind.u64.wrap n).tmod 50 = (t : Int) ∧ IntKind.u64.wrap n % 50 = (t : Int) ∧ IntKind.u64.wrap (t : Int) = (t : Int) ∧ IntKind.i64.wrap (t : Int) = (t : Int) := by
  have hw := IntKind.wrap_u64 n
  have h0 : 0 ≤ IntKind.u64.wrap n := by rw [hw]; omega
  obtain ⟨t, ht, ht5⟩ : ∃ t : Nat, IntKind.u64.wrap n % 50 = (t : Int) ∧ t < 50 := ⟨(IntKind.u64.wrap n % 50).toNat, by omega, by omega⟩
  exact ⟨t, ht5, by rw [Int.tmod_eq_emod_of_nonneg h0, ht], ht, wrap_nat t (by have : B64 = 18446744073709551616 := rfl; omega), IntWalk.i64_in _ (by omega)⟩
set_option maxRecDepth 100000 in
set_option maxHeartbeats 16000000 in
theorem walk (w : World) (a0 : Int) (w0 : (Lit.int .i64 a0).wf = true) (a1 : Option Addr) (n1 c1 : Nat) (xs : List Nat) (hx : Sl w a1 n1 c1 xs) (hT : TabF w) :
    Calls Tryz.prog 3 #[.int .i64 a0, .slice a1 n1 c1] w fun e w' => e = .returned (.bool true) ∧ Below w.heap.size w w' := by
  obtain ⟨i0, hi, hz0, hz1, hz2⟩ := info_parts Tryz.info44
  obtain ⟨t, ht, q1, q2, q3, q4⟩ := at_size a0
  have HT := Lib.hid (And.intro hx hT)
  clear hx hT w0
  go_enter Tryz.func3, Tryz.ntmps3
  go_wp2_with (at_make; refine wpList_make_full _ rfl _ _ 23 rfl w.heap.size 44 i0 (.int .u64 0) 1 Tryz.underlying23 hi hz0 hz1 .i64 .i64 _ _ 5000 rfl rfl rfl rfl (by rw [hz2]; omega) (by unfold maxLen; omega) (Nat.le_refl _) ?_)
  intro w1 hown hgrow
  have hb := below_of_grown hgrow (Nat.le_refl _)
  have hr := made_sl (by omega) hown
  obtain ⟨AL, hAL⟩ : ∃ AL, (some ⟨w.heap.size, 0, none⟩ : Option Addr) = AL := ⟨_, rfl⟩
  obtain ⟨L, hL⟩ : ∃ L, List.replicate 5000 0 = L := ⟨_, rfl⟩
  rw [hAL, hL] at hr
  rw [hAL]
  have H1 := Lib.hid (And.intro hr (And.intro (HT.out.1.below hb) (And.intro (HT.out.2.below hb) hb)))
  clear hown hgrow hb hr hAL hL HT
  go_wp2_with (fail)
  refine (few3_row _ _ _ 4 xs _ H1.out.2.1 (by omega)).mono ?_
  rintro e w2 ⟨A1, k1, d1, us, rfl, hk1, hs1, -, -, hb⟩
  have H2 : Hid (SzI w w2 AL L A1 k1 d1 us) := Lib.hid ⟨H1.out.1.below hb, hs1, H1.out.2.2.1.below hb, H1.out.2.2.2.trans (hb.mono H1.out.2.2.2.size)⟩
  clear hs1 hb H1
  go_wp2_with (fail)
  refine (Split_big AL 5000 5000 0 _ (by omega)).mono ?_
  rintro e w3 ⟨rfl, hb⟩
  have H3 := Lib.hid (H2.out.keep hb)
  clear hb H2
  go_wp2_with (fail)
  have hba : Below w3.heap.size w3 (w3.alloc (.cells #[.slice A1 k1 d1, .slice AL 5000 5000] 23)) := (Below.refl _ _).alloc (Nat.le_refl _) _
  refine (Join_big [(A1, k1, d1), (AL, 5000, 5000)] _ 2 2 0 _ rfl (by omega) (rd_two _) (by unfold chkS; simp)).mono ?_
  rintro e w4 ⟨rfl, hb⟩
  have H4 := Lib.hid (H3.out.keep (hba.trans (hb.mono hba.size)))
  clear hb hba H3
  go_wp2_with (fail)
  have hba : Below w4.heap.size w4 (w4.alloc (.cells #[.bool false, .slice AL 5000 5000] 32)) := (Below.refl _ _).alloc (Nat.le_refl _) _
  refine (FValue_big [⟨false, AL, 5000, 5000, L⟩] _ 1 1 99 _ (by omega) (zl_one ⟨false, AL, 5000, 5000, L⟩ _ H4.out.1) (chkZ_big (List.mem_singleton_self _) (by simp))).mono ?_
  rintro e w5 ⟨rfl, hb⟩
  have H5 := Lib.hid (H4.out.keep (hba.trans (hb.mono hba.size)))
  clear hb hba H4
  have hbb : Below w5.heap.size w5 (w5.alloc (.cells #[.bool false, .slice none 0 0] 32)) := (Below.refl _ _).alloc (Nat.le_refl _) _
  have HB := Lib.hid (H5.out.keep hbb)
  go_wp2_with (fail)
  obtain ⟨W5, hW5⟩ : ∃ W, w5.alloc (.cells #[.bool false, .slice none 0 0] 32) = W := ⟨_, rfl⟩
  have hsz : w5.heap.size + 1 = W5.heap.size := by rw [← hW5]; simp
  have HSZ := Lib.hid hsz
  rw [hW5] at HB ⊢
  clear hW5 hbb H5 hsz
  have hba : Below W5.heap.size W5 (W5.alloc (.cells #[.bool false, .slice A1 k1 d1, .bool false, .slice AL 5000 5000] 32)) := (Below.refl _ _).alloc (Nat.le_refl _) _
  refine (FFive_big [⟨false, A1, k1, d1, us⟩, ⟨false, AL, 5000, 5000, L⟩] _ 2 2 _ (by omega) (zl_two HSZ.out ⟨false, A1, k1, d1, us⟩ ⟨false, AL, 5000, 5000, L⟩ _ HB.out.2.1 HB.out.1) (chkZ_big (List.mem_cons_of_mem _ (List.mem_singleton_self _)) (by simp))).mono ?_
  rintro e w6 ⟨p1, p2, p3, p4, p5, rfl, hb⟩
  have H6 := Lib.hid (HB.out.keep (hba.trans (hb.mono hba.size)))
  clear hb hba HB
  have hbb : Below w6.heap.size w6 (w6.alloc (.cells (snL p1 p2 p3 p4 p5).toArray 36)) := (Below.refl _ _).alloc (Nat.le_refl _) _
  have HB := Lib.hid (H6.out.keep hbb)
  go_wp2_with (fail)
  obtain ⟨W6, hW6⟩ : ∃ W, w6.alloc (.cells (snL p1 p2 p3 p4 p5).toArray 36) = W := ⟨_, rfl⟩
  have hsz : w6.heap.size + 1 = W6.heap.size := by rw [← hW6]; simp
  have HSZ := Lib.hid hsz
  rw [hW6] at HB ⊢
  clear hW6 hbb H6 hsz
  refine (FBack_big ⟨false, AL, 5000, 5000, L⟩ sn0 sn0 sn0 sn0 _ (by intro s hs; simp only [List.mem_cons, List.not_mem_nil, or_false] at hs; rcases hs with rfl | rfl | rfl | rfl | rfl; exact HB.out.1; all_goals exact ⟨rfl, by simp [sn0], by simp [sn0], (fun x hx => by cases hx), fun h => absurd rfl h⟩) (chkZ_big (List.mem_cons_self ..) (by simp))).mono ?_
  rintro e w7 ⟨p6, p7, p8, p9, p10, rfl, hb⟩
  have H7 := Lib.hid (HB.out.keep hb)
  clear hb HB
  have hbb : Below w7.heap.size w7 (w7.alloc (.cells (snL p6 p7 p8 p9 p10).toArray 36)) := (Below.refl _ _).alloc (Nat.le_refl _) _
  have HB := Lib.hid (H7.out.keep hbb)
  go_wp2_with (fail)
  obtain ⟨W7, hW7⟩ : ∃ W, w7.alloc (.cells (snL p6 p7 p8 p9 p10).toArray 36) = W := ⟨_, rfl⟩
  have hsz : w7.heap.size + 1 = W7.heap.size := by rw [← hW7]; simp
  have HSZ := Lib.hid hsz
  rw [hW7] at HB ⊢
  clear hW7 hbb H7 hsz
  refine (Karatsuba_err 0 AL A1 5000 k1 5000 d1 2 _ (chkL_big2 (.inl (by omega))) rfl).mono ?_
  rintro e w8 ⟨rfl, hb⟩
  have H8 := Lib.hid (HB.out.keep hb)
  clear hb HB
  go_wp2_with (fail)
  refine (Toom_err 0 A1 AL k1 5000 d1 5000 2 _ (chkL_big2 (.inr (by omega))) rfl).mono ?_
  rintro e w9 ⟨rfl, hb⟩
  have H9 := Lib.hid (H8.out.keep hb)
  clear hb H8
  go_wp2_with (fail)
  refine (Square_err 0 AL 5000 5000 2 _ (chkL_big1 (by omega)) rfl).mono ?_
  rintro e w10 ⟨rfl, hb⟩
  have H10 := Lib.hid (H9.out.keep hb)
  clear hb H9
  go_wp2_with (fail)
  refine (FMul_big A1 AL k1 5000 d1 5000 _ (.inr (by omega))).mono ?_
  rintro e w11 ⟨rfl, hb⟩
  have H11 := Lib.hid (H10.out.keep hb)
  clear hb H10
  go_wp2_with (fail)
  refine (LowMul_big AL A1 5000 k1 5000 d1 (-1) _ (.inl (by omega))).mono ?_
  rintro e w12 ⟨rfl, hb⟩
  have H12 := Lib.hid (H11.out.keep hb)
  clear hb H11
  obtain ⟨N, hN⟩ : ∃ N : Nat, 2000 + t = N := ⟨_, rfl⟩
  obtain ⟨M, hM⟩ : ∃ M : Nat, 2096 - t = M := ⟨_, rfl⟩
  obtain ⟨sN, hsN⟩ : ∃ s : Nat, 64 * N = s := ⟨_, rfl⟩
  obtain ⟨sM, hsM⟩ : ∃ s : Nat, 64 * M = s := ⟨_, rfl⟩
  have hN5 : 2000 ≤ N ∧ N < 2050 := by omega
  have hM5 : 2047 ≤ M ∧ M ≤ 2096 := by omega
  have HNM := Lib.hid (show N + M = Most from by unfold Most; omega)
  have HsN := Lib.hid (And.intro hsN.symm hsM.symm)
  have r1 : (2000 : Int) + (t : Int) = (N : Int) := by omega
  have r2 : (64 : Int) * (N : Int) = (sN : Int) := by omega
  have r3 : (2096 : Int) - (t : Int) = (M : Int) := by omega
  have r4 : (64 : Int) * (M : Int) = (sM : Int) := by omega
  have r5 : IntKind.i64.wrap (N : Int) = (N : Int) := IntWalk.i64_in _ (by omega)
  have r6 : IntKind.i64.wrap (M : Int) = (M : Int) := IntWalk.i64_in _ (by omega)
  have r7 : IntKind.i64.wrap (sN : Int) = (sN : Int) := IntWalk.i64_in _ (by omega)
  have r8 : IntKind.i64.wrap (sM : Int) = (sM : Int) := IntWalk.i64_in _ (by omega)
  have r9 : (2001 : Int) + (t : Int) = ((N + 1 : Nat) : Int) := by omega
  have r10 : IntKind.i64.wrap ((N + 1 : Nat) : Int) = ((N + 1 : Nat) : Int) := IntWalk.i64_in _ (by omega)
  have hsN5 : sN ≤ 262144 ∧ sM ≤ 262144 := by omega
  have hBN : B64 ^ N < Big := Nat.pow_lt_pow_right B64_one (show N < Most by unfold Most; omega)
  have hBM : B64 ^ M < Big := Nat.pow_lt_pow_right B64_one (show M < Most by unfold Most; omega)
  have HBB := Lib.hid (And.intro hBN hBM)
  clear hsN hsM hN hM hBN hBM
  go_wp2_with (fail)
  obtain ⟨X1, hX1⟩ : ∃ X, w12.alloc (.cells #[.int .u64 1] 44) = X := ⟨_, rfl⟩
  have hb0 : Below w12.heap.size w12 X1 := by rw [← hX1]; exact (Below.refl _ _).alloc (Nat.le_refl _) _
  have hs0 : Sl X1 (some ⟨w12.heap.size, 0, none⟩) 1 1 [1] := by rw [← hX1]; exact sl_oneF _ (by decide)
  have HX1 := Lib.hid (And.intro (H12.out.keep hb0) hs0)
  rw [hX1]
  clear hX1 hb0 hs0 H12
  refine (R2Left_ok _ 1 1 [1] sN _ (by omega) hsN5.1 HX1.out.2).mono ?_
  rintro e y1 hR
  rw [one_left HsN.out.1] at hR
  obtain ⟨A2, k2, d2, z2, rfl, h2⟩ := hR.open HBB.out.1
  have G1 := Lib.hid (And.intro (HX1.out.1.keep h2.bel) h2)
  clear hR h2 HX1
  go_wp2_with (fail)
  obtain ⟨X2, hX2⟩ : ∃ X, y1.alloc (.cells #[.int .u64 1] 44) = X := ⟨_, rfl⟩
  have hb0 : Below y1.heap.size y1 X2 := by rw [← hX2]; exact (Below.refl _ _).alloc (Nat.le_refl _) _
  have hs0 : Sl X2 (some ⟨y1.heap.size, 0, none⟩) 1 1 [1] := by rw [← hX2]; exact sl_oneF _ (by decide)
  have HX2 := Lib.hid (And.intro (G1.out.1.keep hb0) (And.intro (G1.out.2.keep hb0) hs0))
  rw [hX2]
  clear hX2 hb0 hs0 G1
  refine (R2Left_ok _ 1 1 [1] sM _ (by omega) hsN5.2 HX2.out.2.2).mono ?_
  rintro e y2 hR
  rw [one_left HsN.out.2] at hR
  obtain ⟨A3, k3, d3, z3, rfl, h3⟩ := hR.open HBB.out.2
  have G2 := Lib.hid (And.intro (HX2.out.1.keep h3.bel) (And.intro (HX2.out.2.1.keep h3.bel) h3))
  have hk2 : k2 = N + 1 := pw_len HX2.out.2.1
  have hk3 : k3 = M + 1 := pw_len h3
  have HK2 := Lib.hid (And.intro hk2 hk3)
  have hk25 : 2000 ≤ k2 ∧ k2 ≤ 2051 := by omega
  have hk35 : 2000 ≤ k3 ∧ k3 ≤ 2100 := by omega
  clear hR h3 HX2 hk2 hk3
  go_wp2_with (fail)
  refine (FMul_long A2 A3 k2 k3 d2 d3 z2 z3 _ (by omega) (by omega) (by omega) (by omega) (by omega) (by omega) G2.out.2.1.sc G2.out.2.2.sc G2.out.1.2.2.1).mono ?_
  rintro e y3 hR
  rw [G2.out.2.1.2.2.1, G2.out.2.2.2.2.1] at hR
  have hE : e = .returned (.tuple #[.slice none 0 0, .int .i64 2]) ∧ Below y2.heap.size y2 y3 := by
    obtain ⟨⟨v, h1, h2, h3⟩ | ⟨h1, h2⟩, hb⟩ := hR
    · have := big_prod HNM.out
      omega
    · exact ⟨h1, hb⟩
  obtain ⟨rfl, hb⟩ := hE
  have G3 := Lib.hid (And.intro (G2.out.1.keep hb) (And.intro (G2.out.2.1.keep hb) (G2.out.2.2.keep hb)))
  clear hR hb G2
  go_wp2_with (fail)
  refine (R2Right_ok A3 k3 d3 z3 1 _ (by omega) (by omega) G3.out.2.2.1).mono ?_
  rintro e y4 hR
  rw [G3.out.2.2.2.2.1, Nat.pow_one] at hR
  obtain ⟨A4, k4, d4, z4, rfl, h4⟩ := hR.open (Nat.lt_of_le_of_lt (Nat.div_le_self _ _) HBB.out.2)
  have G4 := Lib.hid (And.intro (G3.out.1.keep h4.bel) (And.intro (G3.out.2.1.keep h4.bel) (And.intro (G3.out.2.2.keep h4.bel) h4)))
  have hk4 : k4 = M := half_len (by omega) h4
  have hk45 : 2000 ≤ k4 ∧ k4 ≤ 2096 := by omega
  obtain ⟨sH, hsH, hsHi⟩ : ∃ s : Nat, s = 262143 ∧ (s : Int) = 262143 := ⟨262143, rfl, rfl⟩
  have HH := Lib.hid (half_prod (show 1 ≤ M by omega) HNM.out hsH)
  have hsH5 : sH ≤ 262144 := by omega
  have hl1 := fun (A : Option Addr) (c : Nat) (W : World) (h : Sl W A 1 c [1]) => R2Left_ok A 1 c [1] sH W (by omega) hsH5 h
  rw [hsHi, V_one, Nat.one_mul] at hl1
  have HL1 := Lib.hid hl1
  clear hR h4 G3 hk4 hsH hsHi hl1
  go_wp2_with (fail)
  refine (FMul_long A2 A4 k2 k4 d2 d4 z2 z4 _ (by omega) (by omega) (by omega) (by omega) (by omega) (by omega) G4.out.2.1.sc G4.out.2.2.2.sc G4.out.1.2.2.1).mono ?_
  rintro e y5 hR
  rw [G4.out.2.1.2.2.1, G4.out.2.2.2.2.2.1, HH.out.1] at hR
  obtain ⟨A5, k5, d5, z5, rfl, h5⟩ := hR.open HH.out.2
  have G5 := Lib.hid (And.intro (G4.out.1.keep h5.bel) (And.intro (G4.out.2.1.keep h5.bel) (And.intro (G4.out.2.2.1.keep h5.bel) h5)))
  clear hR h5 G4
  go_wp2_with (fail)
  obtain ⟨X3, hX3⟩ : ∃ X, y5.alloc (.cells #[.int .u64 1] 44) = X := ⟨_, rfl⟩
  have hb0 : Below y5.heap.size y5 X3 := by rw [← hX3]; exact (Below.refl _ _).alloc (Nat.le_refl _) _
  have hs0 : Sl X3 (some ⟨y5.heap.size, 0, none⟩) 1 1 [1] := by rw [← hX3]; exact sl_oneF _ (by decide)
  have HX3 := Lib.hid (And.intro (G5.out.1.keep hb0) (And.intro (G5.out.2.1.keep hb0) (And.intro (G5.out.2.2.1.keep hb0) (And.intro (G5.out.2.2.2.keep hb0) hs0))))
  rw [hX3]
  clear hX3 hb0 hs0 G5
  refine (RNSub_ok A3 _ k3 1 d3 1 z3 [1] _ (by omega) (by omega) HX3.out.2.2.1.1 HX3.out.2.2.2.2 (by rw [V_one, HX3.out.2.2.1.2.2.1]; exact Nat.pow_pos B64_pos)).mono ?_
  rintro e y6 hR
  rw [V_one, HX3.out.2.2.1.2.2.1] at hR
  obtain ⟨A6, k6, d6, z6, rfl, h6⟩ := hR.open (Nat.lt_of_le_of_lt (Nat.sub_le _ _) HBB.out.2)
  have G6 := Lib.hid (And.intro (HX3.out.1.keep h6.bel) (And.intro (HX3.out.2.1.keep h6.bel) (And.intro (HX3.out.2.2.2.1.keep h6.bel) h6)))
  have hk6 := h6.2.2.2.1
  clear hR h6 HX3
  go_wp2_with (fail)
  refine (LowMul_ones A2 A6 k2 k6 d2 d6 (N + 1) M z2 z6 _ (by omega) (by omega) (by omega) (by omega) (by omega) hk6 G6.out.2.1.1 G6.out.2.2.2.1 (by rw [G6.out.2.1.2.2.1, Nat.add_sub_cancel]) G6.out.2.2.2.2.2.1 G6.out.1.2.2.1).mono ?_
  rintro e y7 ⟨v, rfl, hN7, hb⟩
  rw [Nat.add_sub_cancel] at hN7
  obtain ⟨A7, k7, d7, z7, rfl, h7⟩ := Nu.of hN7 hb (top_lt (k := N) (by omega))
  have G7 := Lib.hid (And.intro (G6.out.1.keep hb) (And.intro (G6.out.2.2.1.keep hb) h7))
  clear hN7 h7 hb G6
  go_wp2_with (fail)
  obtain ⟨X4, hX4⟩ : ∃ X, y7.alloc (.cells #[.int .u64 1] 44) = X := ⟨_, rfl⟩
  have hb0 : Below y7.heap.size y7 X4 := by rw [← hX4]; exact (Below.refl _ _).alloc (Nat.le_refl _) _
  have hs0 : Sl X4 (some ⟨y7.heap.size, 0, none⟩) 1 1 [1] := by rw [← hX4]; exact sl_oneF _ (by decide)
  have HX4 := Lib.hid (And.intro (G7.out.1.keep hb0) (And.intro (G7.out.2.1.keep hb0) (And.intro (G7.out.2.2.keep hb0) hs0)))
  rw [hX4]
  clear hX4 hb0 hs0 G7
  refine (HL1.out _ _ _ HX4.out.2.2.2).mono ?_
  rintro e y8 hR
  obtain ⟨A8, k8, d8, z8, rfl, h8⟩ := hR.open HH.out.2
  have G8 := Lib.hid (And.intro (HX4.out.1.keep h8.bel) (And.intro (HX4.out.2.1.keep h8.bel) (And.intro (HX4.out.2.2.1.keep h8.bel) h8)))
  clear hR h8 HX4
  go_wp2_with (fail)
  refine (Is_nu G8.out.2.1 G8.out.2.2.2.1 G8.out.2.2.2.2.2.2.1 G8.out.2.2.2.2.2.1).mono ?_
  rintro e y9 ⟨rfl, hb⟩
  have G9 := Lib.hid (And.intro (G8.out.1.keep hb) (G8.out.2.2.1.keep hb))
  clear hb G8
  go_wp2_with (fail)
  obtain ⟨tw, htw, htwi⟩ : ∃ x : Nat, x = B64 - 1 ∧ (x : Int) = 18446744073709551615 := ⟨B64 - 1, rfl, rfl⟩
  have hs0 : Sl (y9.alloc (.cells #[.int .u64 (tw : Int)] 44)) (some ⟨y9.heap.size, 0, none⟩) 1 1 [tw] := sl_oneF _ (by rw [htw]; decide)
  rw [htwi] at hs0
  obtain ⟨X5, hX5⟩ : ∃ X, y9.alloc (.cells #[.int .u64 18446744073709551615] 44) = X := ⟨_, rfl⟩
  have hb0 : Below y9.heap.size y9 X5 := by rw [← hX5]; exact (Below.refl _ _).alloc (Nat.le_refl _) _
  rw [hX5] at hs0 ⊢
  have HX5 := Lib.hid (And.intro (G9.out.1.keep hb0) (And.intro (G9.out.2.keep hb0) (And.intro hs0 htw)))
  clear hX5 hb0 hs0 htw htwi G9
  refine (R2Left_ok _ 1 1 [tw] sN _ (by omega) hsN5.1 HX5.out.2.2.1).mono ?_
  rintro e y10 hR
  rw [top_left HsN.out.1 HX5.out.2.2.2] at hR
  obtain ⟨A9, k9, d9, z9, rfl, h9⟩ := hR.open (top_lt (by omega))
  have G10 := Lib.hid (And.intro (HX5.out.1.keep h9.bel) (And.intro (HX5.out.2.1.keep h9.bel) h9))
  clear hR h9 HX5
  go_wp2_with (fail)
  refine (Is_nu G10.out.2.1 G10.out.2.2.1 G10.out.2.2.2.2.2.1 G10.out.2.2.2.2.1).mono ?_
  rintro e y11 ⟨rfl, hb⟩
  have G11 := Lib.hid (G10.out.1.keep hb)
  clear hb G10
  go_wp2_with (fail)
  refine (fawake_any _ G11.out.2.2.1).mono ?_
  rintro e y12 ⟨rfl, hb⟩
  have G12 := Lib.hid (G11.out.keep hb)
  clear hb G11
  go_wp2_with (fail)
  go_ret
  exact ⟨rfl, G12.out.2.2.2⟩
end Go.Proofs.YthpgdpkemnhneaaGreatDoor.fastSizes
