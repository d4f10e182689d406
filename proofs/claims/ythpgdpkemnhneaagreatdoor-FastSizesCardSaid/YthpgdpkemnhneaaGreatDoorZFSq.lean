/- The contracts of square, fast.Square and fast.Mul (of not too long numbers). -/
import Derived.Test.YthpgdpkemnhneaaGreatDoorZFKT
import Derived.Test.YthpgdpkemnhneaaGreatDoorP2
namespace Go.Proofs.YthpgdpkemnhneaaGreatDoor
open Go.RowKit Go.Shelf
set_option linter.unusedVariables false
set_option linter.unusedSimpArgs false
set_option maxRecDepth 10000
attribute [local go_sem] field_words

set_option maxHeartbeats 4000000 in
theorem sqr_step (N : Nat) (least : Nat) (hl3 : 3 ≤ least) (hl64 : least ≤ 64)
    (IH : ∀ (A : Option Addr) (n c : Nat) (xs : List Nat) (w : World), n < N → Sc w A n c xs → 2 * n ≤ 4097 →
      Calls Tryz.prog 41 #[.int .i64 (least : Int), .slice A n c] w fun e w' => Rv w w' e (V xs * V xs))
    (A : Option Addr) (n c : Nat) (xs : List Nat) (w : World) (hn : n ≤ N) (hx : Sc w A n c xs) (h2n : 2 * n ≤ 4097) :
      Calls Tryz.prog 41 #[.int .i64 (least : Int), .slice A n c] w fun e w' => Rv w w' e (V xs * V xs) := by
  have Hx := Lib.hid hx
  have HI := Lib.hid IH
  clear hx IH
  by_cases hlt : n < least
  · have hli : (n : Int) < (least : Int) := by omega
    have HL := Lib.hid (show V xs * V xs < Big from ((Room.lt (least := 65) Hx.out.1 Hx.out.1 (by omega)).2 (by omega)))
    go_enter Tryz.func41, Tryz.ntmps41
    go_wp2_with (fail)
    refine (NSquare_ok A n c xs _ (by omega) Hx.out.1).mono ?_
    rintro e w1 hR
    obtain ⟨A1, n1, c1, zs, rfl, hN⟩ := hR.open HL.out
    have HN := Lib.hid hN
    clear hN hR
    go_wp2_with (fail)
    go_ret
    exact ⟨_, rfl, HN.out.2.2.2.2.1, HN.out.bel⟩
  · have hli : ¬ (n : Int) < (least : Int) := by omega
    obtain ⟨h, hh⟩ : ∃ h, h = (n + 1) / 2 := ⟨_, rfl⟩
    have hhi : ((n : Int) + 1) / 2 = (h : Int) := by omega
    have hhi2 : ((n : Int) + 1).tdiv 2 = (h : Int) := by rw [Int.tdiv_eq_ediv_of_nonneg (by omega)]; exact hhi
    have HS := Lib.hid (show n ≤ 2 * h ∧ h < N ∧ 2 * h ≤ 4095 ∧ h < n by omega)
    have hh5 : h ≤ 3000 := by omega
    have hw1 : IntKind.i64.wrap ((n : Int) + 1) = (n : Int) + 1 := IntWalk.i64_in _ (by omega)
    have hw2 : IntKind.i64.wrap (h : Int) = (h : Int) := IntWalk.i64_in _ (by omega)
    clear hh
    go_enter Tryz.func41, Tryz.ntmps41
    go_wp2_with (fail)
    refine (fhalves_ok A n c h xs _ (by omega) (by omega) Hx.out).mono ?_
    rintro e w1 ⟨⟨A1, k1, c1, l1, A2, k2, c2, l2, rfl, s1, s2, hk1, -, hk2, hv1, -⟩, d1, rfl⟩
    have HV1 := Lib.hid (And.intro s1 (And.intro s2 (And.intro hk1 (And.intro (show k2 ≤ h by have := HS.out; omega) hv1))))
    have hlen : k1 ≤ 3000 ∧ k2 ≤ 3000 := by omega
    obtain ⟨q1, q2⟩ := hlen
    clear s1 s2 hk1 hk2 hv1
    go_wp2_with (fail)
    refine (fdiff_ok A2 A1 k2 k1 c2 c1 l2 l1 _ (by omega) (by omega) (show Sl (w.drewN d1) _ _ _ _ from HV1.out.2.1.1) (show Sl (w.drewN d1) _ _ _ _ from HV1.out.1.1)).mono ?_
    rintro e w3 ⟨t1, A5, n5, c5, z5, rfl, hS5, hb5⟩
    have HD1 := Lib.hid (And.intro (show Sg w w3 t1 A5 n5 c5 z5 _ from hS5) (show Below w.heap.size w w3 from ⟨hb5.os, hb5.tape, hb5.output, hb5.size, hb5.block⟩))
    clear hS5 hb5
    have hn5 := diff_len HD1.out.1 (HV1.out.2.1.lt HV1.out.2.2.2.1) (HV1.out.1.lt HV1.out.2.2.1)
    go_wp2_with (fail)
    refine (HI.out A5 n5 c5 z5 w3 (by have := HS.out; omega) HD1.out.1.sl (by have := HS.out; omega)).mono ?_
    rintro e w4 ⟨v, rfl, hN2, hq2⟩
    obtain ⟨A7, n7, c7, z7, rfl, s7, hc7, hv7, -⟩ := hN2.sl
    have hn7 := prod_len s7 hc7 hv7 (HD1.out.1.sl.lt hn5) (HD1.out.1.sl.lt hn5) hh5
    have H4 := Lib.hid (And.intro s7 (And.intro hv7 (HD1.out.2.trans (hq2.mono HD1.out.2.size))))
    have HSg := Lib.hid HD1.out.1.2.2.1
    clear hN2 hq2 s7 hc7 hv7 HD1
    go_wp2_with (fail)
    refine (natural_ok A7 n7 c7 _).mono ?_
    rintro e w5 ⟨rfl, hb5⟩
    have H5 := Lib.hid (And.intro (H4.out.1.below hb5) (And.intro H4.out.2.1 (H4.out.2.2.trans (hb5.mono H4.out.2.2.size))))
    clear hb5 H4
    go_wp2_with (fail)
    obtain ⟨X, hX⟩ : ∃ X, w5.alloc (.cells #[.bool false, .slice A7 n7 c7] 59) = X := ⟨_, rfl⟩
    obtain ⟨b1, hb1⟩ : ∃ b1, w5.heap.size = b1 := ⟨_, rfl⟩
    have hbX : Below w5.heap.size w5 X := by rw [← hX]; exact (Below.refl _ _).alloc (Nat.le_refl _) _
    have HK := Lib.hid (show Bk X b1 [.bool false, .slice A7 n7 c7] from by rw [← hX, ← hb1]; exact Bk.new w5 [.bool false, .slice A7 n7 c7] 59)
    have HX := Lib.hid (And.intro (H5.out.1.below hbX) (And.intro H5.out.2.1 (And.intro (H5.out.2.2.trans (hbX.mono H5.out.2.2.size)) (show b1 < X.heap.size by rw [← hX, ← hb1]; simp))))
    rw [hX, hb1]
    clear hX hb1 hbX H5
    go_wp2_with (fail)
    go_region_held3 (fun w' => w'.cell? ⟨b1, 0, none⟩ = some (.bool false) ∧ w'.cell? ⟨b1, 1, none⟩ = some (.slice A7 n7 c7))
      ((refine (fun (hq : Below X.heap.size X _) => (⟨((HK.out.below hq HX.out.2.2.2) 0 _ rfl).1, ((HK.out.below hq HX.out.2.2.2) 1 _ rfl).1⟩ : _ ∧ _)) ?_; first | exact below_dr (Below.refl _ _) | exact HC3.out | exact HC2.out.1 | exact HC1.out.1))
      (first
        | (go_at_call 41; (with_reducible show Calls _ _ _ (World.drew X) _); refine (HI.out A1 k1 c1 l1 X.drew (by have := HS.out; have := HV1.out.2.2.1; omega) (HV1.out.1.below (below_dr HX.out.2.2.1)) (by have := HS.out; have := HV1.out.2.2.1; omega)).mono ?_; rintro e w7 ⟨v, rfl, hN2, hq2⟩; obtain ⟨A8, n8, c8, z8, rfl, s8, cn8, hv8, -⟩ := hN2.sl; have HC1 : Hid (Below X.heap.size X w7 ∧ Sl w7 A8 n8 c8 z8 ∧ Cn z8 ∧ V z8 = V l1 * V l1) := ⟨belowA hq2, s8, cn8, hv8⟩; clear hN2 hq2 s8 cn8 hv8)
        | (go_at_call 41; (with_reducible show Calls _ _ _ w7 _); have hal := HX.out.2.2.1.trans (HC1.out.1.mono HX.out.2.2.1.size); refine (HI.out A2 k2 c2 l2 w7 (by have := HS.out; have := HV1.out.2.2.2.1; omega) (HV1.out.2.1.below hal) (by have := HS.out; have := HV1.out.2.2.2.1; omega)).mono ?_; rintro e w8 ⟨v, rfl, hN2, hq2⟩; obtain ⟨A9, n9, c9, z9, rfl, s9, cn9, hv9, -⟩ := hN2.sl; have HC2 : Hid (Below X.heap.size X w8 ∧ Sl w8 A8 n8 c8 z8 ∧ Sl w8 A9 n9 c9 z9 ∧ Cn z9 ∧ V z9 = V l2 * V l2) := ⟨HC1.out.1.trans (hq2.mono HC1.out.1.size), HC1.out.2.1.below hq2, s9, cn9, hv9⟩; clear hN2 hq2 s9 cn9 hv9 hal)
        | (go_at_call 72; refine (fromHalves_ok A8 A9 A7 n8 n9 n7 c8 c9 c7 z8 z9 z7 false h w8 (prod_len HC2.out.2.1 HC1.out.2.2.1 HC1.out.2.2.2 (HV1.out.1.lt HV1.out.2.2.1) (HV1.out.1.lt HV1.out.2.2.1) hh5) (prod_len HC2.out.2.2.1 HC2.out.2.2.2.1 HC2.out.2.2.2.2 (HV1.out.2.1.lt HV1.out.2.2.2.1) (HV1.out.2.1.lt HV1.out.2.2.2.1) hh5) (by omega) (by omega) HC2.out.2.1 HC2.out.2.2.1 (HX.out.1.below HC2.out.1)).mono ?_; rintro e w9 hW; obtain ⟨v9, rfl, hNt, hq9⟩ := hW.nat (halves_sum HC1.out.2.2.2 HC2.out.2.2.2.2 (by rw [HX.out.2.1, show sgn false (V z5 * V z5) = sgn t1 (V z5) * sgn t1 (V z5) by rw [← sgn_mul]; cases t1 <;> rfl, ← HSg.out])); have HF := Lib.hid (And.intro hNt hq9.size); have HC3 := Lib.hid (HC2.out.1.trans (hq9.mono HC2.out.1.size)); clear hW hNt hq9))
    go_wp2_with (fail)
    go_ret
    have hwX := HX.out.2.2.1
    rw [HV1.out.2.2.2.2]
    exact ⟨v9, rfl, HF.out.1.base (by have := hwX.size; have := HC2.out.1.size; omega), hwX.trans (HC3.out.mono hwX.size)⟩
theorem sqr_ok (least : Nat) (hl3 : 3 ≤ least) (hl64 : least ≤ 64) : ∀ (N : Nat) (A : Option Addr) (n c : Nat) (xs : List Nat) (w : World), n ≤ N → Sc w A n c xs → 2 * n ≤ 4097 →
      Calls Tryz.prog 41 #[.int .i64 (least : Int), .slice A n c] w fun e w' => Rv w w' e (V xs * V xs) := by
  intro N
  induction N with
  | zero =>
    intro A n c xs w hn hx h2
    exact sqr_step 0 least hl3 hl64 (fun _ _ _ _ _ h => absurd h (by omega)) A n c xs w hn hx h2
  | succ N ih =>
    intro A n c xs w hn hx h2
    exact sqr_step (N + 1) least hl3 hl64 (fun A n c xs w h => ih A n c xs w (by omega)) A n c xs w hn hx h2

set_option maxHeartbeats 2000000 in
theorem Square_ok (least : Nat) (hl3 : 3 ≤ least) (hl64 : least ≤ 64) (A : Option Addr) (n c : Nat) (xs : List Nat) (w : World) (hn : n ≤ 4096) (hx : Sl w A n c xs) :
    Calls Tryz.prog 12 #[.slice A n c, .int .i64 (least : Int)] w fun e w' => Rs w w' e (V xs * V xs) := by
  have HC := Lib.hid (show chkL (least : Int) [(A, n, c)] = 0 by rw [chkL, if_pos (chkS_one hn), if_neg (by omega)])
  have Hx := Lib.hid hx
  clear hx
  go_enter Tryz.func12, Tryz.ntmps12
  go_wp2_with (fail)
  refine (checkLeast_one (least : Int) A n c _ _ w rfl).mono ?_
  rintro e w0 ⟨rfl, hb0⟩
  rw [HC.out]
  have H0 := Lib.hid (And.intro (Hx.out.below hb0) hb0)
  clear hb0
  go_wp2_with (fail)
  refine (fused_ok A n c xs w0 (by omega) H0.out.1).mono ?_
  rintro e w1 ⟨k, rfl, hk, hU, rfl⟩
  have HU := Lib.hid (And.intro hU.out (H0.out.1.tk hk))
  clear hU
  by_cases hlt : k < least
  · have hli : (k : Int) < (least : Int) := by omega
    go_wp2_with (fail)
    refine (NSquare_ok A k c (xs.take k) w0 (by omega) HU.out.2).mono ?_
    rintro e w1 hR
    rw [HU.out.1.1] at hR
    obtain ⟨⟨v, rfl, h1, h2⟩ | ⟨rfl, h2⟩, hb⟩ := hR.from H0.out.2
    · have H := Lib.hid (And.intro h1 (And.intro h2 hb))
      clear h1 h2 hb hR
      go_wp2_with (fail)
      go_ret2
      exact ⟨.inl ⟨v, rfl, H.out.1, H.out.2.1⟩, H.out.2.2⟩
    · have H := Lib.hid (And.intro h2 hb)
      clear h2 hb hR
      go_wp2_with (fail)
      go_ret2
      exact ⟨.inr ⟨rfl, H.out.1⟩, H.out.2⟩
  · have hli : ¬ (k : Int) < (least : Int) := by omega
    by_cases hbig : 4097 < 2 * k
    · have hbi : (4096 : Int) < 2 * (k : Int) - 1 := by omega
      have HB := Lib.hid (show Big ≤ V xs * V xs by
        rw [← HU.out.1.1]
        exact prod_big HU.out.2.2.2.2.1 HU.out.1.2 HU.out.2.1 HU.out.2.2.2.2.1 HU.out.1.2 HU.out.2.1 (by omega) (by omega) (by omega))
      go_wp2_with (fail)
      go_ret2
      exact ⟨.inr ⟨rfl, HB.out⟩, H0.out.2⟩
    · have hbi : ¬ (4096 : Int) < 2 * (k : Int) - 1 := by omega
      have hbi2 : 2 * (k : Int) - 1 ≤ 4096 := by omega
      go_wp2_with (fail)
      refine (sqr_ok least hl3 hl64 k A k c (xs.take k) w0 (Nat.le_refl _) ⟨HU.out.2, HU.out.1.2⟩ (by omega)).mono ?_
      rintro e w1 ⟨v, rfl, hN, hb⟩
      rw [HU.out.1.1] at hN
      obtain ⟨A1, n1, c1, zs, rfl, hs1, hc1, hv1, hw1⟩ := hN.sl
      have hn1 : n1 ≤ 9223372036854775807 := Nat.le_trans hs1.2.1 hs1.2.2.1
      have H := Lib.hid (And.intro hc1 (And.intro hv1 (And.intro (hw1.later H0.out.2.size (Below.refl _ _)) (H0.out.2.trans (hb.mono H0.out.2.size)))))
      clear hN hs1 hc1 hv1 hw1 hb
      go_wp2_with (fail)
      refine (fresult_ok w A1 n1 c1 zs w1 H.out.2.2.1 H.out.1 hn1).mono ?_
      rintro e w2 ⟨hz, hb2⟩
      rw [H.out.2.1] at hz
      have HB2 := Lib.hid (H.out.2.2.2.trans (hb2.mono H.out.2.2.2.size))
      clear hb2
      rcases hz with ⟨rfl, h1, h2, h3⟩ | ⟨rfl, h1⟩
      · have H2 := Lib.hid (And.intro h1 h2)
        clear h1 h2 h3
        go_wp2_with (fail)
        go_ret2
        exact ⟨.inl ⟨_, rfl, H2.out.1, H2.out.2⟩, HB2.out⟩
      · have H2 := Lib.hid h1
        clear h1
        go_wp2_with (fail)
        go_ret2
        exact ⟨.inr ⟨rfl, H2.out⟩, HB2.out⟩
set_option maxHeartbeats 1000000 in
theorem Square_err (least : Int) (A : Option Addr) (n c : Nat) (E : Int) (w : World) (hE : chkL least [(A, n, c)] = E) (hE0 : (E == 0) = false) :
    Calls Tryz.prog 12 #[.slice A n c, .int .i64 least] w fun e w' => e = .returned (.tuple #[.slice none 0 0, .int .i64 E]) ∧ Below w.heap.size w w' := by
  have HC := Lib.hid hE
  have hE2 : (E != 0) = true := by rw [bne, hE0]; rfl
  clear hE
  go_enter Tryz.func12, Tryz.ntmps12
  go_wp2_with (fail)
  refine (checkLeast_one least A n c _ _ w rfl).mono ?_
  rintro e w1 ⟨rfl, hb1⟩
  rw [HC.out]
  have H1 := Lib.hid hb1
  clear hb1
  go_wp2_with (fail)
  go_ret2
  exact ⟨rfl, H1.out⟩
set_option maxHeartbeats 1000000 in
/-- fast.product of numbers too short for a way -/
theorem product_short (A A' : Option Addr) (n n' c c' : Nat) (xs ys : List Nat) (w : World) (hn : n ≤ 4096) (hn' : n' ≤ 4096) (hm : n < 50 ∨ n' < 50) (hx : Sl w A n c xs) (hy : Sl w A' n' c' ys) :
    Calls Tryz.prog 37 #[.slice A n c, .slice A' n' c', .int .i64 50, .func (.func 42) #[] #[]] w fun e w' => Rs w w' e (V xs * V ys) := by
  have Hx := Lib.hid (And.intro hx hy)
  clear hx hy
  go_enter Tryz.func37, Tryz.ntmps37
  go_wp2_with (fail)
  refine (fused_ok A n c xs w (by omega) Hx.out.1).mono ?_
  rintro e w1 ⟨k, rfl, hk, hU, rfl⟩
  have HU := Lib.hid (And.intro hU.out (Hx.out.1.tk hk))
  clear hU
  go_wp2_with (fail)
  refine (fused_ok A' n' c' ys w (by omega) Hx.out.2).mono ?_
  rintro e w1 ⟨k', rfl, hk', hU, rfl⟩
  have HU' := Lib.hid (And.intro hU.out (Hx.out.2.tk hk'))
  clear hU
  obtain ⟨mn, hmn⟩ : ∃ mn, mn = min k k' := ⟨_, rfl⟩
  have hmi : min (k : Int) (k' : Int) = (mn : Int) := by omega
  have hli : (mn : Int) < 50 := by omega
  clear hmn
  go_wp2_with (fail)
  refine (NMul_ok A A' k k' c c' (xs.take k) (ys.take k') w (by omega) (by omega) HU.out.2 HU'.out.2).mono ?_
  rintro e w1 hR
  rw [HU.out.1.1, HU'.out.1.1] at hR
  obtain ⟨⟨v, rfl, h1, h2⟩ | ⟨rfl, h2⟩, hb⟩ := hR
  · have H := Lib.hid (And.intro h1 (And.intro h2 hb))
    clear h1 h2 hb
    go_wp2_with (fail)
    go_ret2
    exact ⟨.inl ⟨v, rfl, H.out.1, H.out.2.1⟩, H.out.2.2⟩
  · have H := Lib.hid (And.intro h2 hb)
    clear h2 hb
    go_wp2_with (fail)
    go_ret2
    exact ⟨.inr ⟨rfl, H.out.1⟩, H.out.2⟩
set_option maxHeartbeats 1000000 in
/-- the product as the package pleases, of numbers too short for its ways -/
theorem FMul_ok (A A' : Option Addr) (n n' c c' : Nat) (xs ys : List Nat) (w : World) (hn : n ≤ 4096) (hn' : n' ≤ 4096) (hm : n < 50 ∨ n' < 50) (hx : Sl w A n c xs) (hy : Sl w A' n' c' ys) :
    Calls Tryz.prog 13 #[.slice A n c, .slice A' n' c'] w fun e w' => Rs w w' e (V xs * V ys) := by
  have Hx := Lib.hid (And.intro hx hy)
  have HC := Lib.hid (chkS_two (A := A) (A' := A') (c := c) (c' := c') hn hn')
  clear hx hy
  go_enter Tryz.func13, Tryz.ntmps13
  go_wp2_with (fail)
  refine (fcheck_two A A' n n' c c' _ _ w rfl).mono ?_
  rintro e w1 ⟨rfl, hb1⟩
  rw [HC.out]
  have H1 := Lib.hid (And.intro (Hx.out.1.below hb1) (And.intro (Hx.out.2.below hb1) hb1))
  clear hb1
  go_wp2_with (fail)
  refine (product_short A A' n n' c c' xs ys w1 hn hn' hm H1.out.1 H1.out.2.1).mono ?_
  rintro e w2 hR
  obtain ⟨⟨v, rfl, h1, h2⟩ | ⟨rfl, h2⟩, hb⟩ := hR.from H1.out.2.2
  · have H := Lib.hid (And.intro h1 (And.intro h2 hb))
    clear h1 h2 hb hR
    go_wp2_with (fail)
    go_ret2
    exact ⟨.inl ⟨v, rfl, H.out.1, H.out.2.1⟩, H.out.2.2⟩
  · have H := Lib.hid (And.intro h2 hb)
    clear h2 hb hR
    go_wp2_with (fail)
    go_ret2
    exact ⟨.inr ⟨rfl, H.out.1⟩, H.out.2⟩
end Go.Proofs.YthpgdpkemnhneaaGreatDoor
