/- Products of long numbers of about the same length: quickest, quick, Mul; the lower words of a product. -/
import Derived.Test.YthpgdpkemnhneaaGreatDoorZFErr
namespace Go.Proofs.YthpgdpkemnhneaaGreatDoor
open Go.RowKit Go.Shelf
set_option linter.unusedVariables false
set_option linter.unusedSimpArgs false
set_option maxRecDepth 10000

set_option maxHeartbeats 1000000 in
theorem quickest_toom (n : Nat) (hn : 80 ≤ n) (w : World) :
    Calls Tryz.prog 78 #[.iface 79 (.int .i64 50), .int .i64 (n : Int)] w fun e w' => e = .returned (.func (.method "reckoner/fast.toom") #[.iface 79 (.int .i64 50)] #[]) ∧ w = w' := by
  have hni : ¬ (n : Int) < 50 := by omega
  have hni2 : ¬ (n : Int) < 80 := by omega
  go_enter Tryz.func78, Tryz.ntmps78
  go_wp2_with (fail)
  go_ret
  exact ⟨rfl, rfl⟩
theorem toom_in (x a b : Value) (w : World) : (invoke (.fn (.method "reckoner/fast.toom") #[.iface 79 x]) #[.iface 79 x, a, b]).run Tryz.prog w = .ok (.enter 39 #[x, a, b]) w := by kernel_rfl
set_option maxHeartbeats 2000000 in
theorem quick_toom (A A' : Option Addr) (n n' c c' : Nat) (xs ys : List Nat) (w : World) (hn : 80 ≤ n) (hn' : 80 ≤ n') (h1 : n < 2 * n') (h2 : n' < 2 * n) (hs : n + n' ≤ 4097) (hx : Sc w A n c xs) (hy : Sc w A' n' c' ys) (hT : TabF w) :
    Calls Tryz.prog 42 #[.slice A n c, .slice A' n' c'] w fun e w' => Rv w w' e (V xs * V ys) := by
  have Hx := Lib.hid (And.intro hx (And.intro hy hT))
  have HR := Lib.hid (show Room 50 n n' (V xs * V ys) from ⟨⟨hs, by omega, by omega⟩, fun h => by omega⟩)
  have HR' := Lib.hid (show Room 50 n' n (V ys * V xs) from ⟨⟨by omega, by omega, by omega⟩, fun h => by omega⟩)
  clear hx hy hT
  by_cases hlt : n < n'
  · have hli : (n : Int) < (n' : Int) := by omega
    have hni : ¬ (n : Int) < 50 := by omega
    have hni2 : (n' : Int) < 2 * (n : Int) := by omega
    have hw2 : IntKind.i64.wrap (2 * (n : Int)) = 2 * (n : Int) := IntWalk.i64_in _ (by omega)
    go_enter Tryz.func42, Tryz.ntmps42
    go_wp2_with (fail)
    have hbX : Below w.heap.size w (w.alloc (.cells #[.slice A n c] 23)).drew := below_dr ((Below.refl _ _).alloc (Nat.le_refl _) _)
    have hcell : (w.alloc (.cells #[.slice A n c] 23)).drew.cell? ⟨w.heap.size, 0, none⟩ = some (.slice A n c) := by simp
    go_region_held3 (fun w' => w'.cell? ⟨w.heap.size, 0, none⟩ = some (.slice A n c)) (first | exact hcell | exact hc2 | go_keep)
      (first
        | (go_at_call 78; refine (quickest_toom _ (by omega) _).mono ?_; rintro e w1 ⟨rfl, rfl⟩)
        | (go_at_call 39; refine (toom_ok 50 (by omega) (by omega) _ _ _ _ _ _ ys xs _ (Hx.out.2.1.below hbX) (Hx.out.1.below hbX) (Hx.out.2.2.below hbX) HR'.out).mono ?_; rintro e w2 ⟨v, rfl, hN, hb⟩; have hc2 := (hb.cell (p := ⟨w.heap.size, 0, none⟩) (World.block_lt_of_cell? _ _ hcell)).trans hcell; have H := Lib.hid (And.intro hN (And.intro hb hbX)); clear hN hb))
    all_goals
      go_wp2_with (fail)
      go_ret
      rw [Nat.mul_comm]
      exact ⟨v, rfl, H.out.1.base H.out.2.2.size, H.out.2.2.trans (H.out.2.1.mono H.out.2.2.size)⟩
  · have hli : ¬ (n : Int) < (n' : Int) := by omega
    have hni : ¬ (n' : Int) < 50 := by omega
    have hni2 : (n : Int) < 2 * (n' : Int) := by omega
    have hw2 : IntKind.i64.wrap (2 * (n' : Int)) = 2 * (n' : Int) := IntWalk.i64_in _ (by omega)
    go_enter Tryz.func42, Tryz.ntmps42
    go_wp2_with (fail)
    have hbX : Below w.heap.size w (w.alloc (.cells #[.slice A' n' c'] 23)).drew := below_dr ((Below.refl _ _).alloc (Nat.le_refl _) _)
    have hcell : (w.alloc (.cells #[.slice A' n' c'] 23)).drew.cell? ⟨w.heap.size, 0, none⟩ = some (.slice A' n' c') := by simp
    go_region_held3 (fun w' => w'.cell? ⟨w.heap.size, 0, none⟩ = some (.slice A' n' c')) (first | exact hcell | exact hc2 | go_keep)
      (first
        | (go_at_call 78; refine (quickest_toom _ (by omega) _).mono ?_; rintro e w1 ⟨rfl, rfl⟩)
        | (go_at_call 39; refine (toom_ok 50 (by omega) (by omega) _ _ _ _ _ _ xs ys _ (Hx.out.1.below hbX) (Hx.out.2.1.below hbX) (Hx.out.2.2.below hbX) HR.out).mono ?_; rintro e w2 ⟨v, rfl, hN, hb⟩; have hc2 := (hb.cell (p := ⟨w.heap.size, 0, none⟩) (World.block_lt_of_cell? _ _ hcell)).trans hcell; have H := Lib.hid (And.intro hN (And.intro hb hbX)); clear hN hb))
    all_goals
      go_wp2_with (fail)
      go_ret
      exact ⟨v, rfl, H.out.1.base H.out.2.2.size, H.out.2.2.trans (H.out.2.1.mono H.out.2.2.size)⟩
set_option maxHeartbeats 2000000 in
/-- the product of canonical numbers of about the same length -/
theorem product_long (A A' : Option Addr) (n n' c c' : Nat) (xs ys : List Nat) (w : World) (hn : n ≤ 4096) (hn' : n' ≤ 4096) (h8 : 80 ≤ n) (h8' : 80 ≤ n') (hr : n < 2 * n') (hr' : n' < 2 * n) (hx : Sc w A n c xs) (hy : Sc w A' n' c' ys) (hT : TabF w) :
    Calls Tryz.prog 37 #[.slice A n c, .slice A' n' c', .int .i64 50, .func (.func 42) #[] #[]] w fun e w' => Rs w w' e (V xs * V ys) := by
  have Hx := Lib.hid (And.intro hx (And.intro hy hT))
  have key : ∀ {xs : List Nat} {n k : Nat}, xs.length = n → Cn xs → Ws xs → k ≤ n → V (xs.take k) = V xs → Cn (xs.take k) → k = n := fun {xs n k} hl hc hw hk hv hck => by
    have h1 : (xs.take k).length = k := by rw [List.length_take]; omega
    have h2 := (Cn_len hw hc k).2 (by rw [← hv]; have := V_lt _ (Ws_take hw k); rwa [h1] at this)
    omega
  have HK := Lib.hid (And.intro (fun k hk hv hc => key (k := k) hx.1.1 hx.2 hx.1.2.2.2.1 hk hv hc) (fun k hk hv hc => key (k := k) hy.1.1 hy.2 hy.1.2.2.2.1 hk hv hc))
  clear hx hy hT key
  go_enter Tryz.func37, Tryz.ntmps37
  go_wp2_with (fail)
  refine (fused_ok A n c xs w (by omega) Hx.out.1.1).mono ?_
  rintro e w1 ⟨k, rfl, hk, hU, rfl⟩
  obtain rfl := HK.out.1 k hk hU.out.1 hU.out.2
  clear hU
  go_wp2_with (fail)
  refine (fused_ok A' n' c' ys w (by omega) Hx.out.2.1.1).mono ?_
  rintro e w1 ⟨k', rfl, hk', hU, rfl⟩
  obtain rfl := HK.out.2 k' hk' hU.out.1 hU.out.2
  clear hU HK
  obtain ⟨mn, hmn⟩ : ∃ mn, mn = min k k' := ⟨_, rfl⟩
  have hmi : min (k : Int) (k' : Int) = (mn : Int) := by omega
  have hli : ¬ (mn : Int) < 50 := by omega
  clear hmn
  by_cases hbig : 4097 < k + k'
  · have hbi : (4096 : Int) < (k : Int) + (k' : Int) - 1 := by omega
    have HB := Lib.hid (prod_big Hx.out.1.1.2.2.2.1 Hx.out.1.2 Hx.out.1.1.1 Hx.out.2.1.1.2.2.2.1 Hx.out.2.1.2 Hx.out.2.1.1.1 hbig (by omega) (by omega))
    go_wp2_with (fail)
    go_ret2
    exact ⟨.inr ⟨rfl, HB.out⟩, Below.refl _ _⟩
  · have hbi : ¬ (4096 : Int) < (k : Int) + (k' : Int) - 1 := by omega
    have hbi2 : (k : Int) + (k' : Int) - 1 ≤ 4096 := by omega
    go_wp2_with (fail)
    refine (quick_toom A A' k k' c c' xs ys w h8 h8' hr hr' (by omega) Hx.out.1 Hx.out.2.1 Hx.out.2.2).mono ?_
    rintro e w1 ⟨v, rfl, hN, hb⟩
    obtain ⟨A1, n1, c1, zs, rfl, hs1, hc1, hv1, hw1⟩ := hN.sl
    have hn1 : n1 ≤ 9223372036854775807 := Nat.le_trans hs1.2.1 hs1.2.2.1
    have H := Lib.hid (And.intro hc1 (And.intro hv1 (And.intro hw1 hb)))
    clear hN hs1 hc1 hv1 hw1 hb
    go_wp2_with (fail)
    refine (fresult_ok w A1 n1 c1 zs w1 H.out.2.2.1 H.out.1 hn1).mono ?_
    rintro e w2 ⟨hz, hb2⟩
    rw [H.out.2.1] at hz
    have HB2 := Lib.hid (H.out.2.2.2.trans (hb2.mono H.out.2.2.2.size))
    clear hb2
    rcases hz with ⟨rfl, h1, h2, h3⟩ | ⟨rfl, h1⟩
    · have H2 := Lib.hid (And.intro h1 h2)
      clear h1 h2 h3
      go_wp2_with (fail)
      go_ret2
      exact ⟨.inl ⟨_, rfl, H2.out.1, H2.out.2⟩, HB2.out⟩
    · have H2 := Lib.hid h1
      clear h1
      go_wp2_with (fail)
      go_ret2
      exact ⟨.inr ⟨rfl, H2.out⟩, HB2.out⟩
set_option maxHeartbeats 1000000 in
theorem FMul_long (A A' : Option Addr) (n n' c c' : Nat) (xs ys : List Nat) (w : World) (hn : n ≤ 4096) (hn' : n' ≤ 4096) (h8 : 80 ≤ n) (h8' : 80 ≤ n') (hr : n < 2 * n') (hr' : n' < 2 * n) (hx : Sc w A n c xs) (hy : Sc w A' n' c' ys) (hT : TabF w) :
    Calls Tryz.prog 13 #[.slice A n c, .slice A' n' c'] w fun e w' => Rs w w' e (V xs * V ys) := by
  have Hx := Lib.hid (And.intro hx (And.intro hy hT))
  have HC := Lib.hid (chkS_two (A := A) (A' := A') (c := c) (c' := c') hn hn')
  clear hx hy hT
  go_enter Tryz.func13, Tryz.ntmps13
  go_wp2_with (fail)
  refine (fcheck_two A A' n n' c c' _ _ w rfl).mono ?_
  rintro e w1 ⟨rfl, hb1⟩
  rw [HC.out]
  have H1 := Lib.hid (And.intro (Hx.out.1.below hb1) (And.intro (Hx.out.2.1.below hb1) (And.intro (Hx.out.2.2.below hb1) hb1)))
  clear hb1
  go_wp2_with (fail)
  refine (product_long A A' n n' c c' xs ys w1 hn hn' h8 h8' hr hr' H1.out.1 H1.out.2.1 H1.out.2.2.1).mono ?_
  rintro e w2 hR
  obtain ⟨⟨v, rfl, h1, h2⟩ | ⟨rfl, h2⟩, hb⟩ := hR.from H1.out.2.2.2
  · have H := Lib.hid (And.intro h1 (And.intro h2 hb))
    clear h1 h2 hb hR
    go_wp2_with (fail)
    go_ret2
    exact ⟨.inl ⟨v, rfl, H.out.1, H.out.2.1⟩, H.out.2.2⟩
  · have H := Lib.hid (And.intro h2 hb)
    clear h2 hb hR
    go_wp2_with (fail)
    go_ret2
    exact ⟨.inr ⟨rfl, H.out.1⟩, H.out.2⟩
end Go.Proofs.YthpgdpkemnhneaaGreatDoor
