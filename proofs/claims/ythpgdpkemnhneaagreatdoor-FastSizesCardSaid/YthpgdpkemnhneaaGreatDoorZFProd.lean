/- The contracts of toom, and of fast.product by karatsuba and by toom. -/
import Derived.Test.YthpgdpkemnhneaaGreatDoorZFKa
import Derived.Test.YthpgdpkemnhneaaGreatDoorZFTo
import Derived.Test.YthpgdpkemnhneaaGreatDoorP2
namespace Go.Proofs.YthpgdpkemnhneaaGreatDoor
open Go.RowKit Go.Shelf
set_option linter.unusedVariables false
set_option linter.unusedSimpArgs false
set_option maxRecDepth 10000
attribute [local go_sem] run_store_func

set_option maxHeartbeats 1000000 in
theorem toom_ok (least : Nat) (hl3 : 3 ≤ least) (hl64 : least ≤ 64) (A A' : Option Addr) (n n' c c' : Nat) (xs ys : List Nat) (w : World) (hx : Sc w A n c xs) (hy : Sc w A' n' c' ys) (hT : TabF w) (hR : Room least n n' (V xs * V ys)) :
    Calls Tryz.prog 39 #[.int .i64 (least : Int), .slice A n c, .slice A' n' c'] w fun e w' => Rv w w' e (V xs * V ys) := by
  have Hx := Lib.hid (And.intro hx (And.intro hy (And.intro hR hT)))
  clear hx hy hR hT
  go_enter Tryz.func39, Tryz.ntmps39
  go_wp2_with (fail)
  obtain ⟨X, hX⟩ : ∃ X, (w.alloc (.cells #[.int .i64 (least : Int)] 79)).alloc (.cells #[.func (.func 73) #[] #[.pointer (some ⟨w.heap.size, 0, none⟩), .pointer (some ⟨w.heap.size + 1, 0, none⟩)]] 45) = X := ⟨_, rfl⟩
  rw [hX]
  have hb : Below w.heap.size w X := by rw [← hX]; exact ((Below.refl _ _).alloc (Nat.le_refl _) _).alloc (by simp) _
  refine (tprod_ok w.heap.size (w.heap.size + 1) least hl3 hl64 (n + n') A A' n n' c c' xs ys X (by omega) (by omega) (Hx.out.1.below hb) (Hx.out.2.1.below hb) ?_ (Hx.out.2.2.2.below hb) Hx.out.2.2.1).mono ?_
  · refine ⟨?_, ?_, ?_, ?_⟩ <;> rw [← hX] <;> (simp; try omega)
  rintro e w1 ⟨v, rfl, h1, h2⟩
  have H := Lib.hid (And.intro h1 (And.intro h2 hb))
  clear h1 h2 hb hX
  go_wp2_with (fail)
  go_ret
  exact ⟨v, rfl, H.out.1.base H.out.2.2.size, H.out.2.2.trans (H.out.2.1.mono H.out.2.2.size)⟩
/-- a product of long numbers is too large -/
theorem prod_big {xs ys : List Nat} {k k' : Nat} (hx : Ws xs) (cx : Cn xs) (lx : xs.length = k) (hy : Ws ys) (cy : Cn ys) (ly : ys.length = k') (h : 4097 < k + k') (hk : 1 ≤ k) (hk' : 1 ≤ k') : Big ≤ V xs * V ys := by
  have h1 : B64 ^ (k - 1) ≤ V xs := by
    rcases Nat.lt_or_ge (V xs) (B64 ^ (k - 1)) with h1 | h1
    · have := (Cn_len hx cx (k - 1)).2 h1
      omega
    · exact h1
  have h2 : B64 ^ (k' - 1) ≤ V ys := by
    rcases Nat.lt_or_ge (V ys) (B64 ^ (k' - 1)) with h1 | h1
    · have := (Cn_len hy cy (k' - 1)).2 h1
      omega
    · exact h1
  refine Nat.le_trans ?_ (Nat.mul_le_mul h1 h2)
  rw [← Nat.pow_add]
  exact Nat.pow_le_pow_right B64_pos (by unfold Most; omega)

set_option maxHeartbeats 2000000 in
theorem product_kara (least : Nat) (hl3 : 3 ≤ least) (hl64 : least ≤ 64) (A A' : Option Addr) (n n' c c' : Nat) (xs ys : List Nat) (w : World) (hn : n ≤ 4096) (hn' : n' ≤ 4096) (hx : Sl w A n c xs) (hy : Sl w A' n' c' ys) (hT : TabF w) :
    Calls Tryz.prog 37 #[.slice A n c, .slice A' n' c', .int .i64 (least : Int), .func (.func 38) #[.int .i64 (least : Int)] #[]] w fun e w' => Rs w w' e (V xs * V ys) := by
  have Hx := Lib.hid (And.intro hx (And.intro hy hT))
  clear hx hy hT
  go_enter Tryz.func37, Tryz.ntmps37
  go_wp2_with (fail)
  refine (fused_ok A n c xs w (by omega) Hx.out.1).mono ?_
  rintro e w1 ⟨k, rfl, hk, hU, rfl⟩
  have HU := Lib.hid (And.intro hU.out (Hx.out.1.tk hk))
  clear hU
  go_wp2_with (fail)
  refine (fused_ok A' n' c' ys w (by omega) Hx.out.2.1).mono ?_
  rintro e w1 ⟨k', rfl, hk', hU, rfl⟩
  have HU' := Lib.hid (And.intro hU.out (Hx.out.2.1.tk hk'))
  clear hU
  obtain ⟨mn, hmn⟩ : ∃ mn, mn = min k k' := ⟨_, rfl⟩
  have hmi : min (k : Int) (k' : Int) = (mn : Int) := by omega
  by_cases hlt : mn < least
  · have hli : (mn : Int) < (least : Int) := by omega
    clear hmn
    go_wp2_with (fail)
    refine (NMul_ok A A' k k' c c' (xs.take k) (ys.take k') w (by omega) (by omega) HU.out.2 HU'.out.2).mono ?_
    rintro e w1 hR
    rw [HU.out.1.1, HU'.out.1.1] at hR
    obtain ⟨⟨v, rfl, h1, h2⟩ | ⟨rfl, h2⟩, hb⟩ := hR
    · have H := Lib.hid (And.intro h1 (And.intro h2 hb))
      clear h1 h2 hb
      go_wp2_with (fail)
      go_ret2
      exact ⟨.inl ⟨v, rfl, H.out.1, H.out.2.1⟩, H.out.2.2⟩
    · have H := Lib.hid (And.intro h2 hb)
      clear h2 hb
      go_wp2_with (fail)
      go_ret2
      exact ⟨.inr ⟨rfl, H.out.1⟩, H.out.2⟩
  · have hli : ¬ (mn : Int) < (least : Int) := by omega
    have hkk : least ≤ k ∧ least ≤ k' := by omega
    clear hmn
    by_cases hbig : 4097 < k + k'
    · have hbi : (4096 : Int) < (k : Int) + (k' : Int) - 1 := by omega
      have HB := Lib.hid (show Big ≤ V xs * V ys by
        rw [← HU.out.1.1, ← HU'.out.1.1]
        exact prod_big HU.out.2.2.2.2.1 HU.out.1.2 HU.out.2.1 HU'.out.2.2.2.2.1 HU'.out.1.2 HU'.out.2.1 hbig (by omega) (by omega))
      go_wp2_with (fail)
      go_ret2
      exact ⟨.inr ⟨rfl, HB.out⟩, Below.refl _ _⟩
    · have hbi : ¬ (4096 : Int) < (k : Int) + (k' : Int) - 1 := by omega
      have hbi2 : (k : Int) + (k' : Int) - 1 ≤ 4096 := by omega
      have hR : Room least k k' (V (xs.take k) * V (ys.take k')) := ⟨⟨by omega, by omega, by omega⟩, fun h => by omega⟩
      have HR := Lib.hid hR
      clear hR
      go_wp2_with (fail)
      refine (karatsuba_ok least hl3 hl64 A A' k k' c c' (xs.take k) (ys.take k') w ⟨HU.out.2, HU.out.1.2⟩ ⟨HU'.out.2, HU'.out.1.2⟩ HR.out).mono ?_
      rintro e w1 ⟨v, rfl, hN, hb⟩
      rw [HU.out.1.1, HU'.out.1.1] at hN
      obtain ⟨A1, n1, c1, zs, rfl, hs1, hc1, hv1, hw1⟩ := hN.sl
      have hn1 : n1 ≤ 9223372036854775807 := Nat.le_trans hs1.2.1 hs1.2.2.1
      have H := Lib.hid (And.intro hc1 (And.intro hv1 (And.intro hw1 hb)))
      clear hN hs1 hc1 hv1 hw1 hb
      go_wp2_with (fail)
      refine (fresult_ok w A1 n1 c1 zs w1 H.out.2.2.1 H.out.1 hn1).mono ?_
      rintro e w2 ⟨hz, hb2⟩
      rw [H.out.2.1] at hz
      have HB2 := Lib.hid (H.out.2.2.2.trans (hb2.mono H.out.2.2.2.size))
      clear hb2
      rcases hz with ⟨rfl, h1, h2, h3⟩ | ⟨rfl, h1⟩
      · have H2 := Lib.hid (And.intro h1 h2)
        clear h1 h2 h3
        go_wp2_with (fail)
        go_ret2
        exact ⟨.inl ⟨_, rfl, H2.out.1, H2.out.2⟩, HB2.out⟩
      · have H2 := Lib.hid h1
        clear h1
        go_wp2_with (fail)
        go_ret2
        exact ⟨.inr ⟨rfl, H2.out⟩, HB2.out⟩

set_option maxHeartbeats 2000000 in
theorem product_toom (least : Nat) (hl3 : 3 ≤ least) (hl64 : least ≤ 64) (A A' : Option Addr) (n n' c c' : Nat) (xs ys : List Nat) (w : World) (hn : n ≤ 4096) (hn' : n' ≤ 4096) (hx : Sl w A n c xs) (hy : Sl w A' n' c' ys) (hT : TabF w) :
    Calls Tryz.prog 37 #[.slice A n c, .slice A' n' c', .int .i64 (least : Int), .func (.func 39) #[.int .i64 (least : Int)] #[]] w fun e w' => Rs w w' e (V xs * V ys) := by
  have Hx := Lib.hid (And.intro hx (And.intro hy hT))
  clear hx hy hT
  go_enter Tryz.func37, Tryz.ntmps37
  go_wp2_with (fail)
  refine (fused_ok A n c xs w (by omega) Hx.out.1).mono ?_
  rintro e w1 ⟨k, rfl, hk, hU, rfl⟩
  have HU := Lib.hid (And.intro hU.out (Hx.out.1.tk hk))
  clear hU
  go_wp2_with (fail)
  refine (fused_ok A' n' c' ys w (by omega) Hx.out.2.1).mono ?_
  rintro e w1 ⟨k', rfl, hk', hU, rfl⟩
  have HU' := Lib.hid (And.intro hU.out (Hx.out.2.1.tk hk'))
  clear hU
  obtain ⟨mn, hmn⟩ : ∃ mn, mn = min k k' := ⟨_, rfl⟩
  have hmi : min (k : Int) (k' : Int) = (mn : Int) := by omega
  by_cases hlt : mn < least
  · have hli : (mn : Int) < (least : Int) := by omega
    clear hmn
    go_wp2_with (fail)
    refine (NMul_ok A A' k k' c c' (xs.take k) (ys.take k') w (by omega) (by omega) HU.out.2 HU'.out.2).mono ?_
    rintro e w1 hR
    rw [HU.out.1.1, HU'.out.1.1] at hR
    obtain ⟨⟨v, rfl, h1, h2⟩ | ⟨rfl, h2⟩, hb⟩ := hR
    · have H := Lib.hid (And.intro h1 (And.intro h2 hb))
      clear h1 h2 hb
      go_wp2_with (fail)
      go_ret2
      exact ⟨.inl ⟨v, rfl, H.out.1, H.out.2.1⟩, H.out.2.2⟩
    · have H := Lib.hid (And.intro h2 hb)
      clear h2 hb
      go_wp2_with (fail)
      go_ret2
      exact ⟨.inr ⟨rfl, H.out.1⟩, H.out.2⟩
  · have hli : ¬ (mn : Int) < (least : Int) := by omega
    have hkk : least ≤ k ∧ least ≤ k' := by omega
    clear hmn
    by_cases hbig : 4097 < k + k'
    · have hbi : (4096 : Int) < (k : Int) + (k' : Int) - 1 := by omega
      have HB := Lib.hid (show Big ≤ V xs * V ys by
        rw [← HU.out.1.1, ← HU'.out.1.1]
        exact prod_big HU.out.2.2.2.2.1 HU.out.1.2 HU.out.2.1 HU'.out.2.2.2.2.1 HU'.out.1.2 HU'.out.2.1 hbig (by omega) (by omega))
      go_wp2_with (fail)
      go_ret2
      exact ⟨.inr ⟨rfl, HB.out⟩, Below.refl _ _⟩
    · have hbi : ¬ (4096 : Int) < (k : Int) + (k' : Int) - 1 := by omega
      have hbi2 : (k : Int) + (k' : Int) - 1 ≤ 4096 := by omega
      have hR : Room least k k' (V (xs.take k) * V (ys.take k')) := ⟨⟨by omega, by omega, by omega⟩, fun h => by omega⟩
      have HR := Lib.hid hR
      clear hR
      go_wp2_with (fail)
      refine (toom_ok least hl3 hl64 A A' k k' c c' (xs.take k) (ys.take k') w ⟨HU.out.2, HU.out.1.2⟩ ⟨HU'.out.2, HU'.out.1.2⟩ Hx.out.2.2 HR.out).mono ?_
      rintro e w1 ⟨v, rfl, hN, hb⟩
      rw [HU.out.1.1, HU'.out.1.1] at hN
      obtain ⟨A1, n1, c1, zs, rfl, hs1, hc1, hv1, hw1⟩ := hN.sl
      have hn1 : n1 ≤ 9223372036854775807 := Nat.le_trans hs1.2.1 hs1.2.2.1
      have H := Lib.hid (And.intro hc1 (And.intro hv1 (And.intro hw1 hb)))
      clear hN hs1 hc1 hv1 hw1 hb
      go_wp2_with (fail)
      refine (fresult_ok w A1 n1 c1 zs w1 H.out.2.2.1 H.out.1 hn1).mono ?_
      rintro e w2 ⟨hz, hb2⟩
      rw [H.out.2.1] at hz
      have HB2 := Lib.hid (H.out.2.2.2.trans (hb2.mono H.out.2.2.2.size))
      clear hb2
      rcases hz with ⟨rfl, h1, h2, h3⟩ | ⟨rfl, h1⟩
      · have H2 := Lib.hid (And.intro h1 h2)
        clear h1 h2 h3
        go_wp2_with (fail)
        go_ret2
        exact ⟨.inl ⟨_, rfl, H2.out.1, H2.out.2⟩, HB2.out⟩
      · have H2 := Lib.hid h1
        clear h1
        go_wp2_with (fail)
        go_ret2
        exact ⟨.inr ⟨rfl, H2.out⟩, HB2.out⟩
end Go.Proofs.YthpgdpkemnhneaaGreatDoor
