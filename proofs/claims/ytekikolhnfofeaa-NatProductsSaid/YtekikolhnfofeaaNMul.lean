/- The contract of nat.Mul. -/
import Derived.Test.YtekikolhnfofeaaPW
import Derived.Test.YtekikolhnfofeaaRNat
namespace Go.Proofs.Ytekikolhnfofeaa
open Go.RowKit Go.Shelf
set_option linter.unusedVariables false
set_option maxRecDepth 10000

theorem Big_pos : 0 < Big := Nat.pow_pos B64_pos
/-- numbers with so many words have a product that is too large -/
theorem mul_big {xs ys : List Nat} {n m : Nat} (hx : Cn xs) (hy : Cn ys) (hn : xs.length = n) (hm : ys.length = m) (h0 : 0 < n) (h1 : 0 < m) (h : 4097 < n + m) : Big ≤ V xs * V ys := by
  obtain ⟨a, rfl⟩ : ∃ a, n = a + 1 := ⟨n - 1, by omega⟩
  obtain ⟨b, rfl⟩ : ∃ b, m = b + 1 := ⟨m - 1, by omega⟩
  have h2 := Nat.mul_le_mul (V_ge hx hn) (V_ge hy hm)
  rw [← Nat.pow_add] at h2
  have hM : Most = 4096 := rfl
  exact Nat.le_trans (Nat.pow_le_pow_right B64_pos (show Most ≤ a + b by rw [hM]; omega)) h2
theorem mul_words {xs ys : List Nat} (hx : Ws xs) (hy : Ws ys) : V ((List.range (xs.length + ys.length)).map (wrd (fun k => pc xs ys k xs.length))) = V xs * V ys :=
  V_product _ _ _ (Ps_product xs ys) (by rw [Nat.pow_add]; exact Nat.mul_lt_mul'' (V_lt xs hx) (V_lt ys hy))
theorem Cap_new {w w1 : World} {A : Option Addr} {n c : Nat} {xs : List Nat} {p B0 : Nat} (hx : Sl w A n c xs) (hd : Wd w1 p (.slice A n c)) (hb : Below w.heap.size w w1) (hB : w.heap.size ≤ B0) : Cap w1 B0 p A n c xs :=
  ⟨hd, hx.1, hx.2.2.2.1, (hx.2.2.2.2.below hb).more hB⟩

set_option maxHeartbeats 2000000 in
theorem NMul_ok (A A' : Option Addr) (n n' c c' : Nat) (xs ys : List Nat) (w : World) (hn : n ≤ 4096) (hn' : n' ≤ 4096) (hx : Sl w A n c xs) (hy : Sl w A' n' c' ys) :
    Calls Try.prog 22 #[.slice A n c, .slice A' n' c'] w fun e w' => Rs w w' e (V xs * V ys) := by
  have Hx := Lib.hid (And.intro hx hy)
  have Hk := Lib.hid (chkS_two (A := A) (A' := A') (c := c) (c' := c') hn hn')
  clear hx hy
  go_enter Try.func22, Try.ntmps22
  go_wp2_with (fail)
  refine (checkSizes_two A A' _ _ c c' _ _ w rfl).mono ?_
  rintro e w1 ⟨rfl, hb1⟩
  rw [Hk.out]
  have H1 := Lib.hid (And.intro (Hx.out.1.below hb1) (And.intro (Hx.out.2.below hb1) hb1))
  clear hb1
  go_wp2_with (fail)
  refine (used_ok A n c xs w1 (by omega) H1.out.1).mono ?_
  rintro e w2 ⟨k, rfl, hk, hH, rfl⟩
  go_wp2_with (fail)
  refine (used_ok A' n' c' ys w1 (by omega) H1.out.2.1).mono ?_
  rintro e w2 ⟨k', rfl, hk', hH', rfl⟩
  have Hs := Lib.hid (And.intro (H1.out.1.tk hk) (H1.out.2.1.tk hk'))
  rcases Nat.eq_zero_or_pos k with rfl | hk0
  · go_wp2_with (fail)
    go_ret2
    have hv := hH.out.1
    rw [List.take_zero] at hv
    refine ⟨.inl ⟨_, rfl, ?_, ?_⟩, H1.out.2.2⟩
    · rw [← hv]; simpa [V] using Nt.nil w w1
    · rw [← hv]; simpa [V] using Big_pos
  · have e0 : ((k : Int) == 0) = false := by simp; omega
    rcases Nat.eq_zero_or_pos k' with rfl | hk0'
    · go_wp2_with (fail)
      go_ret2
      have hv := hH'.out.1
      rw [List.take_zero] at hv
      refine ⟨.inl ⟨_, rfl, ?_, ?_⟩, H1.out.2.2⟩
      · rw [← hv]; simpa [V] using Nt.nil w w1
      · rw [← hv]; simpa [V] using Big_pos
    · have e1 : ((k' : Int) == 0) = false := by simp; omega
      obtain ⟨N, hN, hN2⟩ : ∃ N : Nat, (k : Int) + (k' : Int) = (N : Int) ∧ N = k + k' := ⟨k + k', by omega, rfl⟩
      have HN := Lib.hid hN2
      have hN3 : N ≤ 8192 := by omega
      clear hN2
      go_wp2_with (fail)
      refine (productWords_any A A' k k' c c' w1).mono ?_
      rintro e w2 ⟨rfl, hw2⟩
      have hb2 : Below w1.heap.size w1 w2 := by rw [← hw2]; exact ((Below.refl _ _).alloc (Nat.le_refl _) _).alloc (by simp) _
      have hsz : w2.heap.size = w1.heap.size + 2 := by rw [← hw2]; simp
      have hd1 : Wd w2 w1.heap.size (.slice A k c) := by rw [← hw2]; exact (Wd.new w1 _ _).alloc _
      have hd2 : Wd w2 (w1.heap.size + 1) (.slice A' k' c') := by rw [← hw2]; have := Wd.new (w1.alloc (.cells #[.slice A k c] 23)) (.slice A' k' c') 23; rw [World.size_alloc] at this; exact this
      have HB := Lib.hid (And.intro hb2 (And.intro hsz (And.intro hd1 hd2)))
      clear hb2 hsz hd1 hd2 hw2
      have hR : ∀ W, Below w2.heap.size w2 W → RPW w2.heap.size w1.heap.size (w1.heap.size + 1) A A' k k' c c' (xs.take k) (ys.take k') W := fun W hW =>
        ⟨Cap_new Hs.out.1 (HB.out.2.2.1.below hW (by have := HB.out.2.1; omega)) (HB.out.1.trans (hW.mono HB.out.1.size)) HB.out.1.size, Cap_new Hs.out.2 (HB.out.2.2.2.below hW (by have := HB.out.2.1; omega)) (HB.out.1.trans (hW.mono HB.out.1.size)) HB.out.1.size, hW.size, by have := HB.out.2.1; omega, by have := HB.out.2.1; omega⟩
      have HG := Lib.hid (gathered_ok 101 #[.pointer (some ⟨w1.heap.size, 0, none⟩), .pointer (some ⟨w1.heap.size + 1, 0, none⟩)] (wrd (fun k_1 => pc (xs.take k) (ys.take k') k_1 (xs.take k).length)) N _ w2 (by omega) (fun k => wrd_lt _ k) (fun args w => run_callFunc_enter Try.func101 (by kernel_rfl) (by kernel_rfl) args w)
        (by rw [HN.out]; exact prod_rounds w2.heap.size w1.heap.size (w1.heap.size + 1) A A' k k' c c' (xs.take k) (ys.take k') (by omega) (by omega) Hs.out.1.1) hR)
      clear hR
      go_wp2_with (fail)
      refine HG.out.mono ?_
      rintro e w3 hres
      have hwd : V ((List.range N).map (wrd (fun k_1 => pc (xs.take k) (ys.take k') k_1 (xs.take k).length))) = V xs * V ys := by
        have := mul_words Hs.out.1.2.2.2.1 Hs.out.2.2.2.2.1
        rw [Hs.out.1.1, Hs.out.2.1, ← HN.out, hH.out.1, hH'.out.1] at this
        rw [Hs.out.1.1]
        exact this
      rw [hwd] at hres
      have hb12 := H1.out.2.2.trans (HB.out.1.mono H1.out.2.2.size)
      rcases hres with ⟨hbig, rfl, hb3⟩ | ⟨_, hR3⟩
      · have HF := Lib.hid (And.intro (show Big ≤ V xs * V ys by have := mul_big hH.out.2 hH'.out.2 Hs.out.1.1 Hs.out.2.1 hk0 hk0' (by have := HN.out; omega); rw [hH.out.1, hH'.out.1] at this; exact this) (hb12.trans (hb3.mono hb12.size)))
        clear hb3 hb12 hwd hbig
        go_wp2_with (fail)
        go_ret2
        exact ⟨.inr ⟨rfl, HF.out.1⟩, HF.out.2⟩
      · obtain ⟨hR4, hb4⟩ := hR3.from hb12
        clear hR3 hwd hb12
        rcases hR4 with ⟨v, rfl, h5, h6⟩ | ⟨rfl, h5⟩
        · have HF := Lib.hid (And.intro h5 (And.intro h6 hb4))
          clear h5 h6 hb4
          go_wp2_with (fail)
          go_ret2
          exact ⟨.inl ⟨v, rfl, HF.out.1, HF.out.2.1⟩, HF.out.2.2⟩
        · have HF := Lib.hid (And.intro h5 hb4)
          clear h5 hb4
          go_wp2_with (fail)
          go_ret2
          exact ⟨.inr ⟨rfl, HF.out.1⟩, HF.out.2⟩
end Go.Proofs.Ytekikolhnfofeaa
