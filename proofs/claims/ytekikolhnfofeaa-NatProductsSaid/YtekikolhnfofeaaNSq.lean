/- The contract of nat.Square. -/
import Derived.Test.YtekikolhnfofeaaSW
import Derived.Test.YtekikolhnfofeaaNMul
namespace Go.Proofs.Ytekikolhnfofeaa
open Go.RowKit Go.Shelf
set_option linter.unusedVariables false
set_option maxRecDepth 10000

set_option maxHeartbeats 400000 in
theorem squareWords_any (A : Option Addr) (n c : Nat) (w : World) :
    Calls Try.prog 71 #[.slice A n c] w fun e w' => e = .returned (.func (.func 105) #[] #[.pointer (some ⟨w.heap.size, 0, none⟩)]) ∧ w.alloc (.cells #[.slice A n c] 23) = w' := by
  go_enter Try.func71, Try.ntmps71
  go_wp2
  go_ret
  exact ⟨rfl, rfl⟩

set_option maxHeartbeats 2000000 in
theorem NSquare_ok (A : Option Addr) (n c : Nat) (xs : List Nat) (w : World) (hn : n ≤ 4096) (hx : Sl w A n c xs) :
    Calls Try.prog 23 #[.slice A n c] w fun e w' => Rs w w' e (V xs * V xs) := by
  have Hx := Lib.hid hx
  have Hk := Lib.hid (chkS_one (A := A) (c := c) hn)
  clear hx
  go_enter Try.func23, Try.ntmps23
  go_wp2_with (fail)
  refine (checkSizes_one A _ c _ _ w rfl).mono ?_
  rintro e w1 ⟨rfl, hb1⟩
  rw [Hk.out]
  have H1 := Lib.hid (And.intro (Hx.out.below hb1) hb1)
  clear hb1
  go_wp2_with (fail)
  refine (used_ok A n c xs w1 (by omega) H1.out.1).mono ?_
  rintro e w2 ⟨k, rfl, hk, hH, rfl⟩
  have Hs := Lib.hid (H1.out.1.tk hk)
  obtain ⟨N, hN, hN2⟩ : ∃ N : Nat, (2 : Int) * (k : Int) = (N : Int) ∧ N = 2 * k := ⟨2 * k, by omega, rfl⟩
  have HN := Lib.hid hN2
  have hN3 : N ≤ 8192 := by omega
  clear hN2
  go_wp2_with (fail)
  refine (squareWords_any A k c w1).mono ?_
  rintro e w2 ⟨rfl, hw2⟩
  have hb2 : Below w1.heap.size w1 w2 := by rw [← hw2]; exact (Below.refl _ _).alloc (Nat.le_refl _) _
  have hsz : w2.heap.size = w1.heap.size + 1 := by rw [← hw2]; simp
  have hd1 : Wd w2 w1.heap.size (.slice A k c) := by rw [← hw2]; exact Wd.new w1 _ _
  have HB := Lib.hid (And.intro hb2 (And.intro hsz hd1))
  clear hb2 hsz hd1 hw2
  have hR : ∀ W, Below w2.heap.size w2 W → RSW w2.heap.size w1.heap.size A k c (xs.take k) W := fun W hW =>
    ⟨Cap_new Hs.out (HB.out.2.2.below hW (by have := HB.out.2.1; omega)) (HB.out.1.trans (hW.mono HB.out.1.size)) HB.out.1.size, hW.size, by have := HB.out.2.1; omega⟩
  have HG := Lib.hid (gathered_ok 105 #[.pointer (some ⟨w1.heap.size, 0, none⟩)] (wrd (fun k_1 => pc (xs.take k) (xs.take k) k_1 (xs.take k).length)) N _ w2 (by omega) (fun k => wrd_lt _ k) (fun args w => run_callFunc_enter Try.func105 (by kernel_rfl) (by kernel_rfl) args w)
    (by rw [HN.out]; exact square_rounds w2.heap.size w1.heap.size A k c (xs.take k) (by omega) Hs.out.1) hR)
  clear hR
  go_wp2_with (fail)
  refine HG.out.mono ?_
  rintro e w3 hres
  have hwd : V ((List.range N).map (wrd (fun k_1 => pc (xs.take k) (xs.take k) k_1 (xs.take k).length))) = V xs * V xs := by
    have := mul_words Hs.out.2.2.2.1 Hs.out.2.2.2.1
    rw [Hs.out.1, ← Nat.two_mul, ← HN.out, hH.out.1] at this
    rw [Hs.out.1]
    exact this
  rw [hwd] at hres
  have hb12 := H1.out.2.trans (HB.out.1.mono H1.out.2.size)
  rcases hres with ⟨hbig, rfl, hb3⟩ | ⟨_, hR3⟩
  · have HF := Lib.hid (And.intro (show Big ≤ V xs * V xs by have := mul_big hH.out.2 hH.out.2 Hs.out.1 Hs.out.1 (by have := HN.out; omega) (by have := HN.out; omega) (by have := HN.out; omega); rw [hH.out.1] at this; exact this) (hb12.trans (hb3.mono hb12.size)))
    clear hb3 hb12 hwd hbig
    go_wp2_with (fail)
    go_ret2
    exact ⟨.inr ⟨rfl, HF.out.1⟩, HF.out.2⟩
  · obtain ⟨hR4, hb4⟩ := hR3.from hb12
    clear hR3 hwd hb12
    rcases hR4 with ⟨v, rfl, h5, h6⟩ | ⟨rfl, h5⟩
    · have HF := Lib.hid (And.intro h5 (And.intro h6 hb4))
      clear h5 h6 hb4
      go_wp2_with (fail)
      go_ret2
      exact ⟨.inl ⟨v, rfl, HF.out.1, HF.out.2.1⟩, HF.out.2.2⟩
    · have HF := Lib.hid (And.intro h5 hb4)
      clear h5 hb4
      go_wp2_with (fail)
      go_ret2
      exact ⟨.inr ⟨rfl, HF.out.1⟩, HF.out.2⟩
end Go.Proofs.Ytekikolhnfofeaa
