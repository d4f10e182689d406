/- The contracts of reckonerref01.Add and reckonerref01.Sub. -/
import Derived.Test.YtnhoodpglbjhhaaCut
import Derived.Test.YtnhoodpglbjhhaaMinus
import Derived.Test.YtnhoodpglbjhhaaCases
namespace Go.Proofs.Ytnhoodpglbjhhaa
open Go.RowKit
set_option linter.unusedVariables false

theorem VD_one (x : Nat) : VD [x] = x := by simp [VD]
theorem Dg_one {x : Nat} (h : x < H32) : Dg [x] := fun y hy => by rw [List.mem_singleton] at hy; subst hy; exact h
theorem add_room {n x y c : Nat} (hx : x < B64 ^ n) (hy : y < B64 ^ n) (hc : c < H32) : x + y + c < B64 ^ (n + 1) := by
  rw [Nat.pow_succ]
  have hp : 0 < B64 ^ n := Nat.pow_pos (by decide)
  have h1 : B64 ^ n * 4294967298 ≤ B64 ^ n * B64 := Nat.mul_le_mul_left _ (by decide)
  have hH : H32 = 4294967296 := rfl
  omega

set_option maxHeartbeats 1000000 in
theorem RAdd_ok (A A' : Option Addr) (n c c' : Nat) (xs ys : List Nat) (carry : Nat) (w : World) (hn : n ≤ 4096) (hx : Sl w A n c xs) (hy : Sl w A' n c' ys) (hc : carry < H32) :
    Calls Try.prog 14 #[.slice A n c, .slice A' n c', .int .u64 carry] w fun e w' => ∃ v zs, ∃ d : Nat, e = .returned (.tuple #[v, .int .u64 d]) ∧ Nw w w' v n zs ∧ V zs + d * B64 ^ n = V xs + V ys + carry ∧ Below w.heap.size w w' := by
  have Hx := Lib.hid (And.intro hx hy)
  have hr := add_room (c := carry) (by have := V_lt xs hx.2.2.2.1; rw [hx.1] at this; exact this) (by have := V_lt ys hy.2.2.2.1; rw [hy.1] at this; exact this) hc
  have HR := Lib.hid hr
  clear hx hy hr
  go_enter Try.func14, Try.ntmps14
  go_wp2_with (fail)
  refine (Digits_ok _ _ _ xs _ (by omega) Hx.out.1).mono ?_
  rintro e w1 ⟨v1, ds1, rfl, hn1, hd1, hv1, hb1⟩
  obtain ⟨A1, c1, rfl, hs1⟩ := hn1.sl
  have H1 := Lib.hid (And.intro hs1 (And.intro hd1 (And.intro hv1 hb1)))
  clear hs1 hd1 hv1 hb1 hn1
  go_wp2_with (fail)
  refine (Digits_ok _ _ _ ys _ (by omega) (Hx.out.2.below H1.out.2.2.2)).mono ?_
  rintro e w2 ⟨v2, ds2, rfl, hn2, hd2, hv2, hb2⟩
  obtain ⟨A2, c2, rfl, hs2⟩ := hn2.sl
  have H2 := Lib.hid (And.intro (H1.out.1.below hb2) (And.intro hs2 (And.intro hd2 (And.intro hv2 (H1.out.2.2.2.trans (hb2.mono H1.out.2.2.2.size))))))
  clear hs2 hd2 hv2 hb2 hn2
  go_wp2_with (fail)
  refine (Plus_ok _ _ _ _ _ _ ds1 ds2 _ (by omega) (by omega) H2.out.1 H2.out.2.1 H1.out.2.1 H2.out.2.2.1).mono ?_
  rintro e w3 ⟨v3, ds3, rfl, hn3, hd3, hv3, hb3⟩
  rw [show max (2 * n) (2 * n) + 1 = 2 * n + 1 by omega] at hn3
  obtain ⟨A3, c3, rfl, hs3⟩ := hn3.sl
  have H3 := Lib.hid (And.intro (hs3.below (W1_below w3 carry)) (And.intro hd3 (And.intro hv3 (H2.out.2.2.2.2.trans (hb3.mono H2.out.2.2.2.2.size)))))
  have hso := Lib.hid (Sl_one w3 carry (Nat.lt_trans hc (by decide)))
  clear hs3 hd3 hv3 hb3 hn3
  go_wp2_with (fail)
  refine (Plus_ok _ _ _ _ _ _ ds3 [carry] _ (by omega) (by omega) H3.out.1 hso.out H3.out.2.1 (Dg_one hc)).mono ?_
  rintro e w4 ⟨v4, ds4, rfl, hn4, hd4, hv4, hb4⟩
  rw [show max (2 * n + 1) 1 + 1 = 2 * n + 2 by omega] at hn4
  obtain ⟨A4, c4, rfl, hs4⟩ := hn4.sl
  have hvv : VD ds4 = V xs + V ys + carry := by rw [hv4, H3.out.2.2.1, H1.out.2.2.1, H2.out.2.2.2.1, VD_one]
  have H4 := Lib.hid (And.intro hs4 (And.intro hd4 (And.intro hvv (belowC H3.out.2.2.2 hb4))))
  clear hs4 hd4 hv4 hb4 hn4 hvv
  go_wp2_with (fail)
  refine (Cut_ok _ _ _ n ds4 _ (by omega) (by omega) H4.out.1 H4.out.2.1 (by rw [H4.out.2.2.1]; exact HR.out)).mono ?_
  rintro e w5 ⟨v5, zs, d, rfl, hn5, hd5, hv5, hb5⟩
  have H5 := Lib.hid (And.intro hn5 (And.intro hv5 hb5))
  clear hn5 hv5 hb5 hd5
  go_wp2_with (fail)
  go_ret2
  obtain ⟨h1, h2, h3⟩ := H5.out
  have h4 := H4.out.2.2.2
  rw [H4.out.2.2.1] at h2
  exact ⟨v5, zs, d, rfl, ⟨h1.1, h1.2.1, own_base h1.2.2 h4.size⟩, h2, h4.trans (h3.mono h4.size)⟩
end Go.Proofs.Ytnhoodpglbjhhaa
