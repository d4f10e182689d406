/- The contracts of reckonerref02.Add, Sub. -/
import Derived.Test.YtekikolhnfofeaaRNat
namespace Go.Proofs.Ytekikolhnfofeaa
open Go.RowKit
set_option linter.unusedVariables false
set_option maxRecDepth 10000

set_option maxHeartbeats 400000 in
theorem RNAdd_ok (A A' : Option Addr) (n n' c c' : Nat) (xs ys : List Nat) (w : World) (hn : n ≤ 4096) (hn' : n' ≤ 4096) (hx : Sl w A n c xs) (hy : Sl w A' n' c' ys) :
    Calls Try.prog 18 #[.slice A n c, .slice A' n' c'] w fun e w' => Rv w w' e (V xs + V ys) := by
  have Hx := Lib.hid (And.intro hx hy)
  clear hx hy
  go_enter Try.func18, Try.ntmps18
  go_wp2_with (fail)
  refine (Digits_ok A n c xs w hn Hx.out.1).mono ?_
  rintro e w1 ⟨v1, ds1, rfl, hn1, hd1, hv1, hb1⟩
  obtain ⟨A1, c1, rfl, hs1⟩ := hn1.sl
  have H1 := Lib.hid (And.intro hs1 (And.intro hd1 (And.intro hv1 hb1)))
  clear hs1 hd1 hv1 hb1 hn1
  go_wp2_with (fail)
  refine (Digits_ok A' n' c' ys w1 hn' (Hx.out.2.below H1.out.2.2.2)).mono ?_
  rintro e w2 ⟨v2, ds2, rfl, hn2, hd2, hv2, hb2⟩
  obtain ⟨A2, c2, rfl, hs2⟩ := hn2.sl
  have H2 := Lib.hid (And.intro (H1.out.1.below hb2) (And.intro hs2 (And.intro hd2 (And.intro hv2 (H1.out.2.2.2.trans (hb2.mono H1.out.2.2.2.size))))))
  clear hs2 hd2 hv2 hb2 hn2
  go_wp2_with (fail)
  refine (Plus_ok A1 A2 (2 * n) (2 * n') c1 c2 ds1 ds2 w2 (by omega) (by omega) H2.out.1 H2.out.2.1 H1.out.2.1 H2.out.2.2.1).mono ?_
  rintro e w3 ⟨v3, ds3, rfl, hn3, hd3, hv3, hb3⟩
  obtain ⟨N3, hN3, hN3b⟩ : ∃ N3, max (2 * n) (2 * n') + 1 = N3 ∧ N3 ≤ 18000 := ⟨_, rfl, by omega⟩
  rw [hN3] at hn3
  clear hN3
  obtain ⟨A3, c3, rfl, hs3⟩ := hn3.sl
  have H3 := Lib.hid (And.intro hs3 (And.intro hd3 (And.intro (show VD ds3 = V xs + V ys by rw [hv3, H1.out.2.2.1, H2.out.2.2.2.1]) (H2.out.2.2.2.2.trans (hb3.mono H2.out.2.2.2.2.size)))))
  clear hs3 hd3 hv3 hb3 hn3
  go_wp2_with (fail)
  refine (nat_ok A3 N3 c3 ds3 w3 hN3b H3.out.1 H3.out.2.1).mono ?_
  rintro e w4 hR
  obtain ⟨v4, rfl, h4, hb4⟩ := hR.from H3.out.2.2.2
  rw [H3.out.2.2.1] at h4
  have H4 := Lib.hid (And.intro h4 hb4)
  clear h4 hb4 hR
  go_wp2_with (fail)
  go_ret
  exact ⟨v4, rfl, H4.out.1, H4.out.2⟩

theorem minus_val {o y x bo P z : Nat} (h : o + y = x + bo * P) (ho : o < P) (hy : y ≤ x) (hz : z = x - y) : o = z := by
  rcases Nat.eq_zero_or_pos bo with h1 | h1
  · subst h1; omega
  · have := Nat.le_mul_of_pos_left P h1
    omega
theorem Nt.len {w w' : World} {A : Option Addr} {n c x k : Nat} {zs : List Nat} (hs : Sl w' A n c zs) (hc : Cn zs) (hv : V zs = x) (h : x < B64 ^ k) : n ≤ k := by
  rw [← hs.1]
  exact (Cn_len hs.2.2.2.1 hc k).2 (by rw [hv]; exact h)
theorem Sl.lt {w : World} {A : Option Addr} {n c : Nat} {xs : List Nat} (hs : Sl w A n c xs) : V xs < B64 ^ n := by
  have := V_lt xs hs.2.2.2.1
  rw [hs.1] at this
  exact this

set_option maxHeartbeats 400000 in
theorem RNSub_ok (A A' : Option Addr) (n n' c c' : Nat) (xs ys : List Nat) (w : World) (hn : n ≤ 4096) (hn' : n' ≤ 4096) (hx : Sl w A n c xs) (hy : Sl w A' n' c' ys) (hle : V ys ≤ V xs) :
    Calls Try.prog 21 #[.slice A n c, .slice A' n' c'] w fun e w' => Rv w w' e (V xs - V ys) := by
  have Hx := Lib.hid (And.intro hx (And.intro hy hle))
  clear hx hy hle
  go_enter Try.func21, Try.ntmps21
  go_wp2_with (fail)
  refine (Digits_ok A n c xs w hn Hx.out.1).mono ?_
  rintro e w1 ⟨v1, ds1, rfl, hn1, hd1, hv1, hb1⟩
  obtain ⟨A1, c1, rfl, hs1⟩ := hn1.sl
  have H1 := Lib.hid (And.intro hs1 (And.intro hd1 (And.intro hv1 hb1)))
  clear hs1 hd1 hv1 hb1 hn1
  go_wp2_with (fail)
  refine (RTrim_ok A' n' c' ys w1 hn' (Hx.out.2.1.below H1.out.2.2.2)).mono ?_
  rintro e w2 ⟨v, rfl, hN, hb2⟩
  obtain ⟨A2, k, c2, zs, rfl, hs, hcz, hvz, _⟩ := hN.sl
  have hkn : k ≤ n := Nt.len (w := w) hs hcz hvz (Nat.lt_of_le_of_lt Hx.out.2.2 Hx.out.1.lt)
  have hkM : k ≤ 4096 := by omega
  have H2 := Lib.hid (And.intro (H1.out.1.below hb2) (And.intro hs (And.intro hvz (H1.out.2.2.2.trans (hb2.mono H1.out.2.2.2.size)))))
  clear hN hs hcz hvz hb2
  go_wp2_with (fail)
  refine (Digits_ok A2 k c2 zs w2 hkM H2.out.2.1).mono ?_
  rintro e w3 ⟨v3, ds3, rfl, hn3, hd3, hv3, hb3⟩
  obtain ⟨A3, c3, rfl, hs3⟩ := hn3.sl
  have H3 := Lib.hid (And.intro (H2.out.1.below hb3) (And.intro hs3 (And.intro hd3 (And.intro (show VD ds3 = V ys by rw [hv3, H2.out.2.2.1]) (H2.out.2.2.2.trans (hb3.mono H2.out.2.2.2.size))))))
  clear hs3 hd3 hv3 hb3 hn3
  go_wp2_with (fail)
  refine (Minus_ok A1 A3 (2 * n) (2 * k) c1 c3 ds1 ds3 w3 (by omega) (by omega) H3.out.1 H3.out.2.1 H1.out.2.1 H3.out.2.2.1).mono ?_
  rintro e w4 ⟨v4, ds4, bo, rfl, hbo, hn4, hd4, hv4, hb4⟩
  obtain ⟨A4, c4, rfl, hs4⟩ := hn4.sl
  have hval : VD ds4 = V xs - V ys := by
    rw [List.take_of_length_le (by rw [H3.out.2.1.1]; omega), H3.out.2.2.2.1, H1.out.2.2.1] at hv4
    have h5 := VD_lt ds4 hd4
    rw [hn4.1] at h5
    exact minus_val hv4 h5 Hx.out.2.2 rfl
  have H4 := Lib.hid (And.intro hs4 (And.intro hd4 (And.intro hval (H3.out.2.2.2.2.trans (hb4.mono H3.out.2.2.2.2.size)))))
  clear hs4 hd4 hv4 hb4 hn4 hval hbo
  go_wp2_with (fail)
  refine (nat_ok A4 (2 * n) c4 ds4 w4 (by omega) H4.out.1 H4.out.2.1).mono ?_
  rintro e w5 hR
  obtain ⟨v5, rfl, h5, hb5⟩ := hR.from H4.out.2.2.2
  rw [H4.out.2.2.1] at h5
  have H5 := Lib.hid (And.intro h5 hb5)
  clear h5 hb5 hR
  go_wp2_with (fail)
  go_ret
  exact ⟨v5, rfl, H5.out.1, H5.out.2⟩
end Go.Proofs.Ytekikolhnfofeaa
