/- The contracts of reckonerref02.nat, Trim, Canonical, Is, FromWord, Mul, Add, Sub. -/
import Derived.Test.YtekikolhnfofeaaUsed
import Derived.Test.YtekikolhnfofeaaShort
import Derived.Test.YtekikolhnfofeaaCut
import Derived.Test.YtekikolhnfofeaaPlus
import Derived.Test.YtekikolhnfofeaaMinus
import Derived.Test.YtekikolhnfofeaaRWord
import Derived.Test.YtekikolhnfofeaaSameR
namespace Go.Proofs.Ytekikolhnfofeaa
open Go.RowKit
set_option linter.unusedVariables false
set_option maxRecDepth 10000

/-- a call that returns the number x -/
def Rv (w w' : World) (e : Ending) (x : Nat) : Prop := ∃ v, e = .returned v ∧ Nt w w' v x ∧ Below w.heap.size w w'
theorem Rv.from {w w0 w' : World} {e : Ending} {x : Nat} (h : Rv w w' e x) (hb : Below w0.heap.size w0 w) : Rv w0 w' e x := by
  obtain ⟨v, h1, h2, h3⟩ := h
  exact ⟨v, h1, h2.base hb.size, hb.trans (h3.mono hb.size)⟩

theorem nat_room {ds : List Nat} {k N : Nat} (hd : Dg ds) (hN : N = (k + 1) / 2) : VD (ds.take k) < B64 ^ N := by
  have h1 := VD_lt _ (Dg_take hd k)
  have h2 : (ds.take k).length ≤ 2 * N := by rw [List.length_take]; omega
  have h3 : H32 ^ (ds.take k).length ≤ H32 ^ (2 * N) := Nat.pow_le_pow_right H32_pos h2
  rw [pow_H] at h3
  omega
theorem nat_canon {ds zs : List Nat} {k N : Nat} (hN : N = (k + 1) / 2) (hd : ∀ m, k = m + 1 → dig ds m ≠ 0) (hw : Ws zs) (hl : zs.length = N) (hv : V zs = VD (ds.take k)) : Cn zs := by
  refine Cn_of_ge hw fun m hm => ?_
  obtain ⟨j, rfl⟩ : ∃ j, k = j + 1 := ⟨k - 1, by omega⟩
  have h1 := hd j rfl
  rw [hv, VD_take_dig, ← pow_H]
  have h2 := Nat.le_mul_of_pos_left (H32 ^ j) (Nat.pos_of_ne_zero h1)
  have h3 : H32 ^ (2 * m) ≤ H32 ^ j := Nat.pow_le_pow_right H32_pos (by omega)
  omega
theorem no_high {z hi P x : Nat} (h : z + hi * P = x) (hx : x < P) : z = x := by
  rcases Nat.eq_zero_or_pos hi with h1 | h1
  · subst h1; omega
  · have := Nat.le_mul_of_pos_left P h1
    omega

set_option maxHeartbeats 400000 in
theorem nat_ok (A : Option Addr) (m c : Nat) (ds : List Nat) (w : World) (hm : m ≤ 18000) (hx : Sl w A m c ds) (hd : Dg ds) :
    Calls Try.prog 63 #[.slice A m c] w fun e w' => Rv w w' e (VD ds) := by
  have Hx := Lib.hid (And.intro hx hd)
  clear hx hd
  go_enter Try.func63, Try.ntmps63
  go_wp2_with (fail)
  refine (Short_ok A m c ds w (by omega) Hx.out.1 Hx.out.2).mono ?_
  rintro e w1 ⟨k, rfl, hH, rfl⟩
  have hk := hH.out.1
  obtain ⟨N, hN, hq1, hq2⟩ : ∃ N : Nat, N = (k + 1) / 2 ∧ ((k : Int) + 1).tdiv 2 = (N : Int) ∧ ((k : Int) + 1) / 2 = (N : Int) := ⟨_, rfl, by rw [Int.tdiv_eq_ediv_of_nonneg (by omega)]; omega, by omega⟩
  have HN := Lib.hid hN
  have hN2 : N ≤ 10000 := by omega
  have hN3 : IntKind.i64.wrap (N : Int) = (N : Int) := IntWalk.i64_in _ (by omega)
  clear hN
  go_wp2_with (fail)
  refine (Cut_ok A k c N (ds.take k) w (by omega) hN2 (Hx.out.1.tk hk) (Dg_take Hx.out.2 k) (Nat.lt_of_lt_of_le (nat_room Hx.out.2 HN.out) (Nat.pow_le_pow_right B64_pos (Nat.le_succ _)))).mono ?_
  rintro e w2 ⟨v, zs, hi, rfl, hn, hhi, hv, hb⟩
  have H := Lib.hid (And.intro hn (And.intro hv hb))
  clear hn hv hb hhi
  go_wp2_with (fail)
  go_ret
  obtain ⟨h1, h2, h3⟩ := H.out
  have h4 := no_high h2 (nat_room Hx.out.2 HN.out)
  exact ⟨v, rfl, ⟨N, zs, h1, nat_canon HN.out hH.out.2.2 h1.2.1 h1.1 h4, by rw [h4, hH.out.2.1]⟩, h3⟩

set_option maxHeartbeats 400000 in
theorem RTrim_ok (A : Option Addr) (n c : Nat) (xs : List Nat) (w : World) (hn : n ≤ 4096) (hx : Sl w A n c xs) :
    Calls Try.prog 62 #[.slice A n c] w fun e w' => Rv w w' e (V xs) := by
  have Hx := Lib.hid hx
  clear hx
  go_enter Try.func62, Try.ntmps62
  go_wp2_with (fail)
  refine (Digits_ok A n c xs w hn Hx.out).mono ?_
  rintro e w1 ⟨v, ds, rfl, hnw, hd, hv, hb⟩
  obtain ⟨A1, c1, rfl, hs⟩ := hnw.sl
  have H := Lib.hid (And.intro hs (And.intro hd (And.intro hv hb)))
  clear hs hd hv hb hnw
  go_wp2_with (fail)
  refine (nat_ok A1 (2 * n) c1 ds w1 (by omega) H.out.1 H.out.2.1).mono ?_
  rintro e w2 hR
  obtain ⟨v2, rfl, h2, hb2⟩ := hR.from H.out.2.2.2
  rw [H.out.2.2.1] at h2
  have H2 := Lib.hid (And.intro h2 hb2)
  clear h2 hb2 hR
  go_wp2_with (fail)
  go_ret
  exact ⟨v2, rfl, H2.out.1, H2.out.2⟩

set_option maxHeartbeats 400000 in
theorem Canonical_ok (A : Option Addr) (n c : Nat) (xs : List Nat) (w : World) (hn : n ≤ 4096) (hx : Sl w A n c xs) (hc : Cn xs) :
    Calls Try.prog 60 #[.slice A n c] w fun e w' => e = .returned (.bool true) ∧ w = w' := by
  rcases Nat.eq_zero_or_pos n with rfl | hp
  · clear hx hc
    go_enter Try.func60, Try.ntmps60
    go_wp2_with (fail)
    go_ret
    exact ⟨rfl, rfl⟩
  · obtain ⟨m, rfl⟩ : ∃ m, n = m + 1 := ⟨n - 1, by omega⟩
    have hml : m < xs.length := by rw [hx.1]; omega
    have hg := List.getElem?_eq_getElem hml
    have hne := hc m hx.1
    rw [hg] at hne
    obtain ⟨b, o, rfl, hb, hcx⟩ := hx.2.2.2.2.at (uvs_get hg)
    generalize xs[m] = x at *
    have hx0 : ((x : Int) == 0) = false := by
      have : x ≠ 0 := fun e => hne (by rw [e])
      simp; omega
    have hx1 : ((x : Int) != 0) = true := by rw [bne, hx0]; rfl
    have hmi : ((m + 1 : Nat) : Int) - 1 = (m : Int) := by omega
    have hmi2 : (m : Int) + 1 - 1 = (m : Int) := by omega
    have hmn : ((m : Int) + 1 == 0) = false := by simp; omega
    have hmn2 : (((m + 1 : Nat) : Int) == 0) = false := by simp; omega
    clear hg hml hne hc hx
    go_enter Try.func60, Try.ntmps60
    go_wp2_with (fail)
    go_ret
    exact ⟨rfl, rfl⟩

set_option maxHeartbeats 400000 in
/-- Is, where it is true -/
theorem Is_ok (A A' : Option Addr) (n n' c c' : Nat) (xs ys : List Nat) (w : World) (hn : n ≤ 4096) (hn' : n' ≤ 4096) (hx : Sl w A n c xs) (hy : Sl w A' n' c' ys) (hc : Cn xs) (hv : V xs = V ys) :
    Calls Try.prog 17 #[.slice A n c, .slice A' n' c'] w fun e w' => e = .returned (.bool true) ∧ Below w.heap.size w w' := by
  have Hx := Lib.hid (And.intro hx (And.intro hy (And.intro hc hv)))
  clear hx hy hc hv
  go_enter Try.func17, Try.ntmps17
  go_wp2_with (fail)
  refine (Canonical_ok A n c xs w hn Hx.out.1 Hx.out.2.2.1).mono ?_
  rintro e w1 ⟨rfl, rfl⟩
  go_wp2_with (fail)
  refine (RTrim_ok A' n' c' ys w hn' Hx.out.2.1).mono ?_
  rintro e w2 ⟨v, rfl, hN, hb⟩
  obtain ⟨A2, k, c2, zs, rfl, hs, hcz, hvz, _⟩ := hN.sl
  have hxz : xs = zs := Cn_inj Hx.out.1.2.2.2.1 hs.2.2.2.1 Hx.out.2.2.1 hcz (by rw [hvz]; exact Hx.out.2.2.2)
  subst hxz
  have H := Lib.hid (And.intro (Hx.out.1.below hb) (And.intro hs hb))
  clear hN hs hcz hvz hb
  go_wp2_with (fail)
  refine (Same_any A A2 n k c c2 xs xs w2 H.out.1 H.out.2.1 (by omega)).mono ?_
  rintro e w3 ⟨rfl, m, rfl⟩
  rw [decide_eq_true rfl]
  go_wp2_with (fail)
  go_ret
  exact ⟨rfl, below_drewN H.out.2.2 m⟩

set_option maxHeartbeats 400000 in
theorem RFromWord_ok (x : Nat) (w : World) (hx : x < B64) :
    Calls Try.prog 76 #[.int .u64 x] w fun e w' => Rv w w' e x := by
  have Hx := Lib.hid hx
  clear hx
  go_enter Try.func76, Try.ntmps76
  go_wp2_with (fail)
  refine (Word_ok x w Hx.out).mono ?_
  rintro e w1 ⟨A1, ds, rfl, hs, hd, hv, hb⟩
  have H := Lib.hid (And.intro hs (And.intro hd (And.intro hv hb)))
  clear hs hd hv hb
  go_wp2_with (fail)
  refine (nat_ok A1 2 2 ds w1 (by omega) H.out.1 H.out.2.1).mono ?_
  rintro e w2 hR
  obtain ⟨v2, rfl, h2, hb2⟩ := hR.from H.out.2.2.2
  rw [H.out.2.2.1] at h2
  have H2 := Lib.hid (And.intro h2 hb2)
  clear h2 hb2 hR
  go_wp2_with (fail)
  go_ret
  exact ⟨v2, rfl, H2.out.1, H2.out.2⟩

set_option maxHeartbeats 400000 in
theorem RNMul_ok (A A' : Option Addr) (n n' c c' : Nat) (xs ys : List Nat) (w : World) (hn : n ≤ 4096) (hn' : n' ≤ 4096) (hx : Sl w A n c xs) (hy : Sl w A' n' c' ys) :
    Calls Try.prog 24 #[.slice A n c, .slice A' n' c'] w fun e w' => Rv w w' e (V xs * V ys) := by
  have Hx := Lib.hid (And.intro hx hy)
  clear hx hy
  go_enter Try.func24, Try.ntmps24
  go_wp2_with (fail)
  refine (Digits_ok A n c xs w hn Hx.out.1).mono ?_
  rintro e w1 ⟨v1, ds1, rfl, hn1, hd1, hv1, hb1⟩
  obtain ⟨A1, c1, rfl, hs1⟩ := hn1.sl
  have H1 := Lib.hid (And.intro hs1 (And.intro hd1 (And.intro hv1 hb1)))
  clear hs1 hd1 hv1 hb1 hn1
  go_wp2_with (fail)
  refine (Digits_ok A' n' c' ys w1 hn' (Hx.out.2.below H1.out.2.2.2)).mono ?_
  rintro e w2 ⟨v2, ds2, rfl, hn2, hd2, hv2, hb2⟩
  obtain ⟨A2, c2, rfl, hs2⟩ := hn2.sl
  have H2 := Lib.hid (And.intro (H1.out.1.below hb2) (And.intro hs2 (And.intro hd2 (And.intro hv2 (H1.out.2.2.2.trans (hb2.mono H1.out.2.2.2.size))))))
  clear hs2 hd2 hv2 hb2 hn2
  go_wp2_with (fail)
  refine (Times_ok A1 A2 (2 * n) (2 * n') c1 c2 ds1 ds2 w2 (by omega) (by omega) H2.out.1 H2.out.2.1 H1.out.2.1 H2.out.2.2.1).mono ?_
  rintro e w3 ⟨v3, ds3, rfl, hn3, hd3, hv3, hb3⟩
  obtain ⟨A3, c3, rfl, hs3⟩ := hn3.sl
  have H3 := Lib.hid (And.intro hs3 (And.intro hd3 (And.intro (show VD ds3 = V xs * V ys by rw [hv3, H1.out.2.2.1, H2.out.2.2.2.1]) (H2.out.2.2.2.2.trans (hb3.mono H2.out.2.2.2.2.size)))))
  clear hs3 hd3 hv3 hb3 hn3
  go_wp2_with (fail)
  refine (nat_ok A3 (2 * n + 2 * n') c3 ds3 w3 (by omega) H3.out.1 H3.out.2.1).mono ?_
  rintro e w4 hR
  obtain ⟨v4, rfl, h4, hb4⟩ := hR.from H3.out.2.2.2
  rw [H3.out.2.2.1] at h4
  have H4 := Lib.hid (And.intro h4 hb4)
  clear h4 hb4 hR
  go_wp2_with (fail)
  go_ret
  exact ⟨v4, rfl, H4.out.1, H4.out.2⟩
end Go.Proofs.Ytekikolhnfofeaa
