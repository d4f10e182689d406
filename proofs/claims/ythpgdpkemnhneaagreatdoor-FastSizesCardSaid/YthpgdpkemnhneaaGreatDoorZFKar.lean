/- The contracts of fast's school, sign.times, and of karatsuba's closure. -/
import Derived.Test.YthpgdpkemnhneaaGreatDoorP9
import Derived.Test.YthpgdpkemnhneaaGreatDoorP2
import Derived.Test.YthpgdpkemnhneaaGreatDoorP1
namespace Go.Proofs.YthpgdpkemnhneaaGreatDoor
open Go.RowKit Go.Shelf
set_option linter.unusedVariables false
set_option linter.unusedSimpArgs false
set_option maxRecDepth 10000

theorem school_ok (least : Int) (A A' : Option Addr) (n n' c c' : Nat) (xs ys : List Nat) (w : World) (hn : n ≤ 4096) (hn' : n' ≤ 4096) (hx : Sl w A n c xs) (hy : Sl w A' n' c' ys) (hlt : V xs * V ys < Big) :
    Calls Tryz.prog 69 #[.int .i64 least, .slice A n c, .slice A' n' c'] w fun e w' => Rv w w' e (V xs * V ys) := by
  have Hx := Lib.hid (And.intro hx (And.intro hy hlt))
  clear hx hy hlt
  go_enter Tryz.func69, Tryz.ntmps69
  go_wp2_with (fail)
  refine (NMul_ok _ _ _ _ _ _ xs ys _ hn hn' Hx.out.1 Hx.out.2.1).mono ?_
  rintro e w1 hR
  obtain ⟨A1, n1, c1, zs, rfl, hN⟩ := hR.open Hx.out.2.2
  have HN := Lib.hid hN
  clear hN hR
  go_wp2_with (fail)
  go_ret
  exact ⟨_, rfl, HN.out.2.2.2.2.1, HN.out.bel⟩
theorem sign_times_ok (s t : Bool) (w : World) :
    Calls Tryz.prog 71 #[.agg #[.bool s], .agg #[.bool t]] w fun e w' => e = .returned (.agg #[.bool (xor s t)]) ∧ Below w.heap.size w w' := by
  have hb : Below w.heap.size w (((w.alloc (.cells #[.bool s] 57)).alloc (.cells #[.bool t] 57)).alloc (.cells #[.bool (xor s t)] 57)) := (((Below.refl _ _).alloc (Nat.le_refl _) _).alloc (by simp) _).alloc (by simp; omega) _
  cases s <;> cases t <;>
  · go_enter Tryz.func71, Tryz.ntmps71
    go_wp2
    exact bodyPost_ret (v := .agg #[.bool _]) (by simp [results, Tryz.results71, go_sem]) rfl ⟨rfl, hb⟩
theorem sgn_mul {s t : Bool} {x y : Nat} : sgn (xor s t) (x * y) = sgn s x * sgn t y := by
  cases s <;> cases t <;> simp [sgn, Int.neg_mul, Int.mul_neg]

/-- where the closure finds itself, and from when on it takes numbers apart -/
def KBox (W : World) (pl pp : Nat) (least : Nat) (f : Nat) : Prop :=
  W.cell? ⟨pl, 0, none⟩ = some (.int .i64 (least : Int)) ∧ W.cell? ⟨pp, 0, none⟩ = some (.func (.func f) #[] #[.pointer (some ⟨pl, 0, none⟩), .pointer (some ⟨pp, 0, none⟩)]) ∧ pl < W.heap.size ∧ pp < W.heap.size
theorem KBox.below {W W' : World} {pl pp least f : Nat} (h : KBox W pl pp least f) (hb : Below W.heap.size W W') : KBox W' pl pp least f :=
  ⟨(hb.cell (p := ⟨pl, 0, none⟩) h.2.2.1).trans h.1, (hb.cell (p := ⟨pp, 0, none⟩) h.2.2.2).trans h.2.1, Nat.lt_of_lt_of_le h.2.2.1 hb.size, Nat.lt_of_lt_of_le h.2.2.2 hb.size⟩
/-- the product is not too large -/
def Room (least n n' x : Nat) : Prop := (n + n' ≤ 4097 ∧ n ≤ 4096 ∧ n' ≤ 4096) ∧ (n < least ∨ n' < least → x < Big)
theorem Room.lt {w w' : World} {A A' : Option Addr} {n n' c c' least : Nat} {xs ys : List Nat} (hx : Sl w A n c xs) (hy : Sl w' A' n' c' ys) (h : n + n' ≤ 4096) : Room least n n' (V xs * V ys) := by
  refine ⟨⟨by omega, by omega, by omega⟩, fun _ => ?_⟩
  have h1 := V_lt _ hx.2.2.2.1
  have h2 := V_lt _ hy.2.2.2.1
  rw [hx.1] at h1
  rw [hy.1] at h2
  refine Big_of (k := n + n') ?_ h
  rw [Nat.pow_add]
  exact Nat.mul_lt_mul'' h1 h2

/-- two cells that hold a signed number, written in a block beyond B -/
theorem below_st {B b : Nat} {X W : World} {u v : Value} (h : Below B X W) (hb : B ≤ b) : Below B X ((W.setCell ⟨b, 0, none⟩ u).setCell ⟨b, 1, none⟩ v) := (h.setCell (p := ⟨b, 0, none⟩) hb u).setCell (p := ⟨b, 1, none⟩) hb v
theorem below_dr {B : Nat} {X W : World} (h : Below B X W) : Below B X W.drew := ⟨h.os, h.tape, h.output, h.size, h.block⟩
/-- what the closure keeps: itself, the parts' differences (where they lie, and what they are), and the parts -/
def KX (w X : World) (pl pp least b1 b2 : Nat) (t1 t2 : Bool) (A5 A6 A1 A2 A3 A4 : Option Addr) (n5 n6 k1 k2 k3 k4 c5 c6 c1 c2 c3 c4 : Nat) (z5 z6 l1 l2 l3 l4 : List Nat) : Prop :=
  KBox X pl pp least 68 ∧ Bk X b1 [.bool t1, .slice A5 n5 c5] ∧ Bk X b2 [.bool t2, .slice A6 n6 c6] ∧ Sc X A5 n5 c5 z5 ∧ Sc X A6 n6 c6 z6 ∧
  Sc X A1 k1 c1 l1 ∧ Sc X A2 k2 c2 l2 ∧ Sc X A3 k3 c3 l3 ∧ Sc X A4 k4 c4 l4 ∧ Below w.heap.size w X ∧ b1 < X.heap.size ∧ b2 < X.heap.size
section
variable {w X W : World} {pl pp least b1 b2 : Nat} {t1 t2 : Bool} {A5 A6 A1 A2 A3 A4 : Option Addr} {n5 n6 k1 k2 k3 k4 c5 c6 c1 c2 c3 c4 : Nat} {z5 z6 l1 l2 l3 l4 : List Nat}
theorem KX.s7 (h : KX w X pl pp least b1 b2 t1 t2 A5 A6 A1 A2 A3 A4 n5 n6 k1 k2 k3 k4 c5 c6 c1 c2 c3 c4 z5 z6 l1 l2 l3 l4) (hb : Below X.heap.size X W) :
    W.cell? ⟨b1, 0, none⟩ = some (.bool t1) ∧ W.cell? ⟨b1, 1, none⟩ = some (.slice A5 n5 c5) ∧ W.cell? ⟨b2, 0, none⟩ = some (.bool t2) ∧ W.cell? ⟨b2, 1, none⟩ = some (.slice A6 n6 c6) ∧
    W.cell? ⟨pp, 0, none⟩ = some (.func (.func 68) #[] #[.pointer (some ⟨pl, 0, none⟩), .pointer (some ⟨pp, 0, none⟩)]) := by
  obtain ⟨h1, h2, h3, _, _, _, _, _, _, _, q1, q2⟩ := h
  have h2' := h2.below hb q1
  have h3' := h3.below hb q2
  exact ⟨(h2' 0 _ rfl).1, (h2' 1 _ rfl).1, (h3' 0 _ rfl).1, (h3' 1 _ rfl).1, (h1.below hb).2.1⟩
end
/-- behind the store of the product of the differences -/
def KY (X Y : World) (b : Nat) (t : Bool) (A : Option Addr) (n c : Nat) (zs : List Nat) (x : Nat) : Prop :=
  Below X.heap.size X Y ∧ Bk Y b [.bool t, .slice A n c] ∧ Sc Y A n c zs ∧ V zs = x ∧ b < Y.heap.size ∧ n ≤ 10000
theorem Bk.put {W : World} {b : Nat} {u v x y : Value} (h : Bk W b [x, y]) : Bk ((W.setCell ⟨b, 0, none⟩ u).setCell ⟨b, 1, none⟩ v) b [u, v] := by
  have h0 := h 0 _ rfl
  have h1 := h 1 _ rfl
  intro j z hj
  match j, hj with
  | 0, hj =>
    simp at hj
    subst hj
    exact ⟨by rw [World.cell?_setCell_other _ _ _ _ (by simp), World.cell?_setCell_same' _ _ _ (by rw [h0.1]; rfl)], by rw [World.frozen?_setCell, World.frozen?_setCell]; exact h0.2⟩
  | 1, hj =>
    simp at hj
    subst hj
    exact ⟨World.cell?_setCell_same' _ _ _ (by rw [World.cell?_setCell_other _ _ _ _ (by simp), h1.1]; rfl), by rw [World.frozen?_setCell, World.frozen?_setCell]; exact h1.2⟩
  | j + 2, hj => simp at hj
/-- a row that is not in the block that is written -/
theorem Nw.put2 {w0 W : World} {A : Option Addr} {n c b : Nat} {zs : List Nat} {u v : Value} (h : Nw w0 W (.slice A n c) n zs) (hb : b < w0.heap.size) : Nw w0 ((W.setCell ⟨b, 0, none⟩ u).setCell ⟨b, 1, none⟩ v) (.slice A n c) n zs :=
  ⟨h.1, h.2.1, own_kept (own_kept h.2.2 (grown_set W b 0 u) hb) (grown_set _ b 1 v) hb⟩
theorem Nw.sc {w W : World} {A : Option Addr} {n c : Nat} {zs : List Nat} (h : Nw w W (.slice A n c) n zs) (hc : Cn zs) : Sc W A n c zs := by
  obtain ⟨A', c', e, hs⟩ := h.sl
  injection e with e1 e2 e3
  subst e1 e3
  exact ⟨hs, hc⟩
theorem KX.s8 {w X Y W : World} {pl pp least b1 b2 b3 : Nat} {t1 t2 t : Bool} {A5 A6 A1 A2 A3 A4 A7 : Option Addr} {n5 n6 k1 k2 k3 k4 c5 c6 c1 c2 c3 c4 n7 c7 x : Nat} {z5 z6 l1 l2 l3 l4 z7 : List Nat} (h : KX w X pl pp least b1 b2 t1 t2 A5 A6 A1 A2 A3 A4 n5 n6 k1 k2 k3 k4 c5 c6 c1 c2 c3 c4 z5 z6 l1 l2 l3 l4) (hy : KY X Y b3 t A7 n7 c7 z7 x) (hb : Below Y.heap.size Y W) :
    W.cell? ⟨b3, 0, none⟩ = some (.bool t) ∧ W.cell? ⟨b3, 1, none⟩ = some (.slice A7 n7 c7) ∧ W.cell? ⟨pp, 0, none⟩ = some (.func (.func 68) #[] #[.pointer (some ⟨pl, 0, none⟩), .pointer (some ⟨pp, 0, none⟩)]) := by
  have h3 := hy.2.1.below hb hy.2.2.2.2.1
  exact ⟨(h3 0 _ rfl).1, (h3 1 _ rfl).1, ((h.1.below hy.1).below hb).2.1⟩
theorem prod_len {w : World} {A : Option Addr} {n c h x y : Nat} {zs : List Nat} (hs : Sl w A n c zs) (hc : Cn zs) (hv : V zs = x * y) (hx : x < B64 ^ h) (hy : y < B64 ^ h) (hh : h ≤ 3000) : n ≤ 10000 := by
  have h1 := (Cn_len hs.2.2.2.1 hc (h + h)).2 (by rw [hv, Nat.pow_add]; exact Nat.mul_lt_mul'' hx hy)
  rw [hs.1] at h1
  omega
theorem KY.mk1 {X W0 W : World} {b : Nat} {t : Bool} {A : Option Addr} {n c x : Nat} {zs : List Nat} {u v : Value} (hb : Below X.heap.size X W) (hX : X.heap.size ≤ b) (hk : Bk W b [u, v]) (hN : Nw W0 W (.slice A n c) n zs) (hc : Cn zs) (hv : V zs = x) (h0 : b < W0.heap.size) (hn : n ≤ 10000) (hs : W0.heap.size ≤ W.heap.size) :
    KY X ((W.setCell ⟨b, 0, none⟩ (.bool t)).setCell ⟨b, 1, none⟩ (.slice A n c)) b t A n c zs x :=
  ⟨below_st hb hX, hk.put, (hN.put2 h0).sc hc, hv, by simp [World.setCell]; omega, hn⟩
theorem KY.mk2 {X W0 W : World} {t : Bool} {A : Option Addr} {n c x : Nat} {zs : List Nat} {ty : TypeId} (hb : Below X.heap.size X W) (hN : Nw W0 W (.slice A n c) n zs) (hc : Cn zs) (hv : V zs = x) (hn : n ≤ 10000) :
    KY X (W.alloc (.cells #[.bool t, .slice A n c] ty)) W.heap.size t A n c zs x :=
  ⟨hb.alloc hb.size _, Bk.new W [.bool t, .slice A n c] ty, (hN.sc hc).below ((Below.refl _ W).alloc (Nat.le_refl _) _), hv, by simp, hn⟩
theorem diff_len {w W : World} {t : Bool} {A : Option Addr} {n c h : Nat} {zs xs ys : List Nat} (hS : Sg w W t A n c zs ((V xs : Int) - V ys)) (hx : V xs < B64 ^ h) (hy : V ys < B64 ^ h) : n ≤ h := by
  have h1 := hS.1.1
  have h2 := sgn_abs t (V zs)
  rw [← hS.2.2.1] at h2
  rw [← h1]
  exact (Cn_len hS.1.2.1 hS.2.1 h).2 (by omega)
theorem Sc.lt {w : World} {A : Option Addr} {n c h : Nat} {xs : List Nat} (hx : Sc w A n c xs) (hn : n ≤ h) : V xs < B64 ^ h := by
  have h1 := V_lt _ hx.1.2.2.2.1
  rw [hx.1.1] at h1
  exact Nat.lt_of_lt_of_le h1 (Nat.pow_le_pow_right B64_pos hn)

set_option maxHeartbeats 4000000 in
theorem kprod_step (N : Nat) (pl pp least : Nat) (hl3 : 3 ≤ least) (hl64 : least ≤ 64)
    (IH : ∀ (A A' : Option Addr) (n n' c c' : Nat) (xs ys : List Nat) (w : World), n < N → n' < N → Sc w A n c xs → Sc w A' n' c' ys → KBox w pl pp least 68 → Room least n n' (V xs * V ys) →
      Calls Tryz.prog 68 #[.slice A n c, .slice A' n' c', .pointer (some ⟨pl, 0, none⟩), .pointer (some ⟨pp, 0, none⟩)] w fun e w' => Rv w w' e (V xs * V ys))
    (A A' : Option Addr) (n n' c c' : Nat) (xs ys : List Nat) (w : World) (hn : n ≤ N) (hn' : n' ≤ N) (hx : Sc w A n c xs) (hy : Sc w A' n' c' ys) (hK : KBox w pl pp least 68) (hR : Room least n n' (V xs * V ys)) :
      Calls Tryz.prog 68 #[.slice A n c, .slice A' n' c', .pointer (some ⟨pl, 0, none⟩), .pointer (some ⟨pp, 0, none⟩)] w fun e w' => Rv w w' e (V xs * V ys) := by
  have Hx := Lib.hid (And.intro hx (And.intro hy (And.intro hK (And.intro hR hR))))
  have HI := Lib.hid IH
  have hs := hR.1
  have k1 := hK.1
  clear hx hy hK hR IH
  obtain ⟨mn, hmn⟩ : ∃ mn, mn = min n n' := ⟨_, rfl⟩
  have hmi : min (n : Int) (n' : Int) = (mn : Int) := by omega
  by_cases hlt : mn < least
  · have hli : (mn : Int) < (least : Int) := by omega
    have HL := Lib.hid (show V xs * V ys < Big from Hx.out.2.2.2.1.2 (by omega))
    have h1 := hs.2
    clear hmn
    go_enter Tryz.func68, Tryz.ntmps68
    go_wp2_with (fail)
    refine (school_ok _ _ _ _ _ _ _ xs ys _ h1.1 h1.2 Hx.out.1.1 Hx.out.2.1.1 HL.out).mono ?_
    rintro e w1 ⟨v, rfl, h2, h3⟩
    have H := Lib.hid (And.intro h2 h3)
    clear h2 h3
    go_wp2_with (fail)
    go_ret
    exact ⟨v, rfl, H.out.1, H.out.2⟩
  · have hli : ¬ (mn : Int) < (least : Int) := by omega
    obtain ⟨M, hM⟩ : ∃ M, M = max n n' := ⟨_, rfl⟩
    have hMi : max (n : Int) (n' : Int) = (M : Int) := by omega
    obtain ⟨h, hh⟩ : ∃ h, h = (M + 1) / 2 := ⟨_, rfl⟩
    have hhi : ((M : Int) + 1) / 2 = (h : Int) := by omega
    have hhi2 : ((M : Int) + 1).tdiv 2 = (h : Int) := by rw [Int.tdiv_eq_ediv_of_nonneg (by omega)]; exact hhi
    have hMs : n ≤ M ∧ n' ≤ M ∧ M ≤ N ∧ 3 ≤ M ∧ M ≤ 4094 := by omega
    have HS := Lib.hid (show n ≤ 2 * h ∧ n' ≤ 2 * h ∧ h < N ∧ 2 * h ≤ 4095 by omega)
    have hh5 : h ≤ 3000 := by omega
    have hw1 : IntKind.i64.wrap ((M : Int) + 1) = (M : Int) + 1 := IntWalk.i64_in _ (by omega)
    have hw2 : IntKind.i64.wrap (h : Int) = (h : Int) := IntWalk.i64_in _ (by omega)
    obtain ⟨hM4, hn5, hn5'⟩ : M ≤ 4094 ∧ n ≤ 4096 ∧ n' ≤ 4096 := by omega
    clear hmn hM hh hMs hs
    go_enter Tryz.func68, Tryz.ntmps68
    go_wp2_with (fail)
    refine (fhalves_ok A n c h xs _ (by omega) (by omega) Hx.out.1).mono ?_
    rintro e w1 ⟨⟨A1, k1, c1, l1, A2, k2, c2, l2, rfl, s1, s2, hk1, -, hk2, hv1, -⟩, d1, rfl⟩
    have HV1 := Lib.hid (And.intro s1 (And.intro s2 (And.intro hk1 (And.intro (show k2 ≤ h by have := HS.out; omega) hv1))))
    clear s1 s2 hk1 hk2 hv1
    go_wp2_with (fail)
    refine (fhalves_ok A' n' c' h ys _ (by omega) (by omega) (show Sc (w.drewN d1) _ _ _ _ from Hx.out.2.1)).mono ?_
    rintro e w1 ⟨⟨A3, k3, c3, l3, A4, k4, c4, l4, rfl, s1, s2, hk1, -, hk2, hv1, -⟩, d2, rfl⟩
    have HV2 := Lib.hid (And.intro (show Sc w A3 k3 c3 l3 from s1) (And.intro (show Sc w A4 k4 c4 l4 from s2) (And.intro hk1 (And.intro (show k4 ≤ h by have := HS.out; omega) hv1))))
    clear s1 s2 hk1 hk2 hv1
    have hlen : k1 ≤ 3000 ∧ k2 ≤ 3000 ∧ k3 ≤ 3000 ∧ k4 ≤ 3000 := by have h1 := HV1.out; have h2 := HV2.out; omega
    obtain ⟨q1, q2, q3, q4⟩ := hlen
    go_wp2_with (fail)
    refine (fdiff_ok A2 A1 k2 k1 c2 c1 l2 l1 _ (by omega) (by omega) (show Sl (w.drewN (d1 + d2)) _ _ _ _ from HV1.out.2.1.1) (show Sl (w.drewN (d1 + d2)) _ _ _ _ from HV1.out.1.1)).mono ?_
    rintro e w3 ⟨t1, A5, n5, c5, z5, rfl, hS5, hb5⟩
    have HD1 := Lib.hid (And.intro (show Sg w w3 t1 A5 n5 c5 z5 _ from hS5) (show Below w.heap.size w w3 from ⟨hb5.os, hb5.tape, hb5.output, hb5.size, hb5.block⟩))
    clear hS5 hb5
    go_wp2_with (fail)
    refine (fdiff_ok A4 A3 k4 k3 c4 c3 l4 l3 _ (by omega) (by omega) (HV2.out.2.1.1.below HD1.out.2) (HV2.out.1.1.below HD1.out.2)).mono ?_
    rintro e w4 ⟨t2, A6, n6, c6, z6, rfl, hS6, hb6⟩
    have HD2 := Lib.hid (And.intro (HD1.out.1.later (Nat.le_refl _) hb6) (And.intro (hS6.later HD1.out.2.size (Below.refl _ _)) (HD1.out.2.trans (hb6.mono HD1.out.2.size))))
    clear hS6 hb6 HD1
    go_wp2_with (fail)
    obtain ⟨X, hX⟩ : ∃ X, (w4.alloc (.cells #[.bool t1, .slice A5 n5 c5] 59)).alloc (.cells #[.bool t2, .slice A6 n6 c6] 59) = X := ⟨_, rfl⟩
    obtain ⟨b1, hb1⟩ : ∃ b1, w4.heap.size = b1 := ⟨_, rfl⟩
    obtain ⟨b2, hb2⟩ : ∃ b2, w4.heap.size + 1 = b2 := ⟨_, rfl⟩
    have hbX : Below w4.heap.size w4 X := by rw [← hX]; exact ((Below.refl _ _).alloc (Nat.le_refl _) _).alloc (by simp) _
    have hwX : Below w.heap.size w X := HD2.out.2.2.trans (hbX.mono HD2.out.2.2.size)
    have hlens : n5 ≤ h ∧ n6 ≤ h := ⟨diff_len HD2.out.1 (HV1.out.2.1.lt HV1.out.2.2.2.1) (HV1.out.1.lt HV1.out.2.2.1), diff_len HD2.out.2.1 (HV2.out.2.1.lt HV2.out.2.2.2.1) (HV2.out.1.lt HV2.out.2.2.1)⟩
    have HX : Hid (KX w X pl pp least b1 b2 t1 t2 A5 A6 A1 A2 A3 A4 n5 n6 k1 k2 k3 k4 c5 c6 c1 c2 c3 c4 z5 z6 l1 l2 l3 l4) := by
      refine ⟨Hx.out.2.2.1.below hwX, ?_, ?_, HD2.out.1.sl.below hbX, HD2.out.2.1.sl.below hbX, HV1.out.1.below hwX, HV1.out.2.1.below hwX, HV2.out.1.below hwX, HV2.out.2.1.below hwX, hwX, ?_, ?_⟩
      · rw [← hX, ← hb1]
        exact (Bk.new w4 [.bool t1, .slice A5 n5 c5] 59).below ((Below.refl _ _).alloc (Nat.le_refl _) _) (by simp)
      · rw [← hX, ← hb2]
        have := Bk.new (w4.alloc (.cells #[.bool t1, .slice A5 n5 c5] 59)) [.bool t2, .slice A6 n6 c6] 59
        rwa [World.size_alloc] at this
      · rw [← hX, ← hb1]; simp; omega
      · rw [← hX, ← hb2]; simp
    have HLn := Lib.hid hlens
    have HSg := Lib.hid (And.intro HD2.out.1.2.2.1 HD2.out.2.1.2.2.1)
    rw [hX, hb2, hb1]
    clear hX hb1 hb2 hbX hwX hlens HD2
    go_wp2_with (fail)
    go_region_held3 (fun w' => w'.cell? ⟨b1, 0, none⟩ = some (.bool t1) ∧ w'.cell? ⟨b1, 1, none⟩ = some (.slice A5 n5 c5) ∧ w'.cell? ⟨b2, 0, none⟩ = some (.bool t2) ∧ w'.cell? ⟨b2, 1, none⟩ = some (.slice A6 n6 c6) ∧ w'.cell? ⟨pp, 0, none⟩ = some (.func (.func 68) #[] #[.pointer (some ⟨pl, 0, none⟩), .pointer (some ⟨pp, 0, none⟩)]))
      ((refine HX.out.s7 ?_; first
        | exact below_dr (Below.refl _ _)
        | exact below_dr ((Below.refl _ _).alloc (Nat.le_refl _) _)
        | exact HB2.out.1
        | exact below_st HB2.out.1 (Nat.le_refl _)
        | exact below_st HB2.out.1 HB1.out.1.size
        | exact HB2.out.1.alloc HB2.out.1.size _
        | exact HB1.out.1
        | exact HB1.out.1.alloc HB1.out.1.size _
        | exact below_st (HB2.out.1.alloc HB2.out.1.size _) HB2.out.1.size))
      (first
        | (go_at_call 71; (with_reducible show Calls _ _ _ (World.drew (World.alloc X _)) _); refine (sign_times_ok _ _ _).mono ?_; rintro e w5 ⟨rfl, hq⟩; have HB1 : Hid (Below X.heap.size X w5 ∧ Bk w5 X.heap.size [.bool false, .slice none 0 0]) := ⟨belowB hq, (Bk.new X [.bool false, .slice none 0 0] 59).below (show Below (X.alloc _).heap.size (X.alloc _) w5 from ⟨hq.os, hq.tape, hq.output, hq.size, hq.block⟩) (by simp)⟩; have HO := Lib.hid (show X.heap.size < w5.heap.size by have := hq.size; simp [World.drew] at this; omega); clear hq)
        | (go_at_call 71; (with_reducible show Calls _ _ _ (World.drew X) _); refine (sign_times_ok _ _ _).mono ?_; rintro e w5 ⟨rfl, hq⟩; have HB1 : Hid (Below X.heap.size X w5 ∧ True) := ⟨belowA hq, trivial⟩; clear hq)
        | (go_at_call 68; have hO := HO.out; (with_reducible show Calls _ _ _ w5 _); refine (HI.out A5 A6 n5 n6 c5 c6 z5 z6 w5 (by have := HLn.out; have := HS.out; omega) (by have := HLn.out; have := HS.out; omega) (HX.out.2.2.2.1.below HB1.out.1) (HX.out.2.2.2.2.1.below HB1.out.1) (HX.out.1.below HB1.out.1) (Room.lt HX.out.2.2.2.1.1 HX.out.2.2.2.2.1.1 (by have := HLn.out; have := HS.out; omega))).mono ?_; rintro e w6 ⟨v, rfl, hN2, hq2⟩; obtain ⟨A7, n7, c7, z7, rfl, -, hc7, hv7, hw7⟩ := hN2.sl; have HB2 := Lib.hid (And.intro (HB1.out.1.trans (hq2.mono HB1.out.1.size)) (And.intro hc7 (And.intro hv7 (And.intro hw7 hq2.size)))); have HP := Lib.hid (HB1.out.2.below hq2 HO.out); obtain ⟨⟨p0, f0⟩, p1, f1⟩ := (show (w6.cell? ⟨X.heap.size, 0, none⟩ = some (.bool false) ∧ w6.frozen? ⟨X.heap.size, 0, none⟩ = false) ∧ w6.cell? ⟨X.heap.size, 1, none⟩ = some (.slice none 0 0) ∧ w6.frozen? ⟨X.heap.size, 1, none⟩ = false from ⟨HP.out 0 _ rfl, (HP.out 1 _ rfl).1, (HP.out 1 _ rfl).2⟩); clear hN2 hq2 hc7 hv7 hw7)
        | (go_at_call 68; (with_reducible show Calls _ _ _ w5 _); refine (HI.out A5 A6 n5 n6 c5 c6 z5 z6 w5 (by have := HLn.out; have := HS.out; omega) (by have := HLn.out; have := HS.out; omega) (HX.out.2.2.2.1.below HB1.out.1) (HX.out.2.2.2.2.1.below HB1.out.1) (HX.out.1.below HB1.out.1) (Room.lt HX.out.2.2.2.1.1 HX.out.2.2.2.2.1.1 (by have := HLn.out; have := HS.out; omega))).mono ?_; rintro e w6 ⟨v, rfl, hN2, hq2⟩; obtain ⟨A7, n7, c7, z7, rfl, -, hc7, hv7, hw7⟩ := hN2.sl; have HB2 := Lib.hid (And.intro (HB1.out.1.trans (hq2.mono HB1.out.1.size)) (And.intro hc7 (And.intro hv7 (And.intro hw7 hq2.size)))); clear hN2 hq2 hc7 hv7 hw7)
        | (go_at_call 68; (with_reducible show Calls _ _ _ (World.alloc w5 _) _); have hal : Below X.heap.size X (w5.alloc (.cells #[.bool false, .slice none 0 0] 59)) := HB1.out.1.alloc HB1.out.1.size _; refine (HI.out A5 A6 n5 n6 c5 c6 z5 z6 (w5.alloc (.cells #[.bool false, .slice none 0 0] 59)) (by have := HLn.out; have := HS.out; omega) (by have := HLn.out; have := HS.out; omega) (HX.out.2.2.2.1.below hal) (HX.out.2.2.2.2.1.below hal) (HX.out.1.below hal) (Room.lt HX.out.2.2.2.1.1 HX.out.2.2.2.2.1.1 (by have := HLn.out; have := HS.out; omega))).mono ?_; rintro e w6 ⟨v, rfl, hN2, hq2⟩; obtain ⟨A7, n7, c7, z7, rfl, -, hc7, hv7, hw7⟩ := hN2.sl; have HB2 := Lib.hid (And.intro (hal.trans (hq2.mono hal.size)) (And.intro hc7 (And.intro hv7 (And.intro hw7 hq2.size)))); have HP := Lib.hid ((Bk.new w5 [.bool false, .slice none 0 0] 59).below hq2 (by simp)); obtain ⟨⟨p0, f0⟩, p1, f1⟩ := (show (w6.cell? ⟨w5.heap.size, 0, none⟩ = some (.bool false) ∧ w6.frozen? ⟨w5.heap.size, 0, none⟩ = false) ∧ w6.cell? ⟨w5.heap.size, 1, none⟩ = some (.slice none 0 0) ∧ w6.frozen? ⟨w5.heap.size, 1, none⟩ = false from ⟨HP.out 0 _ rfl, (HP.out 1 _ rfl).1, (HP.out 1 _ rfl).2⟩); clear hN2 hq2 hc7 hv7 hw7 hal))
    · have hn7 := prod_len (w := w6) (A := A7) (c := c7) ((HB2.out.2.2.2.1.sc HB2.out.2.1).1) HB2.out.2.1 HB2.out.2.2.1 (HX.out.2.2.2.1.lt HLn.out.1) (HX.out.2.2.2.2.1.lt HLn.out.2) hh5
      have HY0 : Hid (KY X (w6.alloc (.cells #[.bool (xor t1 t2), .slice A7 n7 c7] 59)) w6.heap.size (xor t1 t2) A7 n7 c7 z7 (V z5 * V z6)) := KY.mk2 HB2.out.1 HB2.out.2.2.2.1 HB2.out.2.1 HB2.out.2.2.1 (by omega)
      obtain ⟨Y, hY⟩ : ∃ Y, w6.alloc (.cells #[.bool (xor t1 t2), .slice A7 n7 c7] 59) = Y := ⟨_, rfl⟩
      obtain ⟨b3, hb3⟩ : ∃ b3, w6.heap.size = b3 := ⟨_, rfl⟩
      rw [hY, hb3] at HY0 ⊢
      have HY := Lib.hid HY0.out
      clear HY0 hY hb3 hn7
      clear HB1 HB2
      clear HLn
      go_wp2_with (fail)
      go_region_held3 (fun w' => w'.cell? ⟨b3, 0, none⟩ = some (.bool (xor t1 t2)) ∧ w'.cell? ⟨b3, 1, none⟩ = some (.slice A7 n7 c7) ∧ w'.cell? ⟨pp, 0, none⟩ = some (.func (.func 68) #[] #[.pointer (some ⟨pl, 0, none⟩), .pointer (some ⟨pp, 0, none⟩)]))
        ((refine HX.out.s8 HY.out ?_; first | exact below_dr (Below.refl _ _) | exact HC3.out | exact HC2.out.1 | exact HC1.out.1))
        (first
          | (go_at_call 68; (with_reducible show Calls _ _ _ (World.drew Y) _); refine (HI.out A1 A3 k1 k3 c1 c3 l1 l3 Y.drew (by have := HS.out; have := HV1.out.2.2.1; omega) (by have := HS.out; have := HV2.out.2.2.1; omega) (HX.out.2.2.2.2.2.1.below (below_dr HY.out.1)) (HX.out.2.2.2.2.2.2.2.1.below (below_dr HY.out.1)) (HX.out.1.below (below_dr HY.out.1)) (Room.lt HX.out.2.2.2.2.2.1.1 HX.out.2.2.2.2.2.2.2.1.1 (by have := HS.out; have := HV1.out.2.2.1; have := HV2.out.2.2.1; omega))).mono ?_; rintro e w7 ⟨v, rfl, hN2, hq2⟩; obtain ⟨A8, n8, c8, z8, rfl, s8, cn8, hv8, -⟩ := hN2.sl; have HC1 : Hid (Below Y.heap.size Y w7 ∧ Sl w7 A8 n8 c8 z8 ∧ Cn z8 ∧ V z8 = V l1 * V l3) := ⟨belowA hq2, s8, cn8, hv8⟩; clear hN2 hq2 s8 cn8 hv8)
          | (go_at_call 68; (with_reducible show Calls _ _ _ w7 _); have hal := HY.out.1.trans (HC1.out.1.mono HY.out.1.size); refine (HI.out A2 A4 k2 k4 c2 c4 l2 l4 w7 (by have := HS.out; have := HV1.out.2.2.2.1; omega) (by have := HS.out; have := HV2.out.2.2.2.1; omega) (HX.out.2.2.2.2.2.2.1.below hal) (HX.out.2.2.2.2.2.2.2.2.1.below hal) (HX.out.1.below hal) (Room.lt HX.out.2.2.2.2.2.2.1.1 HX.out.2.2.2.2.2.2.2.2.1.1 (by have := HS.out; have := HV1.out.2.2.2.1; have := HV2.out.2.2.2.1; omega))).mono ?_; rintro e w8 ⟨v, rfl, hN2, hq2⟩; obtain ⟨A9, n9, c9, z9, rfl, s9, cn9, hv9, -⟩ := hN2.sl; have HC2 : Hid (Below Y.heap.size Y w8 ∧ Sl w8 A8 n8 c8 z8 ∧ Sl w8 A9 n9 c9 z9 ∧ Cn z9 ∧ V z9 = V l2 * V l4) := ⟨HC1.out.1.trans (hq2.mono HC1.out.1.size), HC1.out.2.1.below hq2, s9, cn9, hv9⟩; clear hN2 hq2 s9 cn9 hv9 hal)
          | (go_at_call 72; refine (fromHalves_ok A8 A9 A7 n8 n9 n7 c8 c9 c7 z8 z9 z7 (xor t1 t2) h w8 (prod_len HC2.out.2.1 HC1.out.2.2.1 HC1.out.2.2.2 (HV1.out.1.lt HV1.out.2.2.1) (HV2.out.1.lt HV2.out.2.2.1) hh5) (prod_len HC2.out.2.2.1 HC2.out.2.2.2.1 HC2.out.2.2.2.2 (HV1.out.2.1.lt HV1.out.2.2.2.1) (HV2.out.2.1.lt HV2.out.2.2.2.1) hh5) (by have := HY.out.2.2.2.2.2; omega) (by omega) HC2.out.2.1 HC2.out.2.2.1 (HY.out.2.2.1.1.below HC2.out.1)).mono ?_; rintro e w9 hW; obtain ⟨v9, rfl, hNt, hq9⟩ := hW.nat (halves_sum HC1.out.2.2.2 HC2.out.2.2.2.2 (by rw [HY.out.2.2.2.1, sgn_mul, ← HSg.out.1, ← HSg.out.2])); have HF := Lib.hid (And.intro hNt hq9.size); have HC3 := Lib.hid (HC2.out.1.trans (hq9.mono HC2.out.1.size)); clear hW hNt hq9))
      go_wp2_with (fail)
      go_ret
      have hwY : Below w.heap.size w Y := HX.out.2.2.2.2.2.2.2.2.2.1.trans (HY.out.1.mono HX.out.2.2.2.2.2.2.2.2.2.1.size)
      rw [HV1.out.2.2.2.2, HV2.out.2.2.2.2]
      exact ⟨v9, rfl, HF.out.1.base (by have := hwY.size; have := HC2.out.1.size; omega), hwY.trans (HC3.out.mono hwY.size)⟩
    · have hn7 := prod_len (w := w6) (A := A7) (c := c7) ((HB2.out.2.2.2.1.sc HB2.out.2.1).1) HB2.out.2.1 HB2.out.2.2.1 (HX.out.2.2.2.1.lt HLn.out.1) (HX.out.2.2.2.2.1.lt HLn.out.2) hh5
      have HY0 : Hid (KY X ((w6.setCell ⟨w5.heap.size, 0, none⟩ (.bool (xor t1 t2))).setCell ⟨w5.heap.size, 1, none⟩ (.slice A7 n7 c7)) (w5.heap.size) (xor t1 t2) A7 n7 c7 z7 (V z5 * V z6)) := KY.mk1 HB2.out.1 HB1.out.1.size HP.out HB2.out.2.2.2.1 HB2.out.2.1 HB2.out.2.2.1 (by simp) (by omega) HB2.out.2.2.2.2
      obtain ⟨Y, hY⟩ : ∃ Y, (w6.setCell ⟨w5.heap.size, 0, none⟩ (.bool (xor t1 t2))).setCell ⟨w5.heap.size, 1, none⟩ (.slice A7 n7 c7) = Y := ⟨_, rfl⟩
      rw [hY] at HY0 ⊢
      obtain ⟨b3, hb3⟩ : ∃ b3, w5.heap.size = b3 := ⟨_, rfl⟩
      rw [hb3] at HY0 ⊢
      have HY := Lib.hid HY0.out
      clear HY0 hn7
      clear HB1 HB2 HP p0 f0 p1 f1 hY hb3
      clear HLn
      go_wp2_with (fail)
      go_region_held3 (fun w' => w'.cell? ⟨b3, 0, none⟩ = some (.bool (xor t1 t2)) ∧ w'.cell? ⟨b3, 1, none⟩ = some (.slice A7 n7 c7) ∧ w'.cell? ⟨pp, 0, none⟩ = some (.func (.func 68) #[] #[.pointer (some ⟨pl, 0, none⟩), .pointer (some ⟨pp, 0, none⟩)]))
        ((refine HX.out.s8 HY.out ?_; first | exact below_dr (Below.refl _ _) | exact HC3.out | exact HC2.out.1 | exact HC1.out.1))
        (first
          | (go_at_call 68; (with_reducible show Calls _ _ _ (World.drew Y) _); refine (HI.out A1 A3 k1 k3 c1 c3 l1 l3 Y.drew (by have := HS.out; have := HV1.out.2.2.1; omega) (by have := HS.out; have := HV2.out.2.2.1; omega) (HX.out.2.2.2.2.2.1.below (below_dr HY.out.1)) (HX.out.2.2.2.2.2.2.2.1.below (below_dr HY.out.1)) (HX.out.1.below (below_dr HY.out.1)) (Room.lt HX.out.2.2.2.2.2.1.1 HX.out.2.2.2.2.2.2.2.1.1 (by have := HS.out; have := HV1.out.2.2.1; have := HV2.out.2.2.1; omega))).mono ?_; rintro e w7 ⟨v, rfl, hN2, hq2⟩; obtain ⟨A8, n8, c8, z8, rfl, s8, cn8, hv8, -⟩ := hN2.sl; have HC1 : Hid (Below Y.heap.size Y w7 ∧ Sl w7 A8 n8 c8 z8 ∧ Cn z8 ∧ V z8 = V l1 * V l3) := ⟨belowA hq2, s8, cn8, hv8⟩; clear hN2 hq2 s8 cn8 hv8)
          | (go_at_call 68; (with_reducible show Calls _ _ _ w7 _); have hal := HY.out.1.trans (HC1.out.1.mono HY.out.1.size); refine (HI.out A2 A4 k2 k4 c2 c4 l2 l4 w7 (by have := HS.out; have := HV1.out.2.2.2.1; omega) (by have := HS.out; have := HV2.out.2.2.2.1; omega) (HX.out.2.2.2.2.2.2.1.below hal) (HX.out.2.2.2.2.2.2.2.2.1.below hal) (HX.out.1.below hal) (Room.lt HX.out.2.2.2.2.2.2.1.1 HX.out.2.2.2.2.2.2.2.2.1.1 (by have := HS.out; have := HV1.out.2.2.2.1; have := HV2.out.2.2.2.1; omega))).mono ?_; rintro e w8 ⟨v, rfl, hN2, hq2⟩; obtain ⟨A9, n9, c9, z9, rfl, s9, cn9, hv9, -⟩ := hN2.sl; have HC2 : Hid (Below Y.heap.size Y w8 ∧ Sl w8 A8 n8 c8 z8 ∧ Sl w8 A9 n9 c9 z9 ∧ Cn z9 ∧ V z9 = V l2 * V l4) := ⟨HC1.out.1.trans (hq2.mono HC1.out.1.size), HC1.out.2.1.below hq2, s9, cn9, hv9⟩; clear hN2 hq2 s9 cn9 hv9 hal)
          | (go_at_call 72; refine (fromHalves_ok A8 A9 A7 n8 n9 n7 c8 c9 c7 z8 z9 z7 (xor t1 t2) h w8 (prod_len HC2.out.2.1 HC1.out.2.2.1 HC1.out.2.2.2 (HV1.out.1.lt HV1.out.2.2.1) (HV2.out.1.lt HV2.out.2.2.1) hh5) (prod_len HC2.out.2.2.1 HC2.out.2.2.2.1 HC2.out.2.2.2.2 (HV1.out.2.1.lt HV1.out.2.2.2.1) (HV2.out.2.1.lt HV2.out.2.2.2.1) hh5) (by have := HY.out.2.2.2.2.2; omega) (by omega) HC2.out.2.1 HC2.out.2.2.1 (HY.out.2.2.1.1.below HC2.out.1)).mono ?_; rintro e w9 hW; obtain ⟨v9, rfl, hNt, hq9⟩ := hW.nat (halves_sum HC1.out.2.2.2 HC2.out.2.2.2.2 (by rw [HY.out.2.2.2.1, sgn_mul, ← HSg.out.1, ← HSg.out.2])); have HF := Lib.hid (And.intro hNt hq9.size); have HC3 := Lib.hid (HC2.out.1.trans (hq9.mono HC2.out.1.size)); clear hW hNt hq9))
      go_wp2_with (fail)
      go_ret
      have hwY : Below w.heap.size w Y := HX.out.2.2.2.2.2.2.2.2.2.1.trans (HY.out.1.mono HX.out.2.2.2.2.2.2.2.2.2.1.size)
      rw [HV1.out.2.2.2.2, HV2.out.2.2.2.2]
      exact ⟨v9, rfl, HF.out.1.base (by have := hwY.size; have := HC2.out.1.size; omega), hwY.trans (HC3.out.mono hwY.size)⟩
    · have hn7 := prod_len (w := w6) (A := A7) (c := c7) ((HB2.out.2.2.2.1.sc HB2.out.2.1).1) HB2.out.2.1 HB2.out.2.2.1 (HX.out.2.2.2.1.lt HLn.out.1) (HX.out.2.2.2.2.1.lt HLn.out.2) hh5
      have HY0 : Hid (KY X ((w6.setCell ⟨X.heap.size, 0, none⟩ (.bool (xor t1 t2))).setCell ⟨X.heap.size, 1, none⟩ (.slice A7 n7 c7)) (X.heap.size) (xor t1 t2) A7 n7 c7 z7 (V z5 * V z6)) := KY.mk1 HB2.out.1 (Nat.le_refl _) HP.out HB2.out.2.2.2.1 HB2.out.2.1 HB2.out.2.2.1 HO.out (by omega) HB2.out.2.2.2.2
      obtain ⟨Y, hY⟩ : ∃ Y, (w6.setCell ⟨X.heap.size, 0, none⟩ (.bool (xor t1 t2))).setCell ⟨X.heap.size, 1, none⟩ (.slice A7 n7 c7) = Y := ⟨_, rfl⟩
      rw [hY] at HY0 ⊢
      obtain ⟨b3, hb3⟩ : ∃ b3, X.heap.size = b3 := ⟨_, rfl⟩
      rw [hb3] at HY0 ⊢
      have HY := Lib.hid HY0.out
      clear HY0 hn7
      clear HB1 HB2 HO HP p0 f0 p1 f1 hY hb3
      clear HLn
      go_wp2_with (fail)
      go_region_held3 (fun w' => w'.cell? ⟨b3, 0, none⟩ = some (.bool (xor t1 t2)) ∧ w'.cell? ⟨b3, 1, none⟩ = some (.slice A7 n7 c7) ∧ w'.cell? ⟨pp, 0, none⟩ = some (.func (.func 68) #[] #[.pointer (some ⟨pl, 0, none⟩), .pointer (some ⟨pp, 0, none⟩)]))
        ((refine HX.out.s8 HY.out ?_; first | exact below_dr (Below.refl _ _) | exact HC3.out | exact HC2.out.1 | exact HC1.out.1))
        (first
          | (go_at_call 68; (with_reducible show Calls _ _ _ (World.drew Y) _); refine (HI.out A1 A3 k1 k3 c1 c3 l1 l3 Y.drew (by have := HS.out; have := HV1.out.2.2.1; omega) (by have := HS.out; have := HV2.out.2.2.1; omega) (HX.out.2.2.2.2.2.1.below (below_dr HY.out.1)) (HX.out.2.2.2.2.2.2.2.1.below (below_dr HY.out.1)) (HX.out.1.below (below_dr HY.out.1)) (Room.lt HX.out.2.2.2.2.2.1.1 HX.out.2.2.2.2.2.2.2.1.1 (by have := HS.out; have := HV1.out.2.2.1; have := HV2.out.2.2.1; omega))).mono ?_; rintro e w7 ⟨v, rfl, hN2, hq2⟩; obtain ⟨A8, n8, c8, z8, rfl, s8, cn8, hv8, -⟩ := hN2.sl; have HC1 : Hid (Below Y.heap.size Y w7 ∧ Sl w7 A8 n8 c8 z8 ∧ Cn z8 ∧ V z8 = V l1 * V l3) := ⟨belowA hq2, s8, cn8, hv8⟩; clear hN2 hq2 s8 cn8 hv8)
          | (go_at_call 68; (with_reducible show Calls _ _ _ w7 _); have hal := HY.out.1.trans (HC1.out.1.mono HY.out.1.size); refine (HI.out A2 A4 k2 k4 c2 c4 l2 l4 w7 (by have := HS.out; have := HV1.out.2.2.2.1; omega) (by have := HS.out; have := HV2.out.2.2.2.1; omega) (HX.out.2.2.2.2.2.2.1.below hal) (HX.out.2.2.2.2.2.2.2.2.1.below hal) (HX.out.1.below hal) (Room.lt HX.out.2.2.2.2.2.2.1.1 HX.out.2.2.2.2.2.2.2.2.1.1 (by have := HS.out; have := HV1.out.2.2.2.1; have := HV2.out.2.2.2.1; omega))).mono ?_; rintro e w8 ⟨v, rfl, hN2, hq2⟩; obtain ⟨A9, n9, c9, z9, rfl, s9, cn9, hv9, -⟩ := hN2.sl; have HC2 : Hid (Below Y.heap.size Y w8 ∧ Sl w8 A8 n8 c8 z8 ∧ Sl w8 A9 n9 c9 z9 ∧ Cn z9 ∧ V z9 = V l2 * V l4) := ⟨HC1.out.1.trans (hq2.mono HC1.out.1.size), HC1.out.2.1.below hq2, s9, cn9, hv9⟩; clear hN2 hq2 s9 cn9 hv9 hal)
          | (go_at_call 72; refine (fromHalves_ok A8 A9 A7 n8 n9 n7 c8 c9 c7 z8 z9 z7 (xor t1 t2) h w8 (prod_len HC2.out.2.1 HC1.out.2.2.1 HC1.out.2.2.2 (HV1.out.1.lt HV1.out.2.2.1) (HV2.out.1.lt HV2.out.2.2.1) hh5) (prod_len HC2.out.2.2.1 HC2.out.2.2.2.1 HC2.out.2.2.2.2 (HV1.out.2.1.lt HV1.out.2.2.2.1) (HV2.out.2.1.lt HV2.out.2.2.2.1) hh5) (by have := HY.out.2.2.2.2.2; omega) (by omega) HC2.out.2.1 HC2.out.2.2.1 (HY.out.2.2.1.1.below HC2.out.1)).mono ?_; rintro e w9 hW; obtain ⟨v9, rfl, hNt, hq9⟩ := hW.nat (halves_sum HC1.out.2.2.2 HC2.out.2.2.2.2 (by rw [HY.out.2.2.2.1, sgn_mul, ← HSg.out.1, ← HSg.out.2])); have HF := Lib.hid (And.intro hNt hq9.size); have HC3 := Lib.hid (HC2.out.1.trans (hq9.mono HC2.out.1.size)); clear hW hNt hq9))
      go_wp2_with (fail)
      go_ret
      have hwY : Below w.heap.size w Y := HX.out.2.2.2.2.2.2.2.2.2.1.trans (HY.out.1.mono HX.out.2.2.2.2.2.2.2.2.2.1.size)
      rw [HV1.out.2.2.2.2, HV2.out.2.2.2.2]
      exact ⟨v9, rfl, HF.out.1.base (by have := hwY.size; have := HC2.out.1.size; omega), hwY.trans (HC3.out.mono hwY.size)⟩
end Go.Proofs.YthpgdpkemnhneaaGreatDoor
