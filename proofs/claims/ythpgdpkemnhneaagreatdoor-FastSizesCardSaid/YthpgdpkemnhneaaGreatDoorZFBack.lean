/- The contract of fast.back. -/
import Derived.Test.YthpgdpkemnhneaaGreatDoorP9
import Derived.Deep.MidRow
namespace Go.Proofs.YthpgdpkemnhneaaGreatDoor
open Go.RowKit Go.Shelf
set_option linter.unusedVariables false
set_option linter.unusedSimpArgs false
set_option maxRecDepth 10000

theorem wt_len {m : Nat} {a b c d e p q r s t : Int} (ha : a.natAbs < B64 ^ m) (hb : b.natAbs < B64 ^ m) (hc : c.natAbs < B64 ^ m) (hd : d.natAbs < B64 ^ m) (he : e.natAbs < B64 ^ m)
    (hw : ([p, q, r, s, t].map Int.natAbs).sum ≤ 1000) {g : Bool} {zs : List Nat} (hz : Ws zs) (hn : Cn zs) (hv : a * p + (b * q + (c * r + (d * s + e * t))) = sgn g (V zs)) : zs.length ≤ m + 1 := by
  rw [Cn_len hz hn (m + 1)]
  have h0 : V zs = (a * p + (b * q + (c * r + (d * s + e * t)))).natAbs := by rw [hv, sgn_abs]
  have h1 : ∀ x y : Int, x.natAbs < B64 ^ m → (x * y).natAbs ≤ y.natAbs * B64 ^ m := fun x y h => by
    rw [Int.natAbs_mul, Nat.mul_comm]
    exact Nat.mul_le_mul_left _ (Nat.le_of_lt h)
  have k1 := h1 a p ha
  have k2 := h1 b q hb
  have k3 := h1 c r hc
  have k4 := h1 d s hd
  have k5 := h1 e t he
  have a1 := Int.natAbs_add_le (a * p) (b * q + (c * r + (d * s + e * t)))
  have a2 := Int.natAbs_add_le (b * q) (c * r + (d * s + e * t))
  have a3 := Int.natAbs_add_le (c * r) (d * s + e * t)
  have a4 := Int.natAbs_add_le (d * s) (e * t)
  have hs : p.natAbs + (q.natAbs + (r.natAbs + (s.natAbs + t.natAbs))) ≤ 1000 := by simpa using hw
  have hm := Nat.mul_le_mul_right (B64 ^ m) hs
  simp only [Nat.add_mul] at hm
  have hp : 0 < B64 ^ m := Nat.lt_of_le_of_lt (Nat.zero_le _) ha
  have hlt : 1000 * B64 ^ m < B64 * B64 ^ m := Nat.mul_lt_mul_of_pos_right (by decide) hp
  rw [Nat.pow_succ, Nat.mul_comm (B64 ^ m) B64]
  omega

theorem below_drw {B : Nat} {a w : World} (h : Below B a w) : Below B a w.drew := ⟨h.os, h.tape, h.output, h.size, h.block⟩
theorem nw_fresh {w w' : World} {A : Option Addr} {n c : Nat} {zs : List Nat} (h : Nw w w' (.slice A n c) n zs) : ∀ a, A = some a → w.heap.size ≤ a.block := fun a e => by
  have := h.2.2.lt a.block (by rw [e]; rfl)
  exact this.1
theorem sgn_dvd (s : Bool) (x d : Nat) : (d : Int) ∣ sgn s x ↔ d ∣ x := by
  cases s <;> simp [sgn, Int.dvd_neg, Int.natCast_dvd_natCast]
theorem Sg.div {X W3 W4 : World} {s : Bool} {A A' : Option Addr} {n c k c' d : Nat} {zs us : List Nat} {S : Int} (h : Sg X W3 s A n c zs S) (hN : Nw X W4 (.slice A' k c') k us) (hc : Cn us) (hv : V us = V zs / d) (hd : 0 < d) (hz : V zs % d = 0) :
    Sg X W4 s A' k c' us (S / d) ∧ (d : Int) ∣ S := by
  have hdv : d ∣ V zs := Nat.dvd_of_mod_eq_zero hz
  rw [h.2.2.1]
  refine ⟨⟨hN, hc, ?_, fun hs => ?_⟩, (sgn_dvd _ _ _).2 hdv⟩
  · rw [hv]
    cases s
    · simp [sgn]
    · simp only [sgn, if_true]
      rw [Int.neg_ediv_of_dvd (Int.natCast_dvd_natCast.2 hdv)]
      simp
  · have h0 := h.2.2.2 hs
    rw [hv]
    have := Nat.div_pos (Nat.le_of_dvd (Nat.pos_of_ne_zero h0) hdv) hd
    omega
theorem Sg.ndvd {X W3 : World} {s : Bool} {A : Option Addr} {n c d : Nat} {zs : List Nat} {S : Int} (h : Sg X W3 s A n c zs S) (hz : V zs % d ≠ 0) : ¬ (d : Int) ∣ S := by
  rw [h.2.2.1, sgn_dvd]
  exact fun hd => hz (Nat.mod_eq_zero_of_dvd hd)

/-- the sums that back divides, and by what -/
def wtS (x : List Int) : List Int := match x with
  | [a, b, c, d, e] => [a, -3 * a + 6 * b - 2 * c - d + 12 * e, -2 * a + b + c - 2 * e, 3 * a - 3 * b - c + d - 12 * e, e]
  | _ => []
def dv : Nat → Nat
  | 1 => 6
  | 2 => 2
  | 3 => 6
  | _ => 1
/-- element i is one of the quotients -/
def QtI (x S : List Int) (i : Nat) : Prop := ∃ u, (wtS x)[i]? = some u ∧ (dv i : Int) ∣ u ∧ S[i]? = some (u / (dv i : Int))
/-- what back answers -/
def BackR (w w' : World) (z : Ending) (x : List Int) : Prop :=
  Below w.heap.size w w' ∧ ((∃ (a b c d e : Sn) (S : List Int), z = .returned (.tuple #[snV a b c d e, .bool true]) ∧ S.length = 5 ∧ (∀ i, i < 5 → QtI x S i) ∧ (∀ (i : Nat) (r : Sn) (s : Int), [a, b, c, d, e][i]? = some r → S[i]? = some s → Sg w w' r.s r.A r.n r.c r.xs s)) ∨
    ((∃ (i : Nat) (u : Int), (wtS x)[i]? = some u ∧ ¬ (dv i : Int) ∣ u) ∧ z = .returned (.tuple #[.agg zero10.toArray, .bool false])))
/-- between two rounds of back -/
def BvI (w X W : World) (a b c d e : Sn) (k : Nat) (R : List Sn) (S : List Int) : Prop :=
  Arr X W (w.heap.size + 2) R S ∧ (∀ i, i < k → QtI [a.v, b.v, c.v, d.v, e.v] S i) ∧ Bk W w.heap.size (snL a b c d e) ∧ Bk W (w.heap.size + 1) zero10 ∧ Below w.heap.size w W ∧ w.heap.size + 3 = X.heap.size
theorem BvI.next {w X W W' : World} {a b c d e : Sn} {k : Nat} {R : List Sn} {S : List Int} {r : Sn} {u : Int} (hk : k < 5) (h : BvI w X W a b c d e k R S) (hb : Below W.heap.size W W') (hr : Sg X W' r.s r.A r.n r.c r.xs (u / (dv k : Int))) (hd : (dv k : Int) ∣ u) (hs : (wtS [a.v, b.v, c.v, d.v, e.v])[k]? = some u) :
    BvI w X ((W'.setCell ⟨w.heap.size + 2, 2 * k, none⟩ (.bool r.s)).setCell ⟨w.heap.size + 2, 2 * k + 1, none⟩ (.slice r.A r.n r.c)) a b c d e (k + 1) (R.set k r) (S.set k (u / (dv k : Int))) := by
  obtain ⟨h1, h2, h3, h4, h5, h6⟩ := h
  have hs1 : w.heap.size + 3 ≤ W.heap.size := by rw [h6]; exact h1.2.2.2.2.1
  refine ⟨(h1.below hb).set k r _ hk hr, fun i hi => ?_, ((h3.below hb (by omega)).far (by omega) _ _).far (by omega) _ _, ((h4.below hb (by omega)).far (by omega) _ _).far (by omega) _ _, ((h5.trans (hb.mono (by omega))).setCell (p := ⟨w.heap.size + 2, 2 * k, none⟩) (by show w.heap.size ≤ w.heap.size + 2; omega) _).setCell (p := ⟨w.heap.size + 2, 2 * k + 1, none⟩) (by show w.heap.size ≤ w.heap.size + 2; omega) _, h6⟩
  by_cases hik : i = k
  · subst hik
    exact ⟨u, hs, hd, by rw [List.getElem?_set_self (by rw [h1.2.2.1]; exact hk)]⟩
  · obtain ⟨v, e1, e2, e3⟩ := h2 i (by omega)
    exact ⟨v, e1, e2, by rw [List.getElem?_set_ne (by omega)]; exact e3⟩
/-- what a round reads -/
def SB (v bw k : Nat) (L M : List Value) (u : Value) (W : World) : Prop := W.rangeAt v 0 L ∧ W.rangeAt bw 0 M ∧ W.cell? ⟨2, k, none⟩ = some u
theorem range_below {W W' : World} {g : Nat} {vs : List Value} (h : W.rangeAt g 0 vs) (hb : Below W.heap.size W W') : W'.rangeAt g 0 vs := Tb.below h hb
theorem SB.below {v bw k : Nat} {L M : List Value} {u : Value} {W W' : World} (h : SB v bw k L M u W) (hb : Below W.heap.size W W') : SB v bw k L M u W' :=
  ⟨range_below h.1 hb, range_below h.2.1 hb, (hb.cell (World.block_lt_of_cell? _ _ h.2.2)).trans h.2.2⟩
theorem back_done {w X W : World} {a b c d e r0 r1 r2 r3 r4 : Sn} {S : List Int} (h : BvI w X W a b c d e 5 [r0, r1, r2, r3, r4] S) :
    BackR w (W.setCells (w.heap.size + 1) 0 (snL r0 r1 r2 r3 r4)) (.returned (.tuple #[snV r0 r1 r2 r3 r4, .bool true])) [a.v, b.v, c.v, d.v, e.v] := by
  obtain ⟨h1, h2, h3, h4, h5, h6⟩ := h
  refine ⟨below_setCells h5 (by omega) _ _ h5.size, Or.inl ⟨r0, r1, r2, r3, r4, S, rfl, h1.2.2.1, h2, fun i r s hi hs => ?_⟩⟩
  exact ((h1.2.2.2.2.2 i r s hi hs).setCells (by omega) _ _).base (by omega)
theorem back_not {w X W W' : World} {a b c d e : Sn} {k : Nat} {R : List Sn} {S : List Int} {u : Int} {p q : Value} {i j : Nat} (h : BvI w X W a b c d e k R S) (hb : Below W.heap.size W W') (hd : ¬ (dv k : Int) ∣ u) (hs : (wtS [a.v, b.v, c.v, d.v, e.v])[k]? = some u) (vs : List Value) :
    BackR w (((W'.setCell ⟨w.heap.size + 2, i, none⟩ p).setCell ⟨w.heap.size + 2, j, none⟩ q).setCells (w.heap.size + 1) 0 vs) (.returned (.tuple #[.agg zero10.toArray, .bool false])) [a.v, b.v, c.v, d.v, e.v] := by
  obtain ⟨h1, h2, h3, h4, h5, h6⟩ := h
  have hk := ((h5.trans (hb.mono h5.size)).setCell (p := ⟨w.heap.size + 2, i, none⟩) (by show w.heap.size ≤ w.heap.size + 2; omega) p).setCell (p := ⟨w.heap.size + 2, j, none⟩) (by show w.heap.size ≤ w.heap.size + 2; omega) q
  exact ⟨below_setCells hk (by omega) _ _ hk.size, Or.inr ⟨⟨k, u, hs, hd⟩, rfl⟩⟩
theorem back_there {w X W W' : World} {a b c d e : Sn} {k : Nat} {R : List Sn} {S : List Int} {p q : Value} {i j : Nat} (h : BvI w X W a b c d e k R S) (hb : Below W.heap.size W W') :
    ((W'.setCell ⟨w.heap.size + 2, i, none⟩ p).setCell ⟨w.heap.size + 2, j, none⟩ q).there (w.heap.size + 1) 0 zero10.length := by
  obtain ⟨h1, h2, h3, h4, h5, h6⟩ := h
  have hs1 : w.heap.size + 3 ≤ W.heap.size := by rw [h6]; exact h1.2.2.2.2.1
  exact (((h4.below hb (by omega)).far (by omega) _ _).far (by omega) _ _).there

set_option maxHeartbeats 8000000 in
theorem back_ok (a b c d e : Sn) (w : World) (ha : a.ok w) (hb : b.ok w) (hc : c.ok w) (hd : d.ok w) (he : e.ok w) (hT : TabF w) :
    Calls Tryz.prog 35 #[snV a b c d e] w fun z w' => BackR w w' z [a.v, b.v, c.v, d.v, e.v] := by
  have Hx := Lib.hid (And.intro ha (And.intro hb (And.intro hc (And.intro hd (And.intro he hT)))))
  have hmix : Tryz.prog.follows Departure.mixedOrders = true := by kernel_rfl
  have HL : ∀ (g : Bool) (zs : List Nat) (p q r s t : Int), ([p, q, r, s, t].map Int.natAbs).sum ≤ 1000 → Ws zs → Cn zs → a.v * p + (b.v * q + (c.v * r + (d.v * s + e.v * t))) = sgn g (V zs) → zs.length ≤ 40000 + 1 := by
    intro g zs p q r s t hw hz hn hv
    obtain ⟨m, hm⟩ : ∃ m, m = 40000 := ⟨_, rfl⟩
    have hlt : ∀ x : Sn, x.ok w → x.v.natAbs < B64 ^ m := fun x hx => by
      rw [Sn.v, sgn_abs]
      exact Nat.lt_of_lt_of_le (V_lt _ hx.1.2.2.2.1) (Nat.pow_le_pow_right (by decide) (by rw [hx.1.1, hm]; exact hx.2))
    have h := wt_len (m := m) (hlt a ha) (hlt b hb) (hlt c hc) (hlt d hd) (hlt e he) hw hz hn hv
    omega
  have HL := Lib.hid HL
  clear ha hb hc hd he hT
  have hbX : Below w.heap.size w (X5 w a b c d e) := (((Below.refl _ _).alloc (Nat.le_refl _) _).alloc (by simp) _).alloc (by simp; omega) _
  have HT := Lib.hid (Hx.out.2.2.2.2.2.2.1.below hbX)
  have H0 : Hid (BvI w (X5 w a b c d e) (X5 w a b c d e) a b c d e 0 [Sn.zero, Sn.zero, Sn.zero, Sn.zero, Sn.zero] [0, 0, 0, 0, 0]) := by
    have k1 := ((Bk.new w (snL a b c d e) 72).below ((Below.refl _ _).alloc (Nat.le_refl _) (.cells zero10.toArray 72)) (by simp)).below ((Below.refl _ _).alloc (Nat.le_refl _) (.cells zero10.toArray 72)) (by simp; omega)
    have k2 := (Bk.new (w.alloc (.cells (snL a b c d e).toArray 72)) zero10 72).below ((Below.refl _ _).alloc (Nat.le_refl _) (.cells zero10.toArray 72)) (by simp)
    have k3 := Bk.new ((w.alloc (.cells (snL a b c d e).toArray 72)).alloc (.cells zero10.toArray 72)) zero10 72
    simp only [World.size_alloc] at k2 k3
    exact ⟨Arr.start _ _ _ k3 (by simp only [X5, World.size_alloc]; omega) (Nat.le_refl _), fun i hi => absurd hi (by omega), k1, k2, hbX, by simp only [X5, World.size_alloc]⟩
  go_enter Tryz.func35, Tryz.ntmps35
  go_wp2_with (refine wpList_load_mid rfl 102 _ rfl 1 0 rfl (ivs5 backL) _ HT.out Tryz.underlying102 rfl (by kernel_rfl) ?_)
  clear hbX
  go_loopw [5, 6, 7, 9] (fun _ _ _ iv wr => ∃ (k : Nat) (R : List Sn) (S : List Int), k ≤ 5 ∧ iv = .int .i64 k ∧ Hid (BvI w (X5 w a b c d e) wr a b c d e k R S)) (fun _ _ _ iv _ => 5 - (intOf iv).toNat)
  case atStart => exact ⟨0, _, _, by omega, rfl, H0⟩
  case round =>
    clear H0 HT
    obtain ⟨k, R, S, hk, rfl, H⟩ := hrel
    obtain ⟨X, hX⟩ : ∃ X, X5 w a b c d e = X := ⟨_, rfl⟩
    rw [hX] at H ⊢
    rcases (show k = 0 ∨ k = 1 ∨ k = 2 ∨ k = 3 ∨ k = 4 ∨ k = 5 by omega) with rfl | rfl | rfl | rfl | rfl | rfl
    · have hR5 := H.out.1.2.1
      obtain ⟨x0, hx0⟩ : ∃ x0, (R.flatMap sncs)[0]? = some x0 := ⟨_, List.getElem?_eq_getElem (by rw [flat_len, hR5]; omega)⟩
      obtain ⟨x1, hx1⟩ : ∃ x1, (R.flatMap sncs)[1]? = some x1 := ⟨_, List.getElem?_eq_getElem (by rw [flat_len, hR5]; omega)⟩
      clear hR5
      have HX := Lib.hid (And.intro hx0 hx1)
      clear hx0 hx1
      go_wp2_with (first | (refine wpList_index rfl rfl (.agg #[.int .i64 1, .int .i64 0, .int .i64 0, .int .i64 0, .int .i64 0]) (fun w => by kernel_rfl) ?_))
      obtain ⟨W1, hW1⟩ : ∃ W1, wr.alloc (.cells #[.int .i64 1, .int .i64 0, .int .i64 0, .int .i64 0, .int .i64 0] 101) = W1 := ⟨_, rfl⟩
      have HB : Hid (Below wr.heap.size wr W1 ∧ W1.heap.size = wr.heap.size + 1 ∧ w.heap.size + 3 ≤ wr.heap.size ∧ Below w.heap.size w W1) := by
        rw [← hW1]
        have h1 : w.heap.size + 3 ≤ wr.heap.size := by have := H.out.1.2.2.2.2.1; have := H.out.2.2.2.2.2; omega
        exact ⟨(Below.refl _ _).alloc (Nat.le_refl _) _, by simp, h1, H.out.2.2.2.2.1.alloc H.out.2.2.2.2.1.size _⟩
      have HS0 : Hid (SB w.heap.size wr.heap.size 0 (snL a b c d e) [.int .i64 1, .int .i64 0, .int .i64 0, .int .i64 0, .int .i64 0] (.int .u64 1) W1.drew) := by
        have hT := (Hx.out.2.2.2.2.2.2.2.below HB.out.2.2.2) 0 _ rfl
        have hr := range_below H.out.2.2.1.range HB.out.1
        have hq := (Bk.new wr [.int .i64 1, .int .i64 0, .int .i64 0, .int .i64 0, .int .i64 0] 101).range
        rw [hW1] at hq
        exact ⟨hr, hq, hT⟩
      rw [hW1]
      clear hW1
      refine wp_region_M 12 (SB w.heap.size wr.heap.size 0 (snL a b c d e) [.int .i64 1, .int .i64 0, .int .i64 0, .int .i64 0, .int .i64 0] (.int .u64 1)) hmix ?_
      refine wpAnyM_take (i := 0) (v := ?_) rfl rfl (by kernel_rfl) (by kernel_rfl) (by kernel_rfl) (by kernel_rfl) (by kernel_rfl) (by kernel_rfl) (fun _ _ _ h => h) HS0.out (Or.inl ⟨by rfl, ?_⟩) ?_
      rotate_left
      · rintro w ⟨q0, q1, q2⟩; go_simp; try with_reducible rfl
      try simp only [Act.put, List.getElem_toArray, List.getElem_cons_zero, List.getElem_cons_succ, List.setIfInBounds_toArray, List.set_cons_zero, List.set_cons_succ]
      refine wpAnyM_take (i := 1) rfl rfl (by kernel_rfl) (by kernel_rfl) (by kernel_rfl) (by kernel_rfl) (by kernel_rfl) (by kernel_rfl) (fun _ _ _ h => h) HS0.out (yieldsIf_load_mid (by rfl) 72 _ rfl w.heap.size 0 rfl (snL a b c d e) _ (fun _ h => h.1) Tryz.underlying72 rfl (by kernel_rfl)) ?_
      try simp only [Act.put, List.getElem_toArray, List.getElem_cons_zero, List.getElem_cons_succ, List.setIfInBounds_toArray, List.set_cons_zero, List.set_cons_succ]
      refine wpAnyM_take (i := 2) rfl rfl (by kernel_rfl) (by kernel_rfl) (by kernel_rfl) (by kernel_rfl) (by kernel_rfl) (by kernel_rfl) (fun _ _ _ h => h) HS0.out (yieldsIf_load_mid (by rfl) 101 _ rfl wr.heap.size 0 rfl [.int .i64 1, .int .i64 0, .int .i64 0, .int .i64 0, .int .i64 0] _ (fun _ h => h.2.1) Tryz.underlying101 rfl (by kernel_rfl)) ?_
      try simp only [Act.put, List.getElem_toArray, List.getElem_cons_zero, List.getElem_cons_succ, List.setIfInBounds_toArray, List.set_cons_zero, List.set_cons_succ]
      refine wpAnyM_take (i := 4) (v := ?_) rfl rfl (by kernel_rfl) (by kernel_rfl) (by kernel_rfl) (by kernel_rfl) (by kernel_rfl) (by kernel_rfl) (fun _ _ _ h => h) HS0.out (Or.inl ⟨by rfl, ?_⟩) ?_
      rotate_left
      · rintro w ⟨q0, q1, q2⟩; go_simp; try with_reducible rfl
      try simp only [Act.put, List.getElem_toArray, List.getElem_cons_zero, List.getElem_cons_succ, List.setIfInBounds_toArray, List.set_cons_zero, List.set_cons_succ]
      refine wpAnyM_take (i := 5) (v := ?_) rfl rfl (by kernel_rfl) (by kernel_rfl) (by kernel_rfl) (by kernel_rfl) (by kernel_rfl) (by kernel_rfl) (fun _ _ _ h => h) HS0.out (Or.inl ⟨by rfl, ?_⟩) ?_
      rotate_left
      · rintro w ⟨q0, q1, q2⟩; go_simp; try with_reducible rfl
      try simp only [Act.put, List.getElem_toArray, List.getElem_cons_zero, List.getElem_cons_succ, List.setIfInBounds_toArray, List.set_cons_zero, List.set_cons_succ]
      refine wpAnyM_take (i := 6) (v := ?_) rfl rfl (by kernel_rfl) (by kernel_rfl) (by kernel_rfl) (by kernel_rfl) (by kernel_rfl) (by kernel_rfl) (fun _ _ _ h => h) HS0.out (Or.inl ⟨by rfl, ?_⟩) ?_
      rotate_left
      · rintro w ⟨q0, q1, q2⟩; go_simp; try with_reducible rfl
      try simp only [Act.put, List.getElem_toArray, List.getElem_cons_zero, List.getElem_cons_succ, List.setIfInBounds_toArray, List.set_cons_zero, List.set_cons_succ]
      refine wpAnyM_one (i := 3) rfl (by kernel_rfl) (fun K hK => ?_)
      go_simp
      have hbw : Below w.heap.size w W1.drew := below_drw HB.out.2.2.2
      refine (weighed_ok a b c d e 1 0 0 0 0 W1.drew (Hx.out.1.below hbw) (Hx.out.2.1.below hbw) (Hx.out.2.2.1.below hbw) (Hx.out.2.2.2.1.below hbw) (Hx.out.2.2.2.2.1.below hbw) (by decide)).mono ?_
      rintro z w3 ⟨s3, A3, n3, c3, zs, rfl, hS, hb3⟩
      have hb3' : Below W1.heap.size W1 w3 := belowA hb3
      have HS3 : Hid (Sg X w3 s3 A3 n3 c3 zs (a.v * 1 + (b.v * 0 + (c.v * 0 + (d.v * 0 + e.v * 0)))) ∧ Below W1.heap.size W1 w3 ∧ n3 ≤ 40001 ∧ X.heap.size ≤ w3.heap.size ∧ ∀ a, A3 = some a → W1.heap.size ≤ a.block) := by
        have h2 := HL.out _ _ _ _ _ _ _ (by decide) hS.1.2.1 hS.2.1 hS.2.2.1
        have h3 : X.heap.size ≤ W1.heap.size := by have := H.out.1.2.2.2.2.1; have := HB.out.2.1; omega
        have h4 := hb3'.size
        refine ⟨hS.base h3, hb3', by rw [hS.1.1] at h2; omega, by omega, fun a ha => ?_⟩
        exact nw_fresh hS.1 a ha
      have HSb := Lib.hid (HS0.out.below hb3)
      have HS1 : Hid (SB w.heap.size wr.heap.size 0 (snL a b c d e) [.int .i64 1, .int .i64 0, .int .i64 0, .int .i64 0, .int .i64 0] (.int .u64 1) W1) := HS0.out
      clear hS hb3 hb3' hbw HS0
      refine hK.out _ _ (fun _ => HSb.out) ?_
      clear hK K
      try simp only [Act.put, List.getElem_toArray, List.getElem_cons_zero, List.getElem_cons_succ, List.setIfInBounds_toArray, List.set_cons_zero, List.set_cons_succ]
      refine wpAnyM_one (i := 7) rfl (by kernel_rfl) (fun K hK => ?_)
      go_simp
      refine (divided_one X s3 A3 n3 c3 zs w3 HS3.out.1.1 HS3.out.1.2.1).mono ?_
      rintro z w4 ⟨A4, k4, c4, us, rfl, hN, hCu, hVu, hbl⟩
      have hb4 : Below W1.heap.size w3 w4 := hbl W1.heap.size HS3.out.2.1.size HS3.out.2.2.2.2
      have HSd : Hid (SB w.heap.size wr.heap.size 0 (snL a b c d e) [.int .i64 1, .int .i64 0, .int .i64 0, .int .i64 0, .int .i64 0] (.int .u64 1) w4) := HS1.out.below (HS3.out.2.1.trans hb4)
      have HD := Lib.hid (And.intro hN (And.intro hCu (And.intro hVu (HB.out.1.trans ((HS3.out.2.1.trans hb4).mono HB.out.1.size)))))
      clear hN hCu hVu hbl hb4 HSb HS1
      refine hK.out _ _ (fun _ => HSd.out) ?_
      clear hK K
      obtain ⟨g, hg⟩ : ∃ g, decide (V zs % 1 = 0) = g := ⟨_, rfl⟩
      rw [hg]
      have Hg := Lib.hid hg
      clear hg
      have hA := H.out.1.below HD.out.2.2.2
      obtain ⟨p0, f0⟩ := hA.1 0 _ HX.out.1
      obtain ⟨p1, f1⟩ := hA.1 1 _ HX.out.2
      clear hA
      try simp only [Act.put, List.getElem_toArray, List.getElem_cons_zero, List.getElem_cons_succ, List.setIfInBounds_toArray, List.set_cons_zero, List.set_cons_succ]
      refine wpAnyM_take (i := 8) (v := ?_) rfl rfl (by kernel_rfl) (by kernel_rfl) (by kernel_rfl) (by kernel_rfl) (by kernel_rfl) (by kernel_rfl) (fun _ _ _ h => h) HSd.out (Or.inl ⟨by rfl, ?_⟩) ?_
      rotate_left
      · rintro w ⟨q0, q1, q2⟩; go_simp; try with_reducible rfl
      try simp only [Act.put, List.getElem_toArray, List.getElem_cons_zero, List.getElem_cons_succ, List.setIfInBounds_toArray, List.set_cons_zero, List.set_cons_succ]
      refine wpAnyM_take (i := 9) (v := ?_) rfl rfl (by kernel_rfl) (by kernel_rfl) (by kernel_rfl) (by kernel_rfl) (by kernel_rfl) (by kernel_rfl) (fun _ _ _ h => h) HSd.out (Or.inl ⟨by rfl, ?_⟩) ?_
      rotate_left
      · rintro w ⟨q0, q1, q2⟩; go_simp; try with_reducible rfl
      try simp only [Act.put, List.getElem_toArray, List.getElem_cons_zero, List.getElem_cons_succ, List.setIfInBounds_toArray, List.set_cons_zero, List.set_cons_succ]
      refine wpAnyM_take (i := 11) (v := ?_) rfl rfl (by kernel_rfl) (by kernel_rfl) (by kernel_rfl) (by kernel_rfl) (by kernel_rfl) (by kernel_rfl) (fun _ _ _ h => h) HSd.out (Or.inl ⟨by rfl, ?_⟩) ?_
      rotate_left
      · rintro w ⟨q0, q1, q2⟩; go_simp; try with_reducible rfl
      try simp only [Act.put, List.getElem_toArray, List.getElem_cons_zero, List.getElem_cons_succ, List.setIfInBounds_toArray, List.set_cons_zero, List.set_cons_succ]
      refine wpAnyM_ready [10, 12] (by kernel_rfl) (by simp) ?_
      intro i hi
      simp only [List.mem_cons, List.not_mem_nil, or_false] at hi
      rcases hi with rfl | rfl
      · refine ⟨_, rfl, fun K hK => ?_⟩
        go_simp
        refine hK.out _ _ (fun _ => HSd.out) ?_
        clear hK K
        try simp only [Act.put, List.getElem_toArray, List.getElem_cons_zero, List.getElem_cons_succ, List.setIfInBounds_toArray, List.set_cons_zero, List.set_cons_succ]
        refine wpAnyM_one (i := 12) rfl (by kernel_rfl) (fun K hK => ?_)
        go_simp
        refine hK.out _ _ (fun h => absurd h (by decide)) ?_
        clear hK K
        try simp only [Act.put, List.getElem_toArray, List.getElem_cons_zero, List.getElem_cons_succ, List.setIfInBounds_toArray, List.set_cons_zero, List.set_cons_succ]
        refine wpAnyM_one (i := 13) rfl (by kernel_rfl) (fun K hK => ?_)
        go_simp
        refine hK.out _ _ (fun h => absurd h (by decide)) ?_
        clear hK K
        try simp only [Act.put, List.getElem_toArray, List.getElem_cons_zero, List.getElem_cons_succ, List.setIfInBounds_toArray, List.set_cons_zero, List.set_cons_succ]
        refine wpAnyM_done (by kernel_rfl) ?_ _
        clear HSd
        by_cases hz : V zs % 1 = 0
        · obtain rfl : true = g := by rw [← Hg.out, decide_eq_true hz]
          obtain ⟨hS4, hdv⟩ := HS3.out.1.div HD.out.1 HD.out.2.1 HD.out.2.2.1 (d := 1) (by omega) hz
          have HN := Lib.hid (BvI.next (k := 0) (r := ⟨s3, A4, k4, c4, us⟩) (u := (a.v * 1 + (b.v * 0 + (c.v * 0 + (d.v * 0 + e.v * 0))))) (by omega) H.out HD.out.2.2.2 hS4 hdv (by simp [wtS]; try omega))
          clear hS4 hdv H HX HD HS3 p0 f0 p1 f1 HB
          go_wp2_with (fail)
          go_roundw
          case rel => exact ⟨1, _, _, by omega, rfl, HN⟩
          case measure => (simp [intOf]; try omega)
        · obtain rfl : false = g := by rw [← Hg.out, decide_eq_false hz]
          have hnd := HS3.out.1.ndvd (d := 1) hz
          have HN := Lib.hid (back_not (k := 0) (u := (a.v * 1 + (b.v * 0 + (c.v * 0 + (d.v * 0 + e.v * 0))))) (p := .bool s3) (q := .slice A4 k4 c4) (i := 0) (j := 1) H.out HD.out.2.2.2 hnd (by simp [wtS]; try omega) zero10)
          have HP := Lib.hid (back_there (p := .bool s3) (q := .slice A4 k4 c4) (i := 0) (j := 1) H.out HD.out.2.2.2)
          clear hnd H HX HD HS3 p0 f0 p1 f1 HB
          go_wp2_with (first | (refine wpList_store_mid rfl 72 _ _ rfl (w.heap.size + 1) 0 zero10.toArray rfl rfl HP.out (by kernel_rfl) (by simp [zero10, Value.oneCell']) ?_))
          have hl := run_loadVar_mid (P := Tryz.prog) (((w4.setCell ⟨w.heap.size + 2, 0, none⟩ (.bool s3)).setCell ⟨w.heap.size + 2, 1, none⟩ (.slice A4 k4 c4)).setCells (w.heap.size + 1) 0 zero10) (w.heap.size + 1) 0 72 zero10 _ (World.rangeAt_setCells_same _ _ _ _ HP.out) Tryz.underlying72 rfl (by kernel_rfl)
          exact bodyPost_ret (v := .tuple #[.agg zero10.toArray, .bool false]) (by simp [results, Tryz.results35, Act.put, asAddr, hl]) rfl HN.out
      · refine ⟨_, rfl, fun K hK => ?_⟩
        go_simp
        refine hK.out _ _ (fun h => absurd h (by decide)) ?_
        clear hK K
        try simp only [Act.put, List.getElem_toArray, List.getElem_cons_zero, List.getElem_cons_succ, List.setIfInBounds_toArray, List.set_cons_zero, List.set_cons_succ]
        refine wpAnyM_one (i := 10) rfl (by kernel_rfl) (fun K hK => ?_)
        go_simp
        refine hK.out _ _ (fun h => absurd h (by decide)) ?_
        clear hK K
        try simp only [Act.put, List.getElem_toArray, List.getElem_cons_zero, List.getElem_cons_succ, List.setIfInBounds_toArray, List.set_cons_zero, List.set_cons_succ]
        refine wpAnyM_one (i := 13) rfl (by kernel_rfl) (fun K hK => ?_)
        go_simp
        refine hK.out _ _ (fun h => absurd h (by decide)) ?_
        clear hK K
        try simp only [Act.put, List.getElem_toArray, List.getElem_cons_zero, List.getElem_cons_succ, List.setIfInBounds_toArray, List.set_cons_zero, List.set_cons_succ]
        refine wpAnyM_done (by kernel_rfl) ?_ _
        clear HSd
        by_cases hz : V zs % 1 = 0
        · obtain rfl : true = g := by rw [← Hg.out, decide_eq_true hz]
          obtain ⟨hS4, hdv⟩ := HS3.out.1.div HD.out.1 HD.out.2.1 HD.out.2.2.1 (d := 1) (by omega) hz
          have HN := Lib.hid (BvI.next (k := 0) (r := ⟨s3, A4, k4, c4, us⟩) (u := (a.v * 1 + (b.v * 0 + (c.v * 0 + (d.v * 0 + e.v * 0))))) (by omega) H.out HD.out.2.2.2 hS4 hdv (by simp [wtS]; try omega))
          clear hS4 hdv H HX HD HS3 p0 f0 p1 f1 HB
          go_wp2_with (fail)
          go_roundw
          case rel => exact ⟨1, _, _, by omega, rfl, HN⟩
          case measure => (simp [intOf]; try omega)
        · obtain rfl : false = g := by rw [← Hg.out, decide_eq_false hz]
          have hnd := HS3.out.1.ndvd (d := 1) hz
          have HN := Lib.hid (back_not (k := 0) (u := (a.v * 1 + (b.v * 0 + (c.v * 0 + (d.v * 0 + e.v * 0))))) (p := .bool s3) (q := .slice A4 k4 c4) (i := 0) (j := 1) H.out HD.out.2.2.2 hnd (by simp [wtS]; try omega) zero10)
          have HP := Lib.hid (back_there (p := .bool s3) (q := .slice A4 k4 c4) (i := 0) (j := 1) H.out HD.out.2.2.2)
          clear hnd H HX HD HS3 p0 f0 p1 f1 HB
          go_wp2_with (first | (refine wpList_store_mid rfl 72 _ _ rfl (w.heap.size + 1) 0 zero10.toArray rfl rfl HP.out (by kernel_rfl) (by simp [zero10, Value.oneCell']) ?_))
          have hl := run_loadVar_mid (P := Tryz.prog) (((w4.setCell ⟨w.heap.size + 2, 0, none⟩ (.bool s3)).setCell ⟨w.heap.size + 2, 1, none⟩ (.slice A4 k4 c4)).setCells (w.heap.size + 1) 0 zero10) (w.heap.size + 1) 0 72 zero10 _ (World.rangeAt_setCells_same _ _ _ _ HP.out) Tryz.underlying72 rfl (by kernel_rfl)
          exact bodyPost_ret (v := .tuple #[.agg zero10.toArray, .bool false]) (by simp [results, Tryz.results35, Act.put, asAddr, hl]) rfl HN.out
    · have hR5 := H.out.1.2.1
      obtain ⟨x0, hx0⟩ : ∃ x0, (R.flatMap sncs)[2]? = some x0 := ⟨_, List.getElem?_eq_getElem (by rw [flat_len, hR5]; omega)⟩
      obtain ⟨x1, hx1⟩ : ∃ x1, (R.flatMap sncs)[3]? = some x1 := ⟨_, List.getElem?_eq_getElem (by rw [flat_len, hR5]; omega)⟩
      clear hR5
      have HX := Lib.hid (And.intro hx0 hx1)
      clear hx0 hx1
      go_wp2_with (first | (refine wpList_index rfl rfl (.agg #[.int .i64 (-3), .int .i64 6, .int .i64 (-2), .int .i64 (-1), .int .i64 12]) (fun w => by kernel_rfl) ?_))
      obtain ⟨W1, hW1⟩ : ∃ W1, wr.alloc (.cells #[.int .i64 (-3), .int .i64 6, .int .i64 (-2), .int .i64 (-1), .int .i64 12] 101) = W1 := ⟨_, rfl⟩
      have HB : Hid (Below wr.heap.size wr W1 ∧ W1.heap.size = wr.heap.size + 1 ∧ w.heap.size + 3 ≤ wr.heap.size ∧ Below w.heap.size w W1) := by
        rw [← hW1]
        have h1 : w.heap.size + 3 ≤ wr.heap.size := by have := H.out.1.2.2.2.2.1; have := H.out.2.2.2.2.2; omega
        exact ⟨(Below.refl _ _).alloc (Nat.le_refl _) _, by simp, h1, H.out.2.2.2.2.1.alloc H.out.2.2.2.2.1.size _⟩
      have HS0 : Hid (SB w.heap.size wr.heap.size 1 (snL a b c d e) [.int .i64 (-3), .int .i64 6, .int .i64 (-2), .int .i64 (-1), .int .i64 12] (.int .u64 6) W1.drew) := by
        have hT := (Hx.out.2.2.2.2.2.2.2.below HB.out.2.2.2) 1 _ rfl
        have hr := range_below H.out.2.2.1.range HB.out.1
        have hq := (Bk.new wr [.int .i64 (-3), .int .i64 6, .int .i64 (-2), .int .i64 (-1), .int .i64 12] 101).range
        rw [hW1] at hq
        exact ⟨hr, hq, hT⟩
      rw [hW1]
      clear hW1
      refine wp_region_M 12 (SB w.heap.size wr.heap.size 1 (snL a b c d e) [.int .i64 (-3), .int .i64 6, .int .i64 (-2), .int .i64 (-1), .int .i64 12] (.int .u64 6)) hmix ?_
      refine wpAnyM_take (i := 0) (v := ?_) rfl rfl (by kernel_rfl) (by kernel_rfl) (by kernel_rfl) (by kernel_rfl) (by kernel_rfl) (by kernel_rfl) (fun _ _ _ h => h) HS0.out (Or.inl ⟨by rfl, ?_⟩) ?_
      rotate_left
      · rintro w ⟨q0, q1, q2⟩; go_simp; try with_reducible rfl
      try simp only [Act.put, List.getElem_toArray, List.getElem_cons_zero, List.getElem_cons_succ, List.setIfInBounds_toArray, List.set_cons_zero, List.set_cons_succ]
      refine wpAnyM_take (i := 1) rfl rfl (by kernel_rfl) (by kernel_rfl) (by kernel_rfl) (by kernel_rfl) (by kernel_rfl) (by kernel_rfl) (fun _ _ _ h => h) HS0.out (yieldsIf_load_mid (by rfl) 72 _ rfl w.heap.size 0 rfl (snL a b c d e) _ (fun _ h => h.1) Tryz.underlying72 rfl (by kernel_rfl)) ?_
      try simp only [Act.put, List.getElem_toArray, List.getElem_cons_zero, List.getElem_cons_succ, List.setIfInBounds_toArray, List.set_cons_zero, List.set_cons_succ]
      refine wpAnyM_take (i := 2) rfl rfl (by kernel_rfl) (by kernel_rfl) (by kernel_rfl) (by kernel_rfl) (by kernel_rfl) (by kernel_rfl) (fun _ _ _ h => h) HS0.out (yieldsIf_load_mid (by rfl) 101 _ rfl wr.heap.size 0 rfl [.int .i64 (-3), .int .i64 6, .int .i64 (-2), .int .i64 (-1), .int .i64 12] _ (fun _ h => h.2.1) Tryz.underlying101 rfl (by kernel_rfl)) ?_
      try simp only [Act.put, List.getElem_toArray, List.getElem_cons_zero, List.getElem_cons_succ, List.setIfInBounds_toArray, List.set_cons_zero, List.set_cons_succ]
      refine wpAnyM_take (i := 4) (v := ?_) rfl rfl (by kernel_rfl) (by kernel_rfl) (by kernel_rfl) (by kernel_rfl) (by kernel_rfl) (by kernel_rfl) (fun _ _ _ h => h) HS0.out (Or.inl ⟨by rfl, ?_⟩) ?_
      rotate_left
      · rintro w ⟨q0, q1, q2⟩; go_simp; try with_reducible rfl
      try simp only [Act.put, List.getElem_toArray, List.getElem_cons_zero, List.getElem_cons_succ, List.setIfInBounds_toArray, List.set_cons_zero, List.set_cons_succ]
      refine wpAnyM_take (i := 5) (v := ?_) rfl rfl (by kernel_rfl) (by kernel_rfl) (by kernel_rfl) (by kernel_rfl) (by kernel_rfl) (by kernel_rfl) (fun _ _ _ h => h) HS0.out (Or.inl ⟨by rfl, ?_⟩) ?_
      rotate_left
      · rintro w ⟨q0, q1, q2⟩; go_simp; try with_reducible rfl
      try simp only [Act.put, List.getElem_toArray, List.getElem_cons_zero, List.getElem_cons_succ, List.setIfInBounds_toArray, List.set_cons_zero, List.set_cons_succ]
      refine wpAnyM_take (i := 6) (v := ?_) rfl rfl (by kernel_rfl) (by kernel_rfl) (by kernel_rfl) (by kernel_rfl) (by kernel_rfl) (by kernel_rfl) (fun _ _ _ h => h) HS0.out (Or.inl ⟨by rfl, ?_⟩) ?_
      rotate_left
      · rintro w ⟨q0, q1, q2⟩; go_simp; try with_reducible rfl
      try simp only [Act.put, List.getElem_toArray, List.getElem_cons_zero, List.getElem_cons_succ, List.setIfInBounds_toArray, List.set_cons_zero, List.set_cons_succ]
      refine wpAnyM_one (i := 3) rfl (by kernel_rfl) (fun K hK => ?_)
      go_simp
      have hbw : Below w.heap.size w W1.drew := below_drw HB.out.2.2.2
      refine (weighed_ok a b c d e (-3) 6 (-2) (-1) 12 W1.drew (Hx.out.1.below hbw) (Hx.out.2.1.below hbw) (Hx.out.2.2.1.below hbw) (Hx.out.2.2.2.1.below hbw) (Hx.out.2.2.2.2.1.below hbw) (by decide)).mono ?_
      rintro z w3 ⟨s3, A3, n3, c3, zs, rfl, hS, hb3⟩
      have hb3' : Below W1.heap.size W1 w3 := belowA hb3
      have HS3 : Hid (Sg X w3 s3 A3 n3 c3 zs (a.v * (-3) + (b.v * 6 + (c.v * (-2) + (d.v * (-1) + e.v * 12)))) ∧ Below W1.heap.size W1 w3 ∧ n3 ≤ 40001 ∧ X.heap.size ≤ w3.heap.size ∧ ∀ a, A3 = some a → W1.heap.size ≤ a.block) := by
        have h2 := HL.out _ _ _ _ _ _ _ (by decide) hS.1.2.1 hS.2.1 hS.2.2.1
        have h3 : X.heap.size ≤ W1.heap.size := by have := H.out.1.2.2.2.2.1; have := HB.out.2.1; omega
        have h4 := hb3'.size
        refine ⟨hS.base h3, hb3', by rw [hS.1.1] at h2; omega, by omega, fun a ha => ?_⟩
        exact nw_fresh hS.1 a ha
      have HSb := Lib.hid (HS0.out.below hb3)
      have HS1 : Hid (SB w.heap.size wr.heap.size 1 (snL a b c d e) [.int .i64 (-3), .int .i64 6, .int .i64 (-2), .int .i64 (-1), .int .i64 12] (.int .u64 6) W1) := HS0.out
      clear hS hb3 hb3' hbw HS0
      refine hK.out _ _ (fun _ => HSb.out) ?_
      clear hK K
      try simp only [Act.put, List.getElem_toArray, List.getElem_cons_zero, List.getElem_cons_succ, List.setIfInBounds_toArray, List.set_cons_zero, List.set_cons_succ]
      refine wpAnyM_one (i := 7) rfl (by kernel_rfl) (fun K hK => ?_)
      go_simp
      refine (divided_ok X s3 A3 n3 c3 6 zs w3 (by have := HS3.out.2.2.1; omega) (by omega) (by omega) HS3.out.1.1 HS3.out.1.2.1 HS3.out.2.2.2.1).mono ?_
      rintro z w4 ⟨A4, k4, c4, us, rfl, hN, hCu, hVu, hbl⟩
      have hb4 : Below W1.heap.size w3 w4 := hbl W1.heap.size HS3.out.2.1.size HS3.out.2.2.2.2
      have HSd : Hid (SB w.heap.size wr.heap.size 1 (snL a b c d e) [.int .i64 (-3), .int .i64 6, .int .i64 (-2), .int .i64 (-1), .int .i64 12] (.int .u64 6) w4) := HS1.out.below (HS3.out.2.1.trans hb4)
      have HD := Lib.hid (And.intro hN (And.intro hCu (And.intro hVu (HB.out.1.trans ((HS3.out.2.1.trans hb4).mono HB.out.1.size)))))
      clear hN hCu hVu hbl hb4 HSb HS1
      refine hK.out _ _ (fun _ => HSd.out) ?_
      clear hK K
      obtain ⟨g, hg⟩ : ∃ g, decide (V zs % 6 = 0) = g := ⟨_, rfl⟩
      rw [hg]
      have Hg := Lib.hid hg
      clear hg
      have hA := H.out.1.below HD.out.2.2.2
      obtain ⟨p0, f0⟩ := hA.1 2 _ HX.out.1
      obtain ⟨p1, f1⟩ := hA.1 3 _ HX.out.2
      clear hA
      try simp only [Act.put, List.getElem_toArray, List.getElem_cons_zero, List.getElem_cons_succ, List.setIfInBounds_toArray, List.set_cons_zero, List.set_cons_succ]
      refine wpAnyM_take (i := 8) (v := ?_) rfl rfl (by kernel_rfl) (by kernel_rfl) (by kernel_rfl) (by kernel_rfl) (by kernel_rfl) (by kernel_rfl) (fun _ _ _ h => h) HSd.out (Or.inl ⟨by rfl, ?_⟩) ?_
      rotate_left
      · rintro w ⟨q0, q1, q2⟩; go_simp; try with_reducible rfl
      try simp only [Act.put, List.getElem_toArray, List.getElem_cons_zero, List.getElem_cons_succ, List.setIfInBounds_toArray, List.set_cons_zero, List.set_cons_succ]
      refine wpAnyM_take (i := 9) (v := ?_) rfl rfl (by kernel_rfl) (by kernel_rfl) (by kernel_rfl) (by kernel_rfl) (by kernel_rfl) (by kernel_rfl) (fun _ _ _ h => h) HSd.out (Or.inl ⟨by rfl, ?_⟩) ?_
      rotate_left
      · rintro w ⟨q0, q1, q2⟩; go_simp; try with_reducible rfl
      try simp only [Act.put, List.getElem_toArray, List.getElem_cons_zero, List.getElem_cons_succ, List.setIfInBounds_toArray, List.set_cons_zero, List.set_cons_succ]
      refine wpAnyM_take (i := 11) (v := ?_) rfl rfl (by kernel_rfl) (by kernel_rfl) (by kernel_rfl) (by kernel_rfl) (by kernel_rfl) (by kernel_rfl) (fun _ _ _ h => h) HSd.out (Or.inl ⟨by rfl, ?_⟩) ?_
      rotate_left
      · rintro w ⟨q0, q1, q2⟩; go_simp; try with_reducible rfl
      try simp only [Act.put, List.getElem_toArray, List.getElem_cons_zero, List.getElem_cons_succ, List.setIfInBounds_toArray, List.set_cons_zero, List.set_cons_succ]
      refine wpAnyM_ready [10, 12] (by kernel_rfl) (by simp) ?_
      intro i hi
      simp only [List.mem_cons, List.not_mem_nil, or_false] at hi
      rcases hi with rfl | rfl
      · refine ⟨_, rfl, fun K hK => ?_⟩
        go_simp
        refine hK.out _ _ (fun _ => HSd.out) ?_
        clear hK K
        try simp only [Act.put, List.getElem_toArray, List.getElem_cons_zero, List.getElem_cons_succ, List.setIfInBounds_toArray, List.set_cons_zero, List.set_cons_succ]
        refine wpAnyM_one (i := 12) rfl (by kernel_rfl) (fun K hK => ?_)
        go_simp
        refine hK.out _ _ (fun h => absurd h (by decide)) ?_
        clear hK K
        try simp only [Act.put, List.getElem_toArray, List.getElem_cons_zero, List.getElem_cons_succ, List.setIfInBounds_toArray, List.set_cons_zero, List.set_cons_succ]
        refine wpAnyM_one (i := 13) rfl (by kernel_rfl) (fun K hK => ?_)
        go_simp
        refine hK.out _ _ (fun h => absurd h (by decide)) ?_
        clear hK K
        try simp only [Act.put, List.getElem_toArray, List.getElem_cons_zero, List.getElem_cons_succ, List.setIfInBounds_toArray, List.set_cons_zero, List.set_cons_succ]
        refine wpAnyM_done (by kernel_rfl) ?_ _
        clear HSd
        by_cases hz : V zs % 6 = 0
        · obtain rfl : true = g := by rw [← Hg.out, decide_eq_true hz]
          obtain ⟨hS4, hdv⟩ := HS3.out.1.div HD.out.1 HD.out.2.1 HD.out.2.2.1 (d := 6) (by omega) hz
          have HN := Lib.hid (BvI.next (k := 1) (r := ⟨s3, A4, k4, c4, us⟩) (u := (a.v * (-3) + (b.v * 6 + (c.v * (-2) + (d.v * (-1) + e.v * 12))))) (by omega) H.out HD.out.2.2.2 hS4 hdv (by simp [wtS]; try omega))
          clear hS4 hdv H HX HD HS3 p0 f0 p1 f1 HB
          go_wp2_with (fail)
          go_roundw
          case rel => exact ⟨2, _, _, by omega, rfl, HN⟩
          case measure => (simp [intOf]; try omega)
        · obtain rfl : false = g := by rw [← Hg.out, decide_eq_false hz]
          have hnd := HS3.out.1.ndvd (d := 6) hz
          have HN := Lib.hid (back_not (k := 1) (u := (a.v * (-3) + (b.v * 6 + (c.v * (-2) + (d.v * (-1) + e.v * 12))))) (p := .bool s3) (q := .slice A4 k4 c4) (i := 2) (j := 3) H.out HD.out.2.2.2 hnd (by simp [wtS]; try omega) zero10)
          have HP := Lib.hid (back_there (p := .bool s3) (q := .slice A4 k4 c4) (i := 2) (j := 3) H.out HD.out.2.2.2)
          clear hnd H HX HD HS3 p0 f0 p1 f1 HB
          go_wp2_with (first | (refine wpList_store_mid rfl 72 _ _ rfl (w.heap.size + 1) 0 zero10.toArray rfl rfl HP.out (by kernel_rfl) (by simp [zero10, Value.oneCell']) ?_))
          have hl := run_loadVar_mid (P := Tryz.prog) (((w4.setCell ⟨w.heap.size + 2, 2, none⟩ (.bool s3)).setCell ⟨w.heap.size + 2, 3, none⟩ (.slice A4 k4 c4)).setCells (w.heap.size + 1) 0 zero10) (w.heap.size + 1) 0 72 zero10 _ (World.rangeAt_setCells_same _ _ _ _ HP.out) Tryz.underlying72 rfl (by kernel_rfl)
          exact bodyPost_ret (v := .tuple #[.agg zero10.toArray, .bool false]) (by simp [results, Tryz.results35, Act.put, asAddr, hl]) rfl HN.out
      · refine ⟨_, rfl, fun K hK => ?_⟩
        go_simp
        refine hK.out _ _ (fun h => absurd h (by decide)) ?_
        clear hK K
        try simp only [Act.put, List.getElem_toArray, List.getElem_cons_zero, List.getElem_cons_succ, List.setIfInBounds_toArray, List.set_cons_zero, List.set_cons_succ]
        refine wpAnyM_one (i := 10) rfl (by kernel_rfl) (fun K hK => ?_)
        go_simp
        refine hK.out _ _ (fun h => absurd h (by decide)) ?_
        clear hK K
        try simp only [Act.put, List.getElem_toArray, List.getElem_cons_zero, List.getElem_cons_succ, List.setIfInBounds_toArray, List.set_cons_zero, List.set_cons_succ]
        refine wpAnyM_one (i := 13) rfl (by kernel_rfl) (fun K hK => ?_)
        go_simp
        refine hK.out _ _ (fun h => absurd h (by decide)) ?_
        clear hK K
        try simp only [Act.put, List.getElem_toArray, List.getElem_cons_zero, List.getElem_cons_succ, List.setIfInBounds_toArray, List.set_cons_zero, List.set_cons_succ]
        refine wpAnyM_done (by kernel_rfl) ?_ _
        clear HSd
        by_cases hz : V zs % 6 = 0
        · obtain rfl : true = g := by rw [← Hg.out, decide_eq_true hz]
          obtain ⟨hS4, hdv⟩ := HS3.out.1.div HD.out.1 HD.out.2.1 HD.out.2.2.1 (d := 6) (by omega) hz
          have HN := Lib.hid (BvI.next (k := 1) (r := ⟨s3, A4, k4, c4, us⟩) (u := (a.v * (-3) + (b.v * 6 + (c.v * (-2) + (d.v * (-1) + e.v * 12))))) (by omega) H.out HD.out.2.2.2 hS4 hdv (by simp [wtS]; try omega))
          clear hS4 hdv H HX HD HS3 p0 f0 p1 f1 HB
          go_wp2_with (fail)
          go_roundw
          case rel => exact ⟨2, _, _, by omega, rfl, HN⟩
          case measure => (simp [intOf]; try omega)
        · obtain rfl : false = g := by rw [← Hg.out, decide_eq_false hz]
          have hnd := HS3.out.1.ndvd (d := 6) hz
          have HN := Lib.hid (back_not (k := 1) (u := (a.v * (-3) + (b.v * 6 + (c.v * (-2) + (d.v * (-1) + e.v * 12))))) (p := .bool s3) (q := .slice A4 k4 c4) (i := 2) (j := 3) H.out HD.out.2.2.2 hnd (by simp [wtS]; try omega) zero10)
          have HP := Lib.hid (back_there (p := .bool s3) (q := .slice A4 k4 c4) (i := 2) (j := 3) H.out HD.out.2.2.2)
          clear hnd H HX HD HS3 p0 f0 p1 f1 HB
          go_wp2_with (first | (refine wpList_store_mid rfl 72 _ _ rfl (w.heap.size + 1) 0 zero10.toArray rfl rfl HP.out (by kernel_rfl) (by simp [zero10, Value.oneCell']) ?_))
          have hl := run_loadVar_mid (P := Tryz.prog) (((w4.setCell ⟨w.heap.size + 2, 2, none⟩ (.bool s3)).setCell ⟨w.heap.size + 2, 3, none⟩ (.slice A4 k4 c4)).setCells (w.heap.size + 1) 0 zero10) (w.heap.size + 1) 0 72 zero10 _ (World.rangeAt_setCells_same _ _ _ _ HP.out) Tryz.underlying72 rfl (by kernel_rfl)
          exact bodyPost_ret (v := .tuple #[.agg zero10.toArray, .bool false]) (by simp [results, Tryz.results35, Act.put, asAddr, hl]) rfl HN.out
    · have hR5 := H.out.1.2.1
      obtain ⟨x0, hx0⟩ : ∃ x0, (R.flatMap sncs)[4]? = some x0 := ⟨_, List.getElem?_eq_getElem (by rw [flat_len, hR5]; omega)⟩
      obtain ⟨x1, hx1⟩ : ∃ x1, (R.flatMap sncs)[5]? = some x1 := ⟨_, List.getElem?_eq_getElem (by rw [flat_len, hR5]; omega)⟩
      clear hR5
      have HX := Lib.hid (And.intro hx0 hx1)
      clear hx0 hx1
      go_wp2_with (first | (refine wpList_index rfl rfl (.agg #[.int .i64 (-2), .int .i64 1, .int .i64 1, .int .i64 0, .int .i64 (-2)]) (fun w => by kernel_rfl) ?_))
      obtain ⟨W1, hW1⟩ : ∃ W1, wr.alloc (.cells #[.int .i64 (-2), .int .i64 1, .int .i64 1, .int .i64 0, .int .i64 (-2)] 101) = W1 := ⟨_, rfl⟩
      have HB : Hid (Below wr.heap.size wr W1 ∧ W1.heap.size = wr.heap.size + 1 ∧ w.heap.size + 3 ≤ wr.heap.size ∧ Below w.heap.size w W1) := by
        rw [← hW1]
        have h1 : w.heap.size + 3 ≤ wr.heap.size := by have := H.out.1.2.2.2.2.1; have := H.out.2.2.2.2.2; omega
        exact ⟨(Below.refl _ _).alloc (Nat.le_refl _) _, by simp, h1, H.out.2.2.2.2.1.alloc H.out.2.2.2.2.1.size _⟩
      have HS0 : Hid (SB w.heap.size wr.heap.size 2 (snL a b c d e) [.int .i64 (-2), .int .i64 1, .int .i64 1, .int .i64 0, .int .i64 (-2)] (.int .u64 2) W1.drew) := by
        have hT := (Hx.out.2.2.2.2.2.2.2.below HB.out.2.2.2) 2 _ rfl
        have hr := range_below H.out.2.2.1.range HB.out.1
        have hq := (Bk.new wr [.int .i64 (-2), .int .i64 1, .int .i64 1, .int .i64 0, .int .i64 (-2)] 101).range
        rw [hW1] at hq
        exact ⟨hr, hq, hT⟩
      rw [hW1]
      clear hW1
      refine wp_region_M 12 (SB w.heap.size wr.heap.size 2 (snL a b c d e) [.int .i64 (-2), .int .i64 1, .int .i64 1, .int .i64 0, .int .i64 (-2)] (.int .u64 2)) hmix ?_
      refine wpAnyM_take (i := 0) (v := ?_) rfl rfl (by kernel_rfl) (by kernel_rfl) (by kernel_rfl) (by kernel_rfl) (by kernel_rfl) (by kernel_rfl) (fun _ _ _ h => h) HS0.out (Or.inl ⟨by rfl, ?_⟩) ?_
      rotate_left
      · rintro w ⟨q0, q1, q2⟩; go_simp; try with_reducible rfl
      try simp only [Act.put, List.getElem_toArray, List.getElem_cons_zero, List.getElem_cons_succ, List.setIfInBounds_toArray, List.set_cons_zero, List.set_cons_succ]
      refine wpAnyM_take (i := 1) rfl rfl (by kernel_rfl) (by kernel_rfl) (by kernel_rfl) (by kernel_rfl) (by kernel_rfl) (by kernel_rfl) (fun _ _ _ h => h) HS0.out (yieldsIf_load_mid (by rfl) 72 _ rfl w.heap.size 0 rfl (snL a b c d e) _ (fun _ h => h.1) Tryz.underlying72 rfl (by kernel_rfl)) ?_
      try simp only [Act.put, List.getElem_toArray, List.getElem_cons_zero, List.getElem_cons_succ, List.setIfInBounds_toArray, List.set_cons_zero, List.set_cons_succ]
      refine wpAnyM_take (i := 2) rfl rfl (by kernel_rfl) (by kernel_rfl) (by kernel_rfl) (by kernel_rfl) (by kernel_rfl) (by kernel_rfl) (fun _ _ _ h => h) HS0.out (yieldsIf_load_mid (by rfl) 101 _ rfl wr.heap.size 0 rfl [.int .i64 (-2), .int .i64 1, .int .i64 1, .int .i64 0, .int .i64 (-2)] _ (fun _ h => h.2.1) Tryz.underlying101 rfl (by kernel_rfl)) ?_
      try simp only [Act.put, List.getElem_toArray, List.getElem_cons_zero, List.getElem_cons_succ, List.setIfInBounds_toArray, List.set_cons_zero, List.set_cons_succ]
      refine wpAnyM_take (i := 4) (v := ?_) rfl rfl (by kernel_rfl) (by kernel_rfl) (by kernel_rfl) (by kernel_rfl) (by kernel_rfl) (by kernel_rfl) (fun _ _ _ h => h) HS0.out (Or.inl ⟨by rfl, ?_⟩) ?_
      rotate_left
      · rintro w ⟨q0, q1, q2⟩; go_simp; try with_reducible rfl
      try simp only [Act.put, List.getElem_toArray, List.getElem_cons_zero, List.getElem_cons_succ, List.setIfInBounds_toArray, List.set_cons_zero, List.set_cons_succ]
      refine wpAnyM_take (i := 5) (v := ?_) rfl rfl (by kernel_rfl) (by kernel_rfl) (by kernel_rfl) (by kernel_rfl) (by kernel_rfl) (by kernel_rfl) (fun _ _ _ h => h) HS0.out (Or.inl ⟨by rfl, ?_⟩) ?_
      rotate_left
      · rintro w ⟨q0, q1, q2⟩; go_simp; try with_reducible rfl
      try simp only [Act.put, List.getElem_toArray, List.getElem_cons_zero, List.getElem_cons_succ, List.setIfInBounds_toArray, List.set_cons_zero, List.set_cons_succ]
      refine wpAnyM_take (i := 6) (v := ?_) rfl rfl (by kernel_rfl) (by kernel_rfl) (by kernel_rfl) (by kernel_rfl) (by kernel_rfl) (by kernel_rfl) (fun _ _ _ h => h) HS0.out (Or.inl ⟨by rfl, ?_⟩) ?_
      rotate_left
      · rintro w ⟨q0, q1, q2⟩; go_simp; try with_reducible rfl
      try simp only [Act.put, List.getElem_toArray, List.getElem_cons_zero, List.getElem_cons_succ, List.setIfInBounds_toArray, List.set_cons_zero, List.set_cons_succ]
      refine wpAnyM_one (i := 3) rfl (by kernel_rfl) (fun K hK => ?_)
      go_simp
      have hbw : Below w.heap.size w W1.drew := below_drw HB.out.2.2.2
      refine (weighed_ok a b c d e (-2) 1 1 0 (-2) W1.drew (Hx.out.1.below hbw) (Hx.out.2.1.below hbw) (Hx.out.2.2.1.below hbw) (Hx.out.2.2.2.1.below hbw) (Hx.out.2.2.2.2.1.below hbw) (by decide)).mono ?_
      rintro z w3 ⟨s3, A3, n3, c3, zs, rfl, hS, hb3⟩
      have hb3' : Below W1.heap.size W1 w3 := belowA hb3
      have HS3 : Hid (Sg X w3 s3 A3 n3 c3 zs (a.v * (-2) + (b.v * 1 + (c.v * 1 + (d.v * 0 + e.v * (-2))))) ∧ Below W1.heap.size W1 w3 ∧ n3 ≤ 40001 ∧ X.heap.size ≤ w3.heap.size ∧ ∀ a, A3 = some a → W1.heap.size ≤ a.block) := by
        have h2 := HL.out _ _ _ _ _ _ _ (by decide) hS.1.2.1 hS.2.1 hS.2.2.1
        have h3 : X.heap.size ≤ W1.heap.size := by have := H.out.1.2.2.2.2.1; have := HB.out.2.1; omega
        have h4 := hb3'.size
        refine ⟨hS.base h3, hb3', by rw [hS.1.1] at h2; omega, by omega, fun a ha => ?_⟩
        exact nw_fresh hS.1 a ha
      have HSb := Lib.hid (HS0.out.below hb3)
      have HS1 : Hid (SB w.heap.size wr.heap.size 2 (snL a b c d e) [.int .i64 (-2), .int .i64 1, .int .i64 1, .int .i64 0, .int .i64 (-2)] (.int .u64 2) W1) := HS0.out
      clear hS hb3 hb3' hbw HS0
      refine hK.out _ _ (fun _ => HSb.out) ?_
      clear hK K
      try simp only [Act.put, List.getElem_toArray, List.getElem_cons_zero, List.getElem_cons_succ, List.setIfInBounds_toArray, List.set_cons_zero, List.set_cons_succ]
      refine wpAnyM_one (i := 7) rfl (by kernel_rfl) (fun K hK => ?_)
      go_simp
      refine (divided_ok X s3 A3 n3 c3 2 zs w3 (by have := HS3.out.2.2.1; omega) (by omega) (by omega) HS3.out.1.1 HS3.out.1.2.1 HS3.out.2.2.2.1).mono ?_
      rintro z w4 ⟨A4, k4, c4, us, rfl, hN, hCu, hVu, hbl⟩
      have hb4 : Below W1.heap.size w3 w4 := hbl W1.heap.size HS3.out.2.1.size HS3.out.2.2.2.2
      have HSd : Hid (SB w.heap.size wr.heap.size 2 (snL a b c d e) [.int .i64 (-2), .int .i64 1, .int .i64 1, .int .i64 0, .int .i64 (-2)] (.int .u64 2) w4) := HS1.out.below (HS3.out.2.1.trans hb4)
      have HD := Lib.hid (And.intro hN (And.intro hCu (And.intro hVu (HB.out.1.trans ((HS3.out.2.1.trans hb4).mono HB.out.1.size)))))
      clear hN hCu hVu hbl hb4 HSb HS1
      refine hK.out _ _ (fun _ => HSd.out) ?_
      clear hK K
      obtain ⟨g, hg⟩ : ∃ g, decide (V zs % 2 = 0) = g := ⟨_, rfl⟩
      rw [hg]
      have Hg := Lib.hid hg
      clear hg
      have hA := H.out.1.below HD.out.2.2.2
      obtain ⟨p0, f0⟩ := hA.1 4 _ HX.out.1
      obtain ⟨p1, f1⟩ := hA.1 5 _ HX.out.2
      clear hA
      try simp only [Act.put, List.getElem_toArray, List.getElem_cons_zero, List.getElem_cons_succ, List.setIfInBounds_toArray, List.set_cons_zero, List.set_cons_succ]
      refine wpAnyM_take (i := 8) (v := ?_) rfl rfl (by kernel_rfl) (by kernel_rfl) (by kernel_rfl) (by kernel_rfl) (by kernel_rfl) (by kernel_rfl) (fun _ _ _ h => h) HSd.out (Or.inl ⟨by rfl, ?_⟩) ?_
      rotate_left
      · rintro w ⟨q0, q1, q2⟩; go_simp; try with_reducible rfl
      try simp only [Act.put, List.getElem_toArray, List.getElem_cons_zero, List.getElem_cons_succ, List.setIfInBounds_toArray, List.set_cons_zero, List.set_cons_succ]
      refine wpAnyM_take (i := 9) (v := ?_) rfl rfl (by kernel_rfl) (by kernel_rfl) (by kernel_rfl) (by kernel_rfl) (by kernel_rfl) (by kernel_rfl) (fun _ _ _ h => h) HSd.out (Or.inl ⟨by rfl, ?_⟩) ?_
      rotate_left
      · rintro w ⟨q0, q1, q2⟩; go_simp; try with_reducible rfl
      try simp only [Act.put, List.getElem_toArray, List.getElem_cons_zero, List.getElem_cons_succ, List.setIfInBounds_toArray, List.set_cons_zero, List.set_cons_succ]
      refine wpAnyM_take (i := 11) (v := ?_) rfl rfl (by kernel_rfl) (by kernel_rfl) (by kernel_rfl) (by kernel_rfl) (by kernel_rfl) (by kernel_rfl) (fun _ _ _ h => h) HSd.out (Or.inl ⟨by rfl, ?_⟩) ?_
      rotate_left
      · rintro w ⟨q0, q1, q2⟩; go_simp; try with_reducible rfl
      try simp only [Act.put, List.getElem_toArray, List.getElem_cons_zero, List.getElem_cons_succ, List.setIfInBounds_toArray, List.set_cons_zero, List.set_cons_succ]
      refine wpAnyM_ready [10, 12] (by kernel_rfl) (by simp) ?_
      intro i hi
      simp only [List.mem_cons, List.not_mem_nil, or_false] at hi
      rcases hi with rfl | rfl
      · refine ⟨_, rfl, fun K hK => ?_⟩
        go_simp
        refine hK.out _ _ (fun _ => HSd.out) ?_
        clear hK K
        try simp only [Act.put, List.getElem_toArray, List.getElem_cons_zero, List.getElem_cons_succ, List.setIfInBounds_toArray, List.set_cons_zero, List.set_cons_succ]
        refine wpAnyM_one (i := 12) rfl (by kernel_rfl) (fun K hK => ?_)
        go_simp
        refine hK.out _ _ (fun h => absurd h (by decide)) ?_
        clear hK K
        try simp only [Act.put, List.getElem_toArray, List.getElem_cons_zero, List.getElem_cons_succ, List.setIfInBounds_toArray, List.set_cons_zero, List.set_cons_succ]
        refine wpAnyM_one (i := 13) rfl (by kernel_rfl) (fun K hK => ?_)
        go_simp
        refine hK.out _ _ (fun h => absurd h (by decide)) ?_
        clear hK K
        try simp only [Act.put, List.getElem_toArray, List.getElem_cons_zero, List.getElem_cons_succ, List.setIfInBounds_toArray, List.set_cons_zero, List.set_cons_succ]
        refine wpAnyM_done (by kernel_rfl) ?_ _
        clear HSd
        by_cases hz : V zs % 2 = 0
        · obtain rfl : true = g := by rw [← Hg.out, decide_eq_true hz]
          obtain ⟨hS4, hdv⟩ := HS3.out.1.div HD.out.1 HD.out.2.1 HD.out.2.2.1 (d := 2) (by omega) hz
          have HN := Lib.hid (BvI.next (k := 2) (r := ⟨s3, A4, k4, c4, us⟩) (u := (a.v * (-2) + (b.v * 1 + (c.v * 1 + (d.v * 0 + e.v * (-2)))))) (by omega) H.out HD.out.2.2.2 hS4 hdv (by simp [wtS]; try omega))
          clear hS4 hdv H HX HD HS3 p0 f0 p1 f1 HB
          go_wp2_with (fail)
          go_roundw
          case rel => exact ⟨3, _, _, by omega, rfl, HN⟩
          case measure => (simp [intOf]; try omega)
        · obtain rfl : false = g := by rw [← Hg.out, decide_eq_false hz]
          have hnd := HS3.out.1.ndvd (d := 2) hz
          have HN := Lib.hid (back_not (k := 2) (u := (a.v * (-2) + (b.v * 1 + (c.v * 1 + (d.v * 0 + e.v * (-2)))))) (p := .bool s3) (q := .slice A4 k4 c4) (i := 4) (j := 5) H.out HD.out.2.2.2 hnd (by simp [wtS]; try omega) zero10)
          have HP := Lib.hid (back_there (p := .bool s3) (q := .slice A4 k4 c4) (i := 4) (j := 5) H.out HD.out.2.2.2)
          clear hnd H HX HD HS3 p0 f0 p1 f1 HB
          go_wp2_with (first | (refine wpList_store_mid rfl 72 _ _ rfl (w.heap.size + 1) 0 zero10.toArray rfl rfl HP.out (by kernel_rfl) (by simp [zero10, Value.oneCell']) ?_))
          have hl := run_loadVar_mid (P := Tryz.prog) (((w4.setCell ⟨w.heap.size + 2, 4, none⟩ (.bool s3)).setCell ⟨w.heap.size + 2, 5, none⟩ (.slice A4 k4 c4)).setCells (w.heap.size + 1) 0 zero10) (w.heap.size + 1) 0 72 zero10 _ (World.rangeAt_setCells_same _ _ _ _ HP.out) Tryz.underlying72 rfl (by kernel_rfl)
          exact bodyPost_ret (v := .tuple #[.agg zero10.toArray, .bool false]) (by simp [results, Tryz.results35, Act.put, asAddr, hl]) rfl HN.out
      · refine ⟨_, rfl, fun K hK => ?_⟩
        go_simp
        refine hK.out _ _ (fun h => absurd h (by decide)) ?_
        clear hK K
        try simp only [Act.put, List.getElem_toArray, List.getElem_cons_zero, List.getElem_cons_succ, List.setIfInBounds_toArray, List.set_cons_zero, List.set_cons_succ]
        refine wpAnyM_one (i := 10) rfl (by kernel_rfl) (fun K hK => ?_)
        go_simp
        refine hK.out _ _ (fun h => absurd h (by decide)) ?_
        clear hK K
        try simp only [Act.put, List.getElem_toArray, List.getElem_cons_zero, List.getElem_cons_succ, List.setIfInBounds_toArray, List.set_cons_zero, List.set_cons_succ]
        refine wpAnyM_one (i := 13) rfl (by kernel_rfl) (fun K hK => ?_)
        go_simp
        refine hK.out _ _ (fun h => absurd h (by decide)) ?_
        clear hK K
        try simp only [Act.put, List.getElem_toArray, List.getElem_cons_zero, List.getElem_cons_succ, List.setIfInBounds_toArray, List.set_cons_zero, List.set_cons_succ]
        refine wpAnyM_done (by kernel_rfl) ?_ _
        clear HSd
        by_cases hz : V zs % 2 = 0
        · obtain rfl : true = g := by rw [← Hg.out, decide_eq_true hz]
          obtain ⟨hS4, hdv⟩ := HS3.out.1.div HD.out.1 HD.out.2.1 HD.out.2.2.1 (d := 2) (by omega) hz
          have HN := Lib.hid (BvI.next (k := 2) (r := ⟨s3, A4, k4, c4, us⟩) (u := (a.v * (-2) + (b.v * 1 + (c.v * 1 + (d.v * 0 + e.v * (-2)))))) (by omega) H.out HD.out.2.2.2 hS4 hdv (by simp [wtS]; try omega))
          clear hS4 hdv H HX HD HS3 p0 f0 p1 f1 HB
          go_wp2_with (fail)
          go_roundw
          case rel => exact ⟨3, _, _, by omega, rfl, HN⟩
          case measure => (simp [intOf]; try omega)
        · obtain rfl : false = g := by rw [← Hg.out, decide_eq_false hz]
          have hnd := HS3.out.1.ndvd (d := 2) hz
          have HN := Lib.hid (back_not (k := 2) (u := (a.v * (-2) + (b.v * 1 + (c.v * 1 + (d.v * 0 + e.v * (-2)))))) (p := .bool s3) (q := .slice A4 k4 c4) (i := 4) (j := 5) H.out HD.out.2.2.2 hnd (by simp [wtS]; try omega) zero10)
          have HP := Lib.hid (back_there (p := .bool s3) (q := .slice A4 k4 c4) (i := 4) (j := 5) H.out HD.out.2.2.2)
          clear hnd H HX HD HS3 p0 f0 p1 f1 HB
          go_wp2_with (first | (refine wpList_store_mid rfl 72 _ _ rfl (w.heap.size + 1) 0 zero10.toArray rfl rfl HP.out (by kernel_rfl) (by simp [zero10, Value.oneCell']) ?_))
          have hl := run_loadVar_mid (P := Tryz.prog) (((w4.setCell ⟨w.heap.size + 2, 4, none⟩ (.bool s3)).setCell ⟨w.heap.size + 2, 5, none⟩ (.slice A4 k4 c4)).setCells (w.heap.size + 1) 0 zero10) (w.heap.size + 1) 0 72 zero10 _ (World.rangeAt_setCells_same _ _ _ _ HP.out) Tryz.underlying72 rfl (by kernel_rfl)
          exact bodyPost_ret (v := .tuple #[.agg zero10.toArray, .bool false]) (by simp [results, Tryz.results35, Act.put, asAddr, hl]) rfl HN.out
    · have hR5 := H.out.1.2.1
      obtain ⟨x0, hx0⟩ : ∃ x0, (R.flatMap sncs)[6]? = some x0 := ⟨_, List.getElem?_eq_getElem (by rw [flat_len, hR5]; omega)⟩
      obtain ⟨x1, hx1⟩ : ∃ x1, (R.flatMap sncs)[7]? = some x1 := ⟨_, List.getElem?_eq_getElem (by rw [flat_len, hR5]; omega)⟩
      clear hR5
      have HX := Lib.hid (And.intro hx0 hx1)
      clear hx0 hx1
      go_wp2_with (first | (refine wpList_index rfl rfl (.agg #[.int .i64 3, .int .i64 (-3), .int .i64 (-1), .int .i64 1, .int .i64 (-12)]) (fun w => by kernel_rfl) ?_))
      obtain ⟨W1, hW1⟩ : ∃ W1, wr.alloc (.cells #[.int .i64 3, .int .i64 (-3), .int .i64 (-1), .int .i64 1, .int .i64 (-12)] 101) = W1 := ⟨_, rfl⟩
      have HB : Hid (Below wr.heap.size wr W1 ∧ W1.heap.size = wr.heap.size + 1 ∧ w.heap.size + 3 ≤ wr.heap.size ∧ Below w.heap.size w W1) := by
        rw [← hW1]
        have h1 : w.heap.size + 3 ≤ wr.heap.size := by have := H.out.1.2.2.2.2.1; have := H.out.2.2.2.2.2; omega
        exact ⟨(Below.refl _ _).alloc (Nat.le_refl _) _, by simp, h1, H.out.2.2.2.2.1.alloc H.out.2.2.2.2.1.size _⟩
      have HS0 : Hid (SB w.heap.size wr.heap.size 3 (snL a b c d e) [.int .i64 3, .int .i64 (-3), .int .i64 (-1), .int .i64 1, .int .i64 (-12)] (.int .u64 6) W1.drew) := by
        have hT := (Hx.out.2.2.2.2.2.2.2.below HB.out.2.2.2) 3 _ rfl
        have hr := range_below H.out.2.2.1.range HB.out.1
        have hq := (Bk.new wr [.int .i64 3, .int .i64 (-3), .int .i64 (-1), .int .i64 1, .int .i64 (-12)] 101).range
        rw [hW1] at hq
        exact ⟨hr, hq, hT⟩
      rw [hW1]
      clear hW1
      refine wp_region_M 12 (SB w.heap.size wr.heap.size 3 (snL a b c d e) [.int .i64 3, .int .i64 (-3), .int .i64 (-1), .int .i64 1, .int .i64 (-12)] (.int .u64 6)) hmix ?_
      refine wpAnyM_take (i := 0) (v := ?_) rfl rfl (by kernel_rfl) (by kernel_rfl) (by kernel_rfl) (by kernel_rfl) (by kernel_rfl) (by kernel_rfl) (fun _ _ _ h => h) HS0.out (Or.inl ⟨by rfl, ?_⟩) ?_
      rotate_left
      · rintro w ⟨q0, q1, q2⟩; go_simp; try with_reducible rfl
      try simp only [Act.put, List.getElem_toArray, List.getElem_cons_zero, List.getElem_cons_succ, List.setIfInBounds_toArray, List.set_cons_zero, List.set_cons_succ]
      refine wpAnyM_take (i := 1) rfl rfl (by kernel_rfl) (by kernel_rfl) (by kernel_rfl) (by kernel_rfl) (by kernel_rfl) (by kernel_rfl) (fun _ _ _ h => h) HS0.out (yieldsIf_load_mid (by rfl) 72 _ rfl w.heap.size 0 rfl (snL a b c d e) _ (fun _ h => h.1) Tryz.underlying72 rfl (by kernel_rfl)) ?_
      try simp only [Act.put, List.getElem_toArray, List.getElem_cons_zero, List.getElem_cons_succ, List.setIfInBounds_toArray, List.set_cons_zero, List.set_cons_succ]
      refine wpAnyM_take (i := 2) rfl rfl (by kernel_rfl) (by kernel_rfl) (by kernel_rfl) (by kernel_rfl) (by kernel_rfl) (by kernel_rfl) (fun _ _ _ h => h) HS0.out (yieldsIf_load_mid (by rfl) 101 _ rfl wr.heap.size 0 rfl [.int .i64 3, .int .i64 (-3), .int .i64 (-1), .int .i64 1, .int .i64 (-12)] _ (fun _ h => h.2.1) Tryz.underlying101 rfl (by kernel_rfl)) ?_
      try simp only [Act.put, List.getElem_toArray, List.getElem_cons_zero, List.getElem_cons_succ, List.setIfInBounds_toArray, List.set_cons_zero, List.set_cons_succ]
      refine wpAnyM_take (i := 4) (v := ?_) rfl rfl (by kernel_rfl) (by kernel_rfl) (by kernel_rfl) (by kernel_rfl) (by kernel_rfl) (by kernel_rfl) (fun _ _ _ h => h) HS0.out (Or.inl ⟨by rfl, ?_⟩) ?_
      rotate_left
      · rintro w ⟨q0, q1, q2⟩; go_simp; try with_reducible rfl
      try simp only [Act.put, List.getElem_toArray, List.getElem_cons_zero, List.getElem_cons_succ, List.setIfInBounds_toArray, List.set_cons_zero, List.set_cons_succ]
      refine wpAnyM_take (i := 5) (v := ?_) rfl rfl (by kernel_rfl) (by kernel_rfl) (by kernel_rfl) (by kernel_rfl) (by kernel_rfl) (by kernel_rfl) (fun _ _ _ h => h) HS0.out (Or.inl ⟨by rfl, ?_⟩) ?_
      rotate_left
      · rintro w ⟨q0, q1, q2⟩; go_simp; try with_reducible rfl
      try simp only [Act.put, List.getElem_toArray, List.getElem_cons_zero, List.getElem_cons_succ, List.setIfInBounds_toArray, List.set_cons_zero, List.set_cons_succ]
      refine wpAnyM_take (i := 6) (v := ?_) rfl rfl (by kernel_rfl) (by kernel_rfl) (by kernel_rfl) (by kernel_rfl) (by kernel_rfl) (by kernel_rfl) (fun _ _ _ h => h) HS0.out (Or.inl ⟨by rfl, ?_⟩) ?_
      rotate_left
      · rintro w ⟨q0, q1, q2⟩; go_simp; try with_reducible rfl
      try simp only [Act.put, List.getElem_toArray, List.getElem_cons_zero, List.getElem_cons_succ, List.setIfInBounds_toArray, List.set_cons_zero, List.set_cons_succ]
      refine wpAnyM_one (i := 3) rfl (by kernel_rfl) (fun K hK => ?_)
      go_simp
      have hbw : Below w.heap.size w W1.drew := below_drw HB.out.2.2.2
      refine (weighed_ok a b c d e 3 (-3) (-1) 1 (-12) W1.drew (Hx.out.1.below hbw) (Hx.out.2.1.below hbw) (Hx.out.2.2.1.below hbw) (Hx.out.2.2.2.1.below hbw) (Hx.out.2.2.2.2.1.below hbw) (by decide)).mono ?_
      rintro z w3 ⟨s3, A3, n3, c3, zs, rfl, hS, hb3⟩
      have hb3' : Below W1.heap.size W1 w3 := belowA hb3
      have HS3 : Hid (Sg X w3 s3 A3 n3 c3 zs (a.v * 3 + (b.v * (-3) + (c.v * (-1) + (d.v * 1 + e.v * (-12))))) ∧ Below W1.heap.size W1 w3 ∧ n3 ≤ 40001 ∧ X.heap.size ≤ w3.heap.size ∧ ∀ a, A3 = some a → W1.heap.size ≤ a.block) := by
        have h2 := HL.out _ _ _ _ _ _ _ (by decide) hS.1.2.1 hS.2.1 hS.2.2.1
        have h3 : X.heap.size ≤ W1.heap.size := by have := H.out.1.2.2.2.2.1; have := HB.out.2.1; omega
        have h4 := hb3'.size
        refine ⟨hS.base h3, hb3', by rw [hS.1.1] at h2; omega, by omega, fun a ha => ?_⟩
        exact nw_fresh hS.1 a ha
      have HSb := Lib.hid (HS0.out.below hb3)
      have HS1 : Hid (SB w.heap.size wr.heap.size 3 (snL a b c d e) [.int .i64 3, .int .i64 (-3), .int .i64 (-1), .int .i64 1, .int .i64 (-12)] (.int .u64 6) W1) := HS0.out
      clear hS hb3 hb3' hbw HS0
      refine hK.out _ _ (fun _ => HSb.out) ?_
      clear hK K
      try simp only [Act.put, List.getElem_toArray, List.getElem_cons_zero, List.getElem_cons_succ, List.setIfInBounds_toArray, List.set_cons_zero, List.set_cons_succ]
      refine wpAnyM_one (i := 7) rfl (by kernel_rfl) (fun K hK => ?_)
      go_simp
      refine (divided_ok X s3 A3 n3 c3 6 zs w3 (by have := HS3.out.2.2.1; omega) (by omega) (by omega) HS3.out.1.1 HS3.out.1.2.1 HS3.out.2.2.2.1).mono ?_
      rintro z w4 ⟨A4, k4, c4, us, rfl, hN, hCu, hVu, hbl⟩
      have hb4 : Below W1.heap.size w3 w4 := hbl W1.heap.size HS3.out.2.1.size HS3.out.2.2.2.2
      have HSd : Hid (SB w.heap.size wr.heap.size 3 (snL a b c d e) [.int .i64 3, .int .i64 (-3), .int .i64 (-1), .int .i64 1, .int .i64 (-12)] (.int .u64 6) w4) := HS1.out.below (HS3.out.2.1.trans hb4)
      have HD := Lib.hid (And.intro hN (And.intro hCu (And.intro hVu (HB.out.1.trans ((HS3.out.2.1.trans hb4).mono HB.out.1.size)))))
      clear hN hCu hVu hbl hb4 HSb HS1
      refine hK.out _ _ (fun _ => HSd.out) ?_
      clear hK K
      obtain ⟨g, hg⟩ : ∃ g, decide (V zs % 6 = 0) = g := ⟨_, rfl⟩
      rw [hg]
      have Hg := Lib.hid hg
      clear hg
      have hA := H.out.1.below HD.out.2.2.2
      obtain ⟨p0, f0⟩ := hA.1 6 _ HX.out.1
      obtain ⟨p1, f1⟩ := hA.1 7 _ HX.out.2
      clear hA
      try simp only [Act.put, List.getElem_toArray, List.getElem_cons_zero, List.getElem_cons_succ, List.setIfInBounds_toArray, List.set_cons_zero, List.set_cons_succ]
      refine wpAnyM_take (i := 8) (v := ?_) rfl rfl (by kernel_rfl) (by kernel_rfl) (by kernel_rfl) (by kernel_rfl) (by kernel_rfl) (by kernel_rfl) (fun _ _ _ h => h) HSd.out (Or.inl ⟨by rfl, ?_⟩) ?_
      rotate_left
      · rintro w ⟨q0, q1, q2⟩; go_simp; try with_reducible rfl
      try simp only [Act.put, List.getElem_toArray, List.getElem_cons_zero, List.getElem_cons_succ, List.setIfInBounds_toArray, List.set_cons_zero, List.set_cons_succ]
      refine wpAnyM_take (i := 9) (v := ?_) rfl rfl (by kernel_rfl) (by kernel_rfl) (by kernel_rfl) (by kernel_rfl) (by kernel_rfl) (by kernel_rfl) (fun _ _ _ h => h) HSd.out (Or.inl ⟨by rfl, ?_⟩) ?_
      rotate_left
      · rintro w ⟨q0, q1, q2⟩; go_simp; try with_reducible rfl
      try simp only [Act.put, List.getElem_toArray, List.getElem_cons_zero, List.getElem_cons_succ, List.setIfInBounds_toArray, List.set_cons_zero, List.set_cons_succ]
      refine wpAnyM_take (i := 11) (v := ?_) rfl rfl (by kernel_rfl) (by kernel_rfl) (by kernel_rfl) (by kernel_rfl) (by kernel_rfl) (by kernel_rfl) (fun _ _ _ h => h) HSd.out (Or.inl ⟨by rfl, ?_⟩) ?_
      rotate_left
      · rintro w ⟨q0, q1, q2⟩; go_simp; try with_reducible rfl
      try simp only [Act.put, List.getElem_toArray, List.getElem_cons_zero, List.getElem_cons_succ, List.setIfInBounds_toArray, List.set_cons_zero, List.set_cons_succ]
      refine wpAnyM_ready [10, 12] (by kernel_rfl) (by simp) ?_
      intro i hi
      simp only [List.mem_cons, List.not_mem_nil, or_false] at hi
      rcases hi with rfl | rfl
      · refine ⟨_, rfl, fun K hK => ?_⟩
        go_simp
        refine hK.out _ _ (fun _ => HSd.out) ?_
        clear hK K
        try simp only [Act.put, List.getElem_toArray, List.getElem_cons_zero, List.getElem_cons_succ, List.setIfInBounds_toArray, List.set_cons_zero, List.set_cons_succ]
        refine wpAnyM_one (i := 12) rfl (by kernel_rfl) (fun K hK => ?_)
        go_simp
        refine hK.out _ _ (fun h => absurd h (by decide)) ?_
        clear hK K
        try simp only [Act.put, List.getElem_toArray, List.getElem_cons_zero, List.getElem_cons_succ, List.setIfInBounds_toArray, List.set_cons_zero, List.set_cons_succ]
        refine wpAnyM_one (i := 13) rfl (by kernel_rfl) (fun K hK => ?_)
        go_simp
        refine hK.out _ _ (fun h => absurd h (by decide)) ?_
        clear hK K
        try simp only [Act.put, List.getElem_toArray, List.getElem_cons_zero, List.getElem_cons_succ, List.setIfInBounds_toArray, List.set_cons_zero, List.set_cons_succ]
        refine wpAnyM_done (by kernel_rfl) ?_ _
        clear HSd
        by_cases hz : V zs % 6 = 0
        · obtain rfl : true = g := by rw [← Hg.out, decide_eq_true hz]
          obtain ⟨hS4, hdv⟩ := HS3.out.1.div HD.out.1 HD.out.2.1 HD.out.2.2.1 (d := 6) (by omega) hz
          have HN := Lib.hid (BvI.next (k := 3) (r := ⟨s3, A4, k4, c4, us⟩) (u := (a.v * 3 + (b.v * (-3) + (c.v * (-1) + (d.v * 1 + e.v * (-12)))))) (by omega) H.out HD.out.2.2.2 hS4 hdv (by simp [wtS]; try omega))
          clear hS4 hdv H HX HD HS3 p0 f0 p1 f1 HB
          go_wp2_with (fail)
          go_roundw
          case rel => exact ⟨4, _, _, by omega, rfl, HN⟩
          case measure => (simp [intOf]; try omega)
        · obtain rfl : false = g := by rw [← Hg.out, decide_eq_false hz]
          have hnd := HS3.out.1.ndvd (d := 6) hz
          have HN := Lib.hid (back_not (k := 3) (u := (a.v * 3 + (b.v * (-3) + (c.v * (-1) + (d.v * 1 + e.v * (-12)))))) (p := .bool s3) (q := .slice A4 k4 c4) (i := 6) (j := 7) H.out HD.out.2.2.2 hnd (by simp [wtS]; try omega) zero10)
          have HP := Lib.hid (back_there (p := .bool s3) (q := .slice A4 k4 c4) (i := 6) (j := 7) H.out HD.out.2.2.2)
          clear hnd H HX HD HS3 p0 f0 p1 f1 HB
          go_wp2_with (first | (refine wpList_store_mid rfl 72 _ _ rfl (w.heap.size + 1) 0 zero10.toArray rfl rfl HP.out (by kernel_rfl) (by simp [zero10, Value.oneCell']) ?_))
          have hl := run_loadVar_mid (P := Tryz.prog) (((w4.setCell ⟨w.heap.size + 2, 6, none⟩ (.bool s3)).setCell ⟨w.heap.size + 2, 7, none⟩ (.slice A4 k4 c4)).setCells (w.heap.size + 1) 0 zero10) (w.heap.size + 1) 0 72 zero10 _ (World.rangeAt_setCells_same _ _ _ _ HP.out) Tryz.underlying72 rfl (by kernel_rfl)
          exact bodyPost_ret (v := .tuple #[.agg zero10.toArray, .bool false]) (by simp [results, Tryz.results35, Act.put, asAddr, hl]) rfl HN.out
      · refine ⟨_, rfl, fun K hK => ?_⟩
        go_simp
        refine hK.out _ _ (fun h => absurd h (by decide)) ?_
        clear hK K
        try simp only [Act.put, List.getElem_toArray, List.getElem_cons_zero, List.getElem_cons_succ, List.setIfInBounds_toArray, List.set_cons_zero, List.set_cons_succ]
        refine wpAnyM_one (i := 10) rfl (by kernel_rfl) (fun K hK => ?_)
        go_simp
        refine hK.out _ _ (fun h => absurd h (by decide)) ?_
        clear hK K
        try simp only [Act.put, List.getElem_toArray, List.getElem_cons_zero, List.getElem_cons_succ, List.setIfInBounds_toArray, List.set_cons_zero, List.set_cons_succ]
        refine wpAnyM_one (i := 13) rfl (by kernel_rfl) (fun K hK => ?_)
        go_simp
        refine hK.out _ _ (fun h => absurd h (by decide)) ?_
        clear hK K
        try simp only [Act.put, List.getElem_toArray, List.getElem_cons_zero, List.getElem_cons_succ, List.setIfInBounds_toArray, List.set_cons_zero, List.set_cons_succ]
        refine wpAnyM_done (by kernel_rfl) ?_ _
        clear HSd
        by_cases hz : V zs % 6 = 0
        · obtain rfl : true = g := by rw [← Hg.out, decide_eq_true hz]
          obtain ⟨hS4, hdv⟩ := HS3.out.1.div HD.out.1 HD.out.2.1 HD.out.2.2.1 (d := 6) (by omega) hz
          have HN := Lib.hid (BvI.next (k := 3) (r := ⟨s3, A4, k4, c4, us⟩) (u := (a.v * 3 + (b.v * (-3) + (c.v * (-1) + (d.v * 1 + e.v * (-12)))))) (by omega) H.out HD.out.2.2.2 hS4 hdv (by simp [wtS]; try omega))
          clear hS4 hdv H HX HD HS3 p0 f0 p1 f1 HB
          go_wp2_with (fail)
          go_roundw
          case rel => exact ⟨4, _, _, by omega, rfl, HN⟩
          case measure => (simp [intOf]; try omega)
        · obtain rfl : false = g := by rw [← Hg.out, decide_eq_false hz]
          have hnd := HS3.out.1.ndvd (d := 6) hz
          have HN := Lib.hid (back_not (k := 3) (u := (a.v * 3 + (b.v * (-3) + (c.v * (-1) + (d.v * 1 + e.v * (-12)))))) (p := .bool s3) (q := .slice A4 k4 c4) (i := 6) (j := 7) H.out HD.out.2.2.2 hnd (by simp [wtS]; try omega) zero10)
          have HP := Lib.hid (back_there (p := .bool s3) (q := .slice A4 k4 c4) (i := 6) (j := 7) H.out HD.out.2.2.2)
          clear hnd H HX HD HS3 p0 f0 p1 f1 HB
          go_wp2_with (first | (refine wpList_store_mid rfl 72 _ _ rfl (w.heap.size + 1) 0 zero10.toArray rfl rfl HP.out (by kernel_rfl) (by simp [zero10, Value.oneCell']) ?_))
          have hl := run_loadVar_mid (P := Tryz.prog) (((w4.setCell ⟨w.heap.size + 2, 6, none⟩ (.bool s3)).setCell ⟨w.heap.size + 2, 7, none⟩ (.slice A4 k4 c4)).setCells (w.heap.size + 1) 0 zero10) (w.heap.size + 1) 0 72 zero10 _ (World.rangeAt_setCells_same _ _ _ _ HP.out) Tryz.underlying72 rfl (by kernel_rfl)
          exact bodyPost_ret (v := .tuple #[.agg zero10.toArray, .bool false]) (by simp [results, Tryz.results35, Act.put, asAddr, hl]) rfl HN.out
    · have hR5 := H.out.1.2.1
      obtain ⟨x0, hx0⟩ : ∃ x0, (R.flatMap sncs)[8]? = some x0 := ⟨_, List.getElem?_eq_getElem (by rw [flat_len, hR5]; omega)⟩
      obtain ⟨x1, hx1⟩ : ∃ x1, (R.flatMap sncs)[9]? = some x1 := ⟨_, List.getElem?_eq_getElem (by rw [flat_len, hR5]; omega)⟩
      clear hR5
      have HX := Lib.hid (And.intro hx0 hx1)
      clear hx0 hx1
      go_wp2_with (first | (refine wpList_index rfl rfl (.agg #[.int .i64 0, .int .i64 0, .int .i64 0, .int .i64 0, .int .i64 1]) (fun w => by kernel_rfl) ?_))
      obtain ⟨W1, hW1⟩ : ∃ W1, wr.alloc (.cells #[.int .i64 0, .int .i64 0, .int .i64 0, .int .i64 0, .int .i64 1] 101) = W1 := ⟨_, rfl⟩
      have HB : Hid (Below wr.heap.size wr W1 ∧ W1.heap.size = wr.heap.size + 1 ∧ w.heap.size + 3 ≤ wr.heap.size ∧ Below w.heap.size w W1) := by
        rw [← hW1]
        have h1 : w.heap.size + 3 ≤ wr.heap.size := by have := H.out.1.2.2.2.2.1; have := H.out.2.2.2.2.2; omega
        exact ⟨(Below.refl _ _).alloc (Nat.le_refl _) _, by simp, h1, H.out.2.2.2.2.1.alloc H.out.2.2.2.2.1.size _⟩
      have HS0 : Hid (SB w.heap.size wr.heap.size 4 (snL a b c d e) [.int .i64 0, .int .i64 0, .int .i64 0, .int .i64 0, .int .i64 1] (.int .u64 1) W1.drew) := by
        have hT := (Hx.out.2.2.2.2.2.2.2.below HB.out.2.2.2) 4 _ rfl
        have hr := range_below H.out.2.2.1.range HB.out.1
        have hq := (Bk.new wr [.int .i64 0, .int .i64 0, .int .i64 0, .int .i64 0, .int .i64 1] 101).range
        rw [hW1] at hq
        exact ⟨hr, hq, hT⟩
      rw [hW1]
      clear hW1
      refine wp_region_M 12 (SB w.heap.size wr.heap.size 4 (snL a b c d e) [.int .i64 0, .int .i64 0, .int .i64 0, .int .i64 0, .int .i64 1] (.int .u64 1)) hmix ?_
      refine wpAnyM_take (i := 0) (v := ?_) rfl rfl (by kernel_rfl) (by kernel_rfl) (by kernel_rfl) (by kernel_rfl) (by kernel_rfl) (by kernel_rfl) (fun _ _ _ h => h) HS0.out (Or.inl ⟨by rfl, ?_⟩) ?_
      rotate_left
      · rintro w ⟨q0, q1, q2⟩; go_simp; try with_reducible rfl
      try simp only [Act.put, List.getElem_toArray, List.getElem_cons_zero, List.getElem_cons_succ, List.setIfInBounds_toArray, List.set_cons_zero, List.set_cons_succ]
      refine wpAnyM_take (i := 1) rfl rfl (by kernel_rfl) (by kernel_rfl) (by kernel_rfl) (by kernel_rfl) (by kernel_rfl) (by kernel_rfl) (fun _ _ _ h => h) HS0.out (yieldsIf_load_mid (by rfl) 72 _ rfl w.heap.size 0 rfl (snL a b c d e) _ (fun _ h => h.1) Tryz.underlying72 rfl (by kernel_rfl)) ?_
      try simp only [Act.put, List.getElem_toArray, List.getElem_cons_zero, List.getElem_cons_succ, List.setIfInBounds_toArray, List.set_cons_zero, List.set_cons_succ]
      refine wpAnyM_take (i := 2) rfl rfl (by kernel_rfl) (by kernel_rfl) (by kernel_rfl) (by kernel_rfl) (by kernel_rfl) (by kernel_rfl) (fun _ _ _ h => h) HS0.out (yieldsIf_load_mid (by rfl) 101 _ rfl wr.heap.size 0 rfl [.int .i64 0, .int .i64 0, .int .i64 0, .int .i64 0, .int .i64 1] _ (fun _ h => h.2.1) Tryz.underlying101 rfl (by kernel_rfl)) ?_
      try simp only [Act.put, List.getElem_toArray, List.getElem_cons_zero, List.getElem_cons_succ, List.setIfInBounds_toArray, List.set_cons_zero, List.set_cons_succ]
      refine wpAnyM_take (i := 4) (v := ?_) rfl rfl (by kernel_rfl) (by kernel_rfl) (by kernel_rfl) (by kernel_rfl) (by kernel_rfl) (by kernel_rfl) (fun _ _ _ h => h) HS0.out (Or.inl ⟨by rfl, ?_⟩) ?_
      rotate_left
      · rintro w ⟨q0, q1, q2⟩; go_simp; try with_reducible rfl
      try simp only [Act.put, List.getElem_toArray, List.getElem_cons_zero, List.getElem_cons_succ, List.setIfInBounds_toArray, List.set_cons_zero, List.set_cons_succ]
      refine wpAnyM_take (i := 5) (v := ?_) rfl rfl (by kernel_rfl) (by kernel_rfl) (by kernel_rfl) (by kernel_rfl) (by kernel_rfl) (by kernel_rfl) (fun _ _ _ h => h) HS0.out (Or.inl ⟨by rfl, ?_⟩) ?_
      rotate_left
      · rintro w ⟨q0, q1, q2⟩; go_simp; try with_reducible rfl
      try simp only [Act.put, List.getElem_toArray, List.getElem_cons_zero, List.getElem_cons_succ, List.setIfInBounds_toArray, List.set_cons_zero, List.set_cons_succ]
      refine wpAnyM_take (i := 6) (v := ?_) rfl rfl (by kernel_rfl) (by kernel_rfl) (by kernel_rfl) (by kernel_rfl) (by kernel_rfl) (by kernel_rfl) (fun _ _ _ h => h) HS0.out (Or.inl ⟨by rfl, ?_⟩) ?_
      rotate_left
      · rintro w ⟨q0, q1, q2⟩; go_simp; try with_reducible rfl
      try simp only [Act.put, List.getElem_toArray, List.getElem_cons_zero, List.getElem_cons_succ, List.setIfInBounds_toArray, List.set_cons_zero, List.set_cons_succ]
      refine wpAnyM_one (i := 3) rfl (by kernel_rfl) (fun K hK => ?_)
      go_simp
      have hbw : Below w.heap.size w W1.drew := below_drw HB.out.2.2.2
      refine (weighed_ok a b c d e 0 0 0 0 1 W1.drew (Hx.out.1.below hbw) (Hx.out.2.1.below hbw) (Hx.out.2.2.1.below hbw) (Hx.out.2.2.2.1.below hbw) (Hx.out.2.2.2.2.1.below hbw) (by decide)).mono ?_
      rintro z w3 ⟨s3, A3, n3, c3, zs, rfl, hS, hb3⟩
      have hb3' : Below W1.heap.size W1 w3 := belowA hb3
      have HS3 : Hid (Sg X w3 s3 A3 n3 c3 zs (a.v * 0 + (b.v * 0 + (c.v * 0 + (d.v * 0 + e.v * 1)))) ∧ Below W1.heap.size W1 w3 ∧ n3 ≤ 40001 ∧ X.heap.size ≤ w3.heap.size ∧ ∀ a, A3 = some a → W1.heap.size ≤ a.block) := by
        have h2 := HL.out _ _ _ _ _ _ _ (by decide) hS.1.2.1 hS.2.1 hS.2.2.1
        have h3 : X.heap.size ≤ W1.heap.size := by have := H.out.1.2.2.2.2.1; have := HB.out.2.1; omega
        have h4 := hb3'.size
        refine ⟨hS.base h3, hb3', by rw [hS.1.1] at h2; omega, by omega, fun a ha => ?_⟩
        exact nw_fresh hS.1 a ha
      have HSb := Lib.hid (HS0.out.below hb3)
      have HS1 : Hid (SB w.heap.size wr.heap.size 4 (snL a b c d e) [.int .i64 0, .int .i64 0, .int .i64 0, .int .i64 0, .int .i64 1] (.int .u64 1) W1) := HS0.out
      clear hS hb3 hb3' hbw HS0
      refine hK.out _ _ (fun _ => HSb.out) ?_
      clear hK K
      try simp only [Act.put, List.getElem_toArray, List.getElem_cons_zero, List.getElem_cons_succ, List.setIfInBounds_toArray, List.set_cons_zero, List.set_cons_succ]
      refine wpAnyM_one (i := 7) rfl (by kernel_rfl) (fun K hK => ?_)
      go_simp
      refine (divided_one X s3 A3 n3 c3 zs w3 HS3.out.1.1 HS3.out.1.2.1).mono ?_
      rintro z w4 ⟨A4, k4, c4, us, rfl, hN, hCu, hVu, hbl⟩
      have hb4 : Below W1.heap.size w3 w4 := hbl W1.heap.size HS3.out.2.1.size HS3.out.2.2.2.2
      have HSd : Hid (SB w.heap.size wr.heap.size 4 (snL a b c d e) [.int .i64 0, .int .i64 0, .int .i64 0, .int .i64 0, .int .i64 1] (.int .u64 1) w4) := HS1.out.below (HS3.out.2.1.trans hb4)
      have HD := Lib.hid (And.intro hN (And.intro hCu (And.intro hVu (HB.out.1.trans ((HS3.out.2.1.trans hb4).mono HB.out.1.size)))))
      clear hN hCu hVu hbl hb4 HSb HS1
      refine hK.out _ _ (fun _ => HSd.out) ?_
      clear hK K
      obtain ⟨g, hg⟩ : ∃ g, decide (V zs % 1 = 0) = g := ⟨_, rfl⟩
      rw [hg]
      have Hg := Lib.hid hg
      clear hg
      have hA := H.out.1.below HD.out.2.2.2
      obtain ⟨p0, f0⟩ := hA.1 8 _ HX.out.1
      obtain ⟨p1, f1⟩ := hA.1 9 _ HX.out.2
      clear hA
      try simp only [Act.put, List.getElem_toArray, List.getElem_cons_zero, List.getElem_cons_succ, List.setIfInBounds_toArray, List.set_cons_zero, List.set_cons_succ]
      refine wpAnyM_take (i := 8) (v := ?_) rfl rfl (by kernel_rfl) (by kernel_rfl) (by kernel_rfl) (by kernel_rfl) (by kernel_rfl) (by kernel_rfl) (fun _ _ _ h => h) HSd.out (Or.inl ⟨by rfl, ?_⟩) ?_
      rotate_left
      · rintro w ⟨q0, q1, q2⟩; go_simp; try with_reducible rfl
      try simp only [Act.put, List.getElem_toArray, List.getElem_cons_zero, List.getElem_cons_succ, List.setIfInBounds_toArray, List.set_cons_zero, List.set_cons_succ]
      refine wpAnyM_take (i := 9) (v := ?_) rfl rfl (by kernel_rfl) (by kernel_rfl) (by kernel_rfl) (by kernel_rfl) (by kernel_rfl) (by kernel_rfl) (fun _ _ _ h => h) HSd.out (Or.inl ⟨by rfl, ?_⟩) ?_
      rotate_left
      · rintro w ⟨q0, q1, q2⟩; go_simp; try with_reducible rfl
      try simp only [Act.put, List.getElem_toArray, List.getElem_cons_zero, List.getElem_cons_succ, List.setIfInBounds_toArray, List.set_cons_zero, List.set_cons_succ]
      refine wpAnyM_take (i := 11) (v := ?_) rfl rfl (by kernel_rfl) (by kernel_rfl) (by kernel_rfl) (by kernel_rfl) (by kernel_rfl) (by kernel_rfl) (fun _ _ _ h => h) HSd.out (Or.inl ⟨by rfl, ?_⟩) ?_
      rotate_left
      · rintro w ⟨q0, q1, q2⟩; go_simp; try with_reducible rfl
      try simp only [Act.put, List.getElem_toArray, List.getElem_cons_zero, List.getElem_cons_succ, List.setIfInBounds_toArray, List.set_cons_zero, List.set_cons_succ]
      refine wpAnyM_ready [10, 12] (by kernel_rfl) (by simp) ?_
      intro i hi
      simp only [List.mem_cons, List.not_mem_nil, or_false] at hi
      rcases hi with rfl | rfl
      · refine ⟨_, rfl, fun K hK => ?_⟩
        go_simp
        refine hK.out _ _ (fun _ => HSd.out) ?_
        clear hK K
        try simp only [Act.put, List.getElem_toArray, List.getElem_cons_zero, List.getElem_cons_succ, List.setIfInBounds_toArray, List.set_cons_zero, List.set_cons_succ]
        refine wpAnyM_one (i := 12) rfl (by kernel_rfl) (fun K hK => ?_)
        go_simp
        refine hK.out _ _ (fun h => absurd h (by decide)) ?_
        clear hK K
        try simp only [Act.put, List.getElem_toArray, List.getElem_cons_zero, List.getElem_cons_succ, List.setIfInBounds_toArray, List.set_cons_zero, List.set_cons_succ]
        refine wpAnyM_one (i := 13) rfl (by kernel_rfl) (fun K hK => ?_)
        go_simp
        refine hK.out _ _ (fun h => absurd h (by decide)) ?_
        clear hK K
        try simp only [Act.put, List.getElem_toArray, List.getElem_cons_zero, List.getElem_cons_succ, List.setIfInBounds_toArray, List.set_cons_zero, List.set_cons_succ]
        refine wpAnyM_done (by kernel_rfl) ?_ _
        clear HSd
        by_cases hz : V zs % 1 = 0
        · obtain rfl : true = g := by rw [← Hg.out, decide_eq_true hz]
          obtain ⟨hS4, hdv⟩ := HS3.out.1.div HD.out.1 HD.out.2.1 HD.out.2.2.1 (d := 1) (by omega) hz
          have HN := Lib.hid (BvI.next (k := 4) (r := ⟨s3, A4, k4, c4, us⟩) (u := (a.v * 0 + (b.v * 0 + (c.v * 0 + (d.v * 0 + e.v * 1))))) (by omega) H.out HD.out.2.2.2 hS4 hdv (by simp [wtS]; try omega))
          clear hS4 hdv H HX HD HS3 p0 f0 p1 f1 HB
          go_wp2_with (fail)
          go_roundw
          case rel => exact ⟨5, _, _, by omega, rfl, HN⟩
          case measure => (simp [intOf]; try omega)
        · obtain rfl : false = g := by rw [← Hg.out, decide_eq_false hz]
          have hnd := HS3.out.1.ndvd (d := 1) hz
          have HN := Lib.hid (back_not (k := 4) (u := (a.v * 0 + (b.v * 0 + (c.v * 0 + (d.v * 0 + e.v * 1))))) (p := .bool s3) (q := .slice A4 k4 c4) (i := 8) (j := 9) H.out HD.out.2.2.2 hnd (by simp [wtS]; try omega) zero10)
          have HP := Lib.hid (back_there (p := .bool s3) (q := .slice A4 k4 c4) (i := 8) (j := 9) H.out HD.out.2.2.2)
          clear hnd H HX HD HS3 p0 f0 p1 f1 HB
          go_wp2_with (first | (refine wpList_store_mid rfl 72 _ _ rfl (w.heap.size + 1) 0 zero10.toArray rfl rfl HP.out (by kernel_rfl) (by simp [zero10, Value.oneCell']) ?_))
          have hl := run_loadVar_mid (P := Tryz.prog) (((w4.setCell ⟨w.heap.size + 2, 8, none⟩ (.bool s3)).setCell ⟨w.heap.size + 2, 9, none⟩ (.slice A4 k4 c4)).setCells (w.heap.size + 1) 0 zero10) (w.heap.size + 1) 0 72 zero10 _ (World.rangeAt_setCells_same _ _ _ _ HP.out) Tryz.underlying72 rfl (by kernel_rfl)
          exact bodyPost_ret (v := .tuple #[.agg zero10.toArray, .bool false]) (by simp [results, Tryz.results35, Act.put, asAddr, hl]) rfl HN.out
      · refine ⟨_, rfl, fun K hK => ?_⟩
        go_simp
        refine hK.out _ _ (fun h => absurd h (by decide)) ?_
        clear hK K
        try simp only [Act.put, List.getElem_toArray, List.getElem_cons_zero, List.getElem_cons_succ, List.setIfInBounds_toArray, List.set_cons_zero, List.set_cons_succ]
        refine wpAnyM_one (i := 10) rfl (by kernel_rfl) (fun K hK => ?_)
        go_simp
        refine hK.out _ _ (fun h => absurd h (by decide)) ?_
        clear hK K
        try simp only [Act.put, List.getElem_toArray, List.getElem_cons_zero, List.getElem_cons_succ, List.setIfInBounds_toArray, List.set_cons_zero, List.set_cons_succ]
        refine wpAnyM_one (i := 13) rfl (by kernel_rfl) (fun K hK => ?_)
        go_simp
        refine hK.out _ _ (fun h => absurd h (by decide)) ?_
        clear hK K
        try simp only [Act.put, List.getElem_toArray, List.getElem_cons_zero, List.getElem_cons_succ, List.setIfInBounds_toArray, List.set_cons_zero, List.set_cons_succ]
        refine wpAnyM_done (by kernel_rfl) ?_ _
        clear HSd
        by_cases hz : V zs % 1 = 0
        · obtain rfl : true = g := by rw [← Hg.out, decide_eq_true hz]
          obtain ⟨hS4, hdv⟩ := HS3.out.1.div HD.out.1 HD.out.2.1 HD.out.2.2.1 (d := 1) (by omega) hz
          have HN := Lib.hid (BvI.next (k := 4) (r := ⟨s3, A4, k4, c4, us⟩) (u := (a.v * 0 + (b.v * 0 + (c.v * 0 + (d.v * 0 + e.v * 1))))) (by omega) H.out HD.out.2.2.2 hS4 hdv (by simp [wtS]; try omega))
          clear hS4 hdv H HX HD HS3 p0 f0 p1 f1 HB
          go_wp2_with (fail)
          go_roundw
          case rel => exact ⟨5, _, _, by omega, rfl, HN⟩
          case measure => (simp [intOf]; try omega)
        · obtain rfl : false = g := by rw [← Hg.out, decide_eq_false hz]
          have hnd := HS3.out.1.ndvd (d := 1) hz
          have HN := Lib.hid (back_not (k := 4) (u := (a.v * 0 + (b.v * 0 + (c.v * 0 + (d.v * 0 + e.v * 1))))) (p := .bool s3) (q := .slice A4 k4 c4) (i := 8) (j := 9) H.out HD.out.2.2.2 hnd (by simp [wtS]; try omega) zero10)
          have HP := Lib.hid (back_there (p := .bool s3) (q := .slice A4 k4 c4) (i := 8) (j := 9) H.out HD.out.2.2.2)
          clear hnd H HX HD HS3 p0 f0 p1 f1 HB
          go_wp2_with (first | (refine wpList_store_mid rfl 72 _ _ rfl (w.heap.size + 1) 0 zero10.toArray rfl rfl HP.out (by kernel_rfl) (by simp [zero10, Value.oneCell']) ?_))
          have hl := run_loadVar_mid (P := Tryz.prog) (((w4.setCell ⟨w.heap.size + 2, 8, none⟩ (.bool s3)).setCell ⟨w.heap.size + 2, 9, none⟩ (.slice A4 k4 c4)).setCells (w.heap.size + 1) 0 zero10) (w.heap.size + 1) 0 72 zero10 _ (World.rangeAt_setCells_same _ _ _ _ HP.out) Tryz.underlying72 rfl (by kernel_rfl)
          exact bodyPost_ret (v := .tuple #[.agg zero10.toArray, .bool false]) (by simp [results, Tryz.results35, Act.put, asAddr, hl]) rfl HN.out
    · obtain ⟨r0, r1, r2, r3, r4, rfl⟩ := list5 H.out.1.2.1
      have hrg : wr.rangeAt (w.heap.size + 2) 0 (snL r0 r1 r2 r3 r4) := H.out.1.1.range
      have hth := H.out.2.2.2.1.there
      have HP := Lib.hid (And.intro hrg hth)
      clear hrg hth
      go_wp2_with (first | (refine wpList_load_mid rfl 72 _ rfl (w.heap.size + 2) 0 rfl (snL r0 r1 r2 r3 r4) _ HP.out.1 Tryz.underlying72 rfl (by kernel_rfl) ?_) | (refine wpList_store_mid rfl 72 _ _ rfl (w.heap.size + 1) 0 (snL r0 r1 r2 r3 r4).toArray rfl rfl HP.out.2 (by kernel_rfl) (by simp [Value.oneCell']) ?_))
      have hl := run_loadVar_mid (P := Tryz.prog) (wr.setCells (w.heap.size + 1) 0 (snL r0 r1 r2 r3 r4)) (w.heap.size + 1) 0 72 (snL r0 r1 r2 r3 r4) _ (World.rangeAt_setCells_same _ _ _ _ HP.out.2) Tryz.underlying72 rfl (by kernel_rfl)
      exact bodyPost_ret (v := .tuple #[snV r0 r1 r2 r3 r4, .bool true]) (by simp [results, Tryz.results35, Act.put, asAddr, hl]) rfl (back_done H.out)
end Go.Proofs.YthpgdpkemnhneaaGreatDoor
