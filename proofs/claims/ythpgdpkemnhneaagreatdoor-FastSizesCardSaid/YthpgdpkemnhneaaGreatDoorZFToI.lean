/- What stands between two rounds of toom's products. -/
import Derived.Test.YthpgdpkemnhneaaGreatDoorZFToA
import Derived.Test.YthpgdpkemnhneaaGreatDoorZFKar
import Derived.Test.YthpgdpkemnhneaaGreatDoorP9
namespace Go.Proofs.YthpgdpkemnhneaaGreatDoor
open Go.RowKit Go.Shelf
set_option linter.unusedVariables false
set_option linter.unusedSimpArgs false
set_option maxRecDepth 10000

theorem Sl.far {W : World} {A : Option Addr} {n c b j : Nat} {xs : List Nat} {u : Value} (h : Sl W A n c xs) (hne : n ≠ 0 → ∀ a, A = some a → a.block ≠ b) : Sl (W.setCell ⟨b, j, none⟩ u) A n c xs :=
  ⟨h.1, h.2.1, h.2.2.1, h.2.2.2.1, fun hx => by
    obtain ⟨b', o, e, hlt, hc⟩ := h.2.2.2.2 hx
    have hn : n ≠ 0 := by
      intro h0
      apply hx
      have := h.1
      rw [h0] at this
      rw [List.eq_nil_of_length_eq_zero this]; rfl
    have hb := hne hn _ e
    exact ⟨b', o, e, by simpa [World.setCell] using hlt, fun j' u' hj => by
      rw [World.cell?_setCell_other _ _ _ _ (by intro e2; injection e2 with e2; exact hb e2.symm)]; exact hc j' u' hj⟩⟩
theorem sl_lt {W : World} {A : Option Addr} {n c : Nat} {xs : List Nat} (h : Sl W A n c xs) : n ≠ 0 → ∀ a, A = some a → a.block < W.heap.size := fun hn a ha => by
  obtain ⟨b, o, e, hb, _⟩ := h.2.2.2.2 (by intro h0; have := congrArg List.length h0; rw [uvs_length, h.1] at this; exact hn this)
  rw [ha] at e
  injection e with e
  subst e
  exact hb
/-- a short value has few words -/
theorem sn_len {W : World} {r : Sn} {k : Nat} (h : Sc W r.A r.n r.c r.xs) (hv : r.v.natAbs < B64 ^ k) : r.n ≤ k := by
  rw [Sn.v, sgn_abs] at hv
  rw [← h.1.1]
  exact (Cn_len h.1.2.2.2.1 h.2 k).2 hv
theorem seven (h : Nat) : 7 * B64 ^ h ≤ B64 ^ (h + 1) := by
  rw [Nat.pow_succ, Nat.mul_comm]
  exact Nat.mul_le_mul_left _ (by decide)
theorem th_lt {x y z h : Nat} (hx : x < B64 ^ h) (hy : y < B64 ^ h) (hz : z < B64 ^ h) {i : Nat} {v : Int} (hv : (thS x y z)[i]? = some v) : v.natAbs < B64 ^ (h + 1) := by
  have h7 := seven h
  generalize B64 ^ h = B at *
  generalize B64 ^ (h + 1) = C at *
  rw [thS] at hv
  match i, hv with
  | 0, hv => simp at hv; omega
  | 1, hv => simp at hv; omega
  | 2, hv => simp at hv; omega
  | 3, hv => simp at hv; omega
  | 4, hv => simp at hv; omega
/-- the values, the first k of them multiplied -/
def prS (S T : List Int) (k : Nat) : List Int := (List.range 5).map fun i => if i < k then S.getD i 0 * T.getD i 0 else S.getD i 0
theorem prS_zero {S T : List Int} (h : S.length = 5) : prS S T 0 = S := by
  obtain ⟨a, b, c, d, e, rfl⟩ := list5 h
  rfl
theorem prS_five {S T : List Int} (h : S.length = 5) (h' : T.length = 5) : prS S T 5 = List.zipWith (· * ·) S T := by
  obtain ⟨a, b, c, d, e, rfl⟩ := list5 h
  obtain ⟨a', b', c', d', e', rfl⟩ := list5 h'
  rfl
theorem prS_succ {S T : List Int} {k : Nat} (hk : k < 5) : prS S T (k + 1) = (prS S T k).set k (S.getD k 0 * T.getD k 0) := by
  rcases (show k = 0 ∨ k = 1 ∨ k = 2 ∨ k = 3 ∨ k = 4 by omega) with rfl | rfl | rfl | rfl | rfl <;> rfl
theorem prS_at {S T : List Int} {k : Nat} (hk : k < 5) : (prS S T k)[k]? = some (S.getD k 0) := by
  rcases (show k = 0 ∨ k = 1 ∨ k = 2 ∨ k = 3 ∨ k = 4 by omega) with rfl | rfl | rfl | rfl | rfl <;> rfl
def TmI (w W : World) (bv bw h : Nat) (R Q : List Sn) (S T : List Int) (k : Nat) : Prop :=
  (Bk W bv (R.flatMap sncs) ∧ Bk W bw (Q.flatMap sncs) ∧ R.length = 5 ∧ Q.length = 5) ∧
  (∀ (i : Nat) (r : Sn), R[i]? = some r → Sc W r.A r.n r.c r.xs ∧ (r.n ≠ 0 → ∀ a, r.A = some a → a.block ≠ bv) ∧ r.n ≤ 10000 ∧ (k ≤ i → r.n ≤ h + 1)) ∧
  (∀ (i : Nat) (q : Sn), Q[i]? = some q → Sc W q.A q.n q.c q.xs ∧ (q.n ≠ 0 → ∀ a, q.A = some a → a.block ≠ bv) ∧ q.n ≤ h + 1) ∧
  (R.map Sn.v = prS S T k ∧ Q.map Sn.v = T ∧ T.length = 5 ∧ S.length = 5) ∧
  (Below w.heap.size w W ∧ bv < W.heap.size ∧ bw < W.heap.size ∧ w.heap.size ≤ bv ∧ bv ≠ bw)
theorem TmI.rv {w W : World} {bv bw h : Nat} {R Q : List Sn} {S T : List Int} {k : Nat} {r q : Sn} (H : TmI w W bv bw h R Q S T k) (hk : k < 5) (hr : R[k]? = some r) (hq : Q[k]? = some q) : r.v = S.getD k 0 ∧ q.v = T.getD k 0 := by
  obtain ⟨-, -, -, ⟨h1, h2, -⟩, -⟩ := H
  have e1 := prS_at (S := S) (T := T) hk
  rw [← h1, List.getElem?_map, hr] at e1
  refine ⟨by simpa using e1, ?_⟩
  rw [← h2, List.getD_eq_getElem?_getD, List.getElem?_map, hq]
  rfl
theorem TmI.next {w W W0 W' : World} {bv bw h : Nat} {R Q : List Sn} {S T : List Int} {k : Nat} {r q : Sn} {s : Bool} {A : Option Addr} {n c : Nat} {zs : List Nat} (H : TmI w W bv bw h R Q S T k) (hk : k < 5) (hr : R[k]? = some r) (hq : Q[k]? = some q)
    (hb : Below W.heap.size W W') (hN : Nw W0 W' (.slice A n c) n zs) (hc : Cn zs) (h0 : W.heap.size ≤ W0.heap.size) (hn : n ≤ 10000) (hv : sgn s (V zs) = r.v * q.v) :
    TmI w ((W'.setCell ⟨bv, 2 * k, none⟩ (.bool s)).setCell ⟨bv, 2 * k + 1, none⟩ (.slice A n c)) bv bw h (R.set k ⟨s, A, n, c, zs⟩) Q S T (k + 1) := by
  obtain ⟨e1, e2⟩ := H.rv hk hr hq
  obtain ⟨⟨h1, h2, h3, h4⟩, h5, h6, ⟨h7, h8, h9, h9'⟩, h10, h11, h12, h13, h14⟩ := H
  have hsc := hN.sc hc
  have hfr := nw_fresh hN
  refine ⟨⟨?_, ((h2.below hb h12).far (Ne.symm h14) _ _).far (Ne.symm h14) _ _, by simp [h3], h4⟩, fun i r' hi => ?_, fun i q' hi => ?_, ⟨?_, h8, h9, h9'⟩, ?_, ?_, ?_, h13, h14⟩
  · rw [flat_set R k _ (by omega)]
    exact ((h1.below hb h11).set1 _ _).set1 _ _
  · rcases Nat.decEq i k with hne | rfl
    · rw [List.getElem?_set_ne (Ne.symm hne)] at hi
      obtain ⟨g1, g2, g3, g4⟩ := h5 i r' hi
      have g1' := g1.below hb
      exact ⟨⟨(g1'.1.far g2).far g2, g1'.2⟩, g2, g3, fun h => g4 (by omega)⟩
    · rw [List.getElem?_set_self (by omega)] at hi
      injection hi with hi
      subst hi
      have hne : n ≠ 0 → ∀ a, A = some a → a.block ≠ bv := fun _ a ha => by have := hfr a ha; omega
      exact ⟨⟨(hsc.1.far hne).far hne, hc⟩, hne, hn, fun h => by omega⟩
  · obtain ⟨g1, g2, g3⟩ := h6 i q' hi
    have g1' := g1.below hb
    exact ⟨⟨(g1'.1.far g2).far g2, g1'.2⟩, g2, g3⟩
  · rw [prS_succ hk, ← h7, ← e1, ← e2, ← hv, List.map_set]
    rfl
  · exact ((h10.trans (hb.mono h10.size)).setCell (p := ⟨bv, 2 * k, none⟩) h13 _).setCell (p := ⟨bv, 2 * k + 1, none⟩) h13 _
  · have := hb.size; simp [World.setCell]; omega
  · have := hb.size; simp [World.setCell]; omega
theorem TmI.kbox {w W : World} {bv bw h pl pp least f : Nat} {R Q : List Sn} {S T : List Int} {k : Nat} (H : TmI w W bv bw h R Q S T k) (hK : KBox w pl pp least f) : KBox W pl pp least f := hK.below H.2.2.2.2.1
/-- the coefficients of the product, and how long they are -/
def cfS (x y z a b c : Nat) : List Int := [((x * a : Nat) : Int), ((x * b + y * a : Nat) : Int), ((x * c + y * b + z * a : Nat) : Int), ((y * c + z * b : Nat) : Int), ((z * c : Nat) : Int)]
theorem cf_lt {x y z a b c h : Nat} (hx : x < B64 ^ h) (hy : y < B64 ^ h) (hz : z < B64 ^ h) (ha : a < B64 ^ h) (hb : b < B64 ^ h) (hc : c < B64 ^ h) {v : Int} (hv : v ∈ cfS x y z a b c) : v.natAbs < B64 ^ (h + h + 1) := by
  have h7 := seven (h + h)
  rw [Nat.pow_add B64 h h] at h7
  have m : ∀ p q : Nat, p < B64 ^ h → q < B64 ^ h → p * q < B64 ^ h * B64 ^ h := fun p q hp hq => Nat.mul_lt_mul'' hp hq
  have m1 := m x a hx ha
  have m2 := m x b hx hb
  have m3 := m x c hx hc
  have m4 := m y a hy ha
  have m5 := m y b hy hb
  have m6 := m y c hy hc
  have m7 := m z a hz ha
  have m8 := m z b hz hb
  have m9 := m z c hz hc
  clear hx hy hz ha hb hc m
  generalize B64 ^ h * B64 ^ h = P at *
  generalize B64 ^ (h + h + 1) = C at *
  simp only [cfS, List.mem_cons, List.not_mem_nil, or_false] at hv
  rcases hv with rfl | rfl | rfl | rfl | rfl <;> (rw [Int.natAbs_natCast]; omega)
theorem pw_lt {W : World} {A : Option Addr} {L c n i : Nat} {xs : List Nat} (h : Sl W A L c xs) : V (pw xs n i) < B64 ^ n := by
  have hw : Ws (pw xs n i) := fun x hx => h.2.2.2.1 x (List.mem_of_mem_drop (List.mem_of_mem_take hx))
  have h1 := V_lt _ hw
  refine Nat.lt_of_lt_of_le h1 (Nat.pow_le_pow_right B64_pos ?_)
  rw [pw, List.length_take]
  omega
/-- the sum of the coefficients' places is the product -/
theorem toom_done {W : World} {A A' : Option Addr} {L L' c' c'' n : Nat} {xs ys : List Nat} {a b c d e : Sn} (hx : Sl W A L c' xs) (hy : Sl W A' L' c'' ys) (h3 : L ≤ 3 * n) (h3' : L' ≤ 3 * n)
    (hv : [a.v, b.v, c.v, d.v, e.v] = cfS (V (pw xs n 0)) (V (pw xs n 1)) (V (pw xs n 2)) (V (pw ys n 0)) (V (pw ys n 1)) (V (pw ys n 2)))
    (h0 : ∀ s ∈ [a, b, c, d, e], s.n = 0 → s.v = 0) : tsum (FT [a, b, c, d, e] n 5) = ((V xs * V ys : Nat) : Int) := by
  rw [FT_sum (k := 4) rfl (h0 e (by simp)), FT_sum (k := 3) rfl (h0 d (by simp)), FT_sum (k := 2) rfl (h0 c (by simp)), FT_sum (k := 1) rfl (h0 b (by simp)), FT_sum (k := 0) rfl (h0 a (by simp))]
  simp only [cfS, List.cons.injEq, and_true] at hv
  obtain ⟨v0, v1, v2, v3, v4⟩ := hv
  rw [v0, v1, v2, v3, v4, V_thirds hx.2.2.2.1 (by rw [hx.1]; exact h3), V_thirds hy.2.2.2.1 (by rw [hy.1]; exact h3')]
  have hz : tsum (FT [a, b, c, d, e] n 0) = 0 := rfl
  rw [hz]
  have p2 : B64 ^ (n * 2) = B64 ^ n * B64 ^ n := by rw [← Nat.pow_add]; congr 1; omega
  have p3 : B64 ^ (n * 3) = B64 ^ (n * 2) * B64 ^ n := by rw [← Nat.pow_add]; congr 1
  have p4 : B64 ^ (n * 4) = B64 ^ (n * 2) * B64 ^ (n * 2) := by rw [← Nat.pow_add]; congr 1; omega
  have key := toom_sum (x := V (pw xs n 0)) (y := V (pw xs n 1)) (z := V (pw xs n 2)) (a := V (pw ys n 0)) (b := V (pw ys n 1)) (c := V (pw ys n 2)) p2 p3 p4
  rw [show 2 * n = n * 2 by omega, ← key, Nat.mul_zero, Nat.mul_one, Nat.pow_zero]
  omega
/-- the two arrays as they are made -/
theorem TmI.start {w w1 w2 : World} {h : Nat} {a b c d e a2 b2 c2 d2 e2 : Sn} {t : TypeId} {x y z x2 y2 z2 : Nat}
    (hs : ∀ s ∈ [a, b, c, d, e], Sc w1 s.A s.n s.c s.xs) (hv : [a.v, b.v, c.v, d.v, e.v] = thS x y z) (hb1 : Below w.heap.size w w1)
    (hs2 : ∀ s ∈ [a2, b2, c2, d2, e2], Sc w2 s.A s.n s.c s.xs) (hv2 : [a2.v, b2.v, c2.v, d2.v, e2.v] = thS x2 y2 z2) (hb2 : Below w1.heap.size w1 w2)
    (hl : ∀ (i : Nat) (v : Int), (thS x y z)[i]? = some v → v.natAbs < B64 ^ (h + 1)) (hl2 : ∀ (i : Nat) (v : Int), (thS x2 y2 z2)[i]? = some v → v.natAbs < B64 ^ (h + 1)) (hh : h ≤ 1366) :
    TmI w ((w2.alloc (.cells (snL a b c d e).toArray t)).alloc (.cells (snL a2 b2 c2 d2 e2).toArray t)) w2.heap.size (w2.heap.size + 1) h [a, b, c, d, e] [a2, b2, c2, d2, e2] (thS x y z) (thS x2 y2 z2) 0 := by
  have hB1 : Below w2.heap.size w2 (w2.alloc (.cells (snL a b c d e).toArray t)) := (Below.refl _ _).alloc (Nat.le_refl _) _
  have hB2 : Below (w2.alloc (.cells (snL a b c d e).toArray t)).heap.size (w2.alloc (.cells (snL a b c d e).toArray t)) ((w2.alloc (.cells (snL a b c d e).toArray t)).alloc (.cells (snL a2 b2 c2 d2 e2).toArray t)) := (Below.refl _ _).alloc (Nat.le_refl _) _
  have hB : Below w2.heap.size w2 ((w2.alloc (.cells (snL a b c d e).toArray t)).alloc (.cells (snL a2 b2 c2 d2 e2).toArray t)) := hB1.trans (hB2.mono (by simp))
  have k1 := (Bk.new w2 (snL a b c d e) t).below hB2 (by simp)
  have k2 := Bk.new (w2.alloc (.cells (snL a b c d e).toArray t)) (snL a2 b2 c2 d2 e2) t
  rw [World.size_alloc] at k2
  have g : ∀ (l : List Sn) (L : List Int) (W : World), l.map Sn.v = L → (∀ s ∈ l, Sc W s.A s.n s.c s.xs) → (∀ (i : Nat) (v : Int), L[i]? = some v → v.natAbs < B64 ^ (h + 1)) → ∀ (i : Nat) (r : Sn), l[i]? = some r → r.n ≤ h + 1 := fun l L W e1 e2 e3 i r hr =>
    sn_len (e2 r (List.mem_of_getElem? hr)) (e3 i r.v (by rw [← e1, List.getElem?_map, hr]; rfl))
  have far : ∀ (W : World) (r : Sn), Sl W r.A r.n r.c r.xs → W.heap.size ≤ w2.heap.size → r.n ≠ 0 → ∀ a, r.A = some a → a.block ≠ w2.heap.size := fun W r h1 h2 h3 a h4 => by
    have := sl_lt h1 h3 a h4
    omega
  refine ⟨⟨k1, k2, rfl, rfl⟩, fun i r hi => ?_, fun i q hi => ?_, ⟨by rw [prS_zero rfl]; exact hv, hv2, rfl, rfl⟩, hb1.trans ((hb2.trans (hB.mono hb2.size)).mono hb1.size), by simp; omega, by simp, Nat.le_trans hb1.size hb2.size, by omega⟩
  · have hm := List.mem_of_getElem? hi
    have hn := g [a, b, c, d, e] (thS x y z) w1 hv hs hl i r hi
    exact ⟨((hs r hm).below hb2).below hB, far w1 r (hs r hm).1 hb2.size, by omega, fun _ => hn⟩
  · have hm := List.mem_of_getElem? hi
    exact ⟨(hs2 q hm).below hB, far w2 q (hs2 q hm).1 (Nat.le_refl _), g [a2, b2, c2, d2, e2] (thS x2 y2 z2) w2 hv2 hs2 hl2 i q hi⟩
end Go.Proofs.YthpgdpkemnhneaaGreatDoor
