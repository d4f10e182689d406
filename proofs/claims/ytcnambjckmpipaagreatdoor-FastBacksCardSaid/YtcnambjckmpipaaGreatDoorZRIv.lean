/- Integers of the reference by their values: what its functions answer for them. -/
import Derived.Test.YtcnambjckmpipaaGreatDoorZRHalf
import Derived.Test.YtcnambjckmpipaaGreatDoorZRVal
namespace Go.Proofs.YtcnambjckmpipaaGreatDoor
open Go.RowKit Go.Shelf
set_option linter.unusedVariables false
set_option linter.unusedSimpArgs false
set_option maxRecDepth 10000

/-- the bound of all values -/
def IB : Nat := B64 ^ 100
theorem IB_big {x : Nat} (h : x < IB) : x < Big := Big_of (k := 100) h (by omega)
/-- the struct (s, A, n, c) holds the integer z -/
def Iv (W : World) (s : Bool) (A : Option Addr) (n c : Nat) (z : Int) : Prop := ∃ xs, Sl W A n c xs ∧ sgn s (V xs) = z ∧ n ≤ 4000
theorem Iv.below {W W' : World} {s : Bool} {A : Option Addr} {n c : Nat} {z : Int} (h : Iv W s A n c z) (hb : Below W.heap.size W W') : Iv W' s A n c z := by
  obtain ⟨xs, h1, h2, h3⟩ := h
  exact ⟨xs, h1.below hb, h2, h3⟩
theorem Iv.al {W : World} {s : Bool} {A : Option Addr} {n c : Nat} {z : Int} (h : Iv W s A n c z) (o : Obj) : Iv (W.alloc o) s A n c z := h.below ((Below.refl _ _).alloc (Nat.le_refl _) _)
theorem Iv.dr {W : World} {s : Bool} {A : Option Addr} {n c : Nat} {z : Int} (h : Iv W s A n c z) : Iv W.drew s A n c z := h.below (Below.refl _ _).drew
theorem zr_n {w w' : World} {b : Bool} {A : Option Addr} {n c : Nat} {z : Int} (h : Zr w w' (.returned (.agg #[.bool b, .slice A n c])) z) (hz : z.natAbs < IB) : Iv w' b A n c z := by
  obtain ⟨A', n', c', zs, e, h1, h2, h3, h4⟩ := h
  injection e with e
  obtain ⟨e1, rfl, rfl, rfl⟩ := va_inj e
  obtain ⟨A5, c5, e5, hs⟩ := h1.sl
  injection e5 with e5 e6 e7
  subst e5 e7
  refine ⟨zs, hs, by rw [h3, e1]; exact sgn_can z, ?_⟩
  have h5 := Cn_len hs.2.2.2.1 h2 100
  rw [hs.1, h3] at h5
  unfold IB at hz
  omega
/-- what a call answers that hands back the integer z -/
def Ir (W w' : World) (e : Ending) (z : Int) : Prop := ∃ d A n c, e = .returned (.agg #[.bool d, .slice A n c]) ∧ Zr W w' (.returned (.agg #[.bool d, .slice A n c])) z ∧ Iv w' d A n c z ∧ Below W.heap.size W w'
theorem Zr.ir {W w' : World} {e : Ending} {z : Int} (h : Zr W w' e z) (hz : z.natAbs < IB) : Ir W w' e z := by
  obtain ⟨A, n, c, rfl, h1⟩ := h.val
  exact ⟨_, A, n, c, rfl, h1, zr_n h1 hz, h.bel⟩
theorem isub {W : World} {s s' : Bool} {A A' : Option Addr} {n n' c c' : Nat} {z z' : Int} (hx : Iv W s A n c z) (hy : Iv W s' A' n' c' z') (h : z.natAbs + z'.natAbs < IB) :
    Calls Tryz.prog 29 #[.agg #[.bool s, .slice A n c], .agg #[.bool s', .slice A' n' c']] W fun e w' => Ir W w' e (z - z') := by
  obtain ⟨xs, h1, rfl, h3⟩ := hx
  obtain ⟨ys, g1, rfl, g3⟩ := hy
  rw [sgn_abs, sgn_abs] at h
  refine (RSubZ_ok s s' A A' n n' c c' xs ys W (by omega) (by omega) h1 g1 (IB_big h)).mono fun e w' hR => hR.ir ?_
  have := Int.natAbs_sub_le (sgn s (V xs)) (sgn s' (V ys))
  rw [sgn_abs, sgn_abs] at this
  omega
theorem iadd {W : World} {s s' : Bool} {A A' : Option Addr} {n n' c c' : Nat} {z z' : Int} (hx : Iv W s A n c z) (hy : Iv W s' A' n' c' z') (h : z.natAbs + z'.natAbs < IB) :
    Calls Tryz.prog 33 #[.agg #[.bool s, .slice A n c], .agg #[.bool s', .slice A' n' c']] W fun e w' => Ir W w' e (z + z') := by
  obtain ⟨xs, h1, rfl, h3⟩ := hx
  obtain ⟨ys, g1, rfl, g3⟩ := hy
  rw [sgn_abs, sgn_abs] at h
  refine (RAddZ_ok s s' A A' n n' c c' xs ys W (by omega) (by omega) h1 g1 (IB_big h)).mono fun e w' hR => hR.ir ?_
  have := Int.natAbs_add_le (sgn s (V xs)) (sgn s' (V ys))
  rw [sgn_abs, sgn_abs] at this
  omega
theorem imul {W : World} {s s' : Bool} {A A' : Option Addr} {n n' c c' : Nat} {z z' : Int} (hx : Iv W s A n c z) (hy : Iv W s' A' n' c' z') (h : z.natAbs * z'.natAbs < IB) :
    Calls Tryz.prog 30 #[.agg #[.bool s, .slice A n c], .agg #[.bool s', .slice A' n' c']] W fun e w' => Ir W w' e (z * z') := by
  obtain ⟨xs, h1, rfl, h3⟩ := hx
  obtain ⟨ys, g1, rfl, g3⟩ := hy
  rw [sgn_abs, sgn_abs] at h
  refine (RMulZ_ok s s' A A' n n' c c' xs ys W (by omega) (by omega) h1 g1 (IB_big h)).mono fun e w' hR => hR.ir ?_
  rw [Int.natAbs_mul, sgn_abs, sgn_abs]
  exact h
theorem itrim {W : World} {s : Bool} {A : Option Addr} {n c : Nat} {z : Int} (hx : Iv W s A n c z) (h : z.natAbs < IB) :
    Calls Tryz.prog 34 #[.agg #[.bool s, .slice A n c]] W fun e w' => Ir W w' e z := by
  obtain ⟨xs, h1, rfl, h3⟩ := hx
  exact (RTrimZ_ok s A n c xs W (by omega) h1).mono fun e w' hR => hR.ir h
theorem ifrom {W : World} (z : Int) (h1 : -1000000 ≤ z) (h2 : z ≤ 1000000) :
    Calls Tryz.prog 31 #[.int .i64 z] W fun e w' => Ir W w' e z := by
  refine (RFrom_ok z W h1 h2).mono fun e w' hR => hR.ir ?_
  have h3 : B64 ^ 1 ≤ IB := Nat.pow_le_pow_right B64_pos (by omega)
  rw [Nat.pow_one] at h3
  have h4 : B64 = 18446744073709551616 := rfl
  omega
theorem q_bound {z q : Int} {k r : Nat} (h : z = q * k + r) (hr : r < k) : q.natAbs ≤ z.natAbs + 1 := by
  obtain ⟨m, hm⟩ : ∃ m, q.natAbs = m := ⟨_, rfl⟩
  obtain ⟨k1, rfl⟩ : ∃ k1, k = k1 + 1 := ⟨k - 1, by omega⟩
  have e1 : ((m * (k1 + 1) : Nat) : Int) = (m : Int) * ((k1 + 1 : Nat) : Int) := by rw [Int.natCast_mul]
  have e2 : m * (k1 + 1) = m * k1 + m := Nat.mul_succ _ _
  rw [hm]
  rcases Int.natAbs_eq q with h1 | h1
  · rw [hm] at h1
    rw [h1] at h
    rw [← e1] at h
    omega
  · rw [hm] at h1
    rw [h1, Int.neg_mul, ← e1] at h
    by_cases h0 : m = 0
    · omega
    · have : k1 ≤ m * k1 := Nat.le_mul_of_pos_left _ (by omega)
      omega
theorem ihalf {W : World} {s : Bool} {A : Option Addr} {n c : Nat} {z : Int} (k : Nat) (hx : Iv W s A n c z) (hk : 0 < k) (hk2 : k < 1000) (h : z.natAbs + 1 < IB) :
    Calls Tryz.prog 32 #[.agg #[.bool s, .slice A n c], .int .u64 k] W fun e w' => ∃ d A n c, ∃ (q : Int) (r : Nat), e = .returned (.tuple #[.agg #[.bool d, .slice A n c], .bool (decide (r = 0))]) ∧ z = q * k + r ∧ r < k ∧ q.natAbs ≤ z.natAbs + 1 ∧ Zr W w' (.returned (.agg #[.bool d, .slice A n c])) q ∧ Iv w' d A n c q ∧ Below W.heap.size W w' := by
  obtain ⟨xs, h1, rfl, h3⟩ := hx
  have h4 : B64 = 18446744073709551616 := rfl
  refine (RHalfZ_ok s A n c k xs W (by omega) h1 hk (by omega)).mono ?_
  rintro e w' ⟨u, q, r, rfl, hs, hr, hz⟩
  obtain ⟨A1, n1, c1, hE, hz1⟩ := hz.val
  injection hE with hE
  subst hE
  have hq := q_bound hs hr
  exact ⟨_, _, _, _, q, r, rfl, hs, hr, hq, hz1, zr_n hz1 (by omega), hz1.bel⟩
/-- the box p holds the integer z -/
def Ib (W : World) (p : Nat) (z : Int) : Prop := ∃ d A n c, W.cell? ⟨p, 0, none⟩ = some (.bool d) ∧ W.cell? ⟨p, 1, none⟩ = some (.slice A n c) ∧ Iv W d A n c z
theorem Ib.keep {W W' : World} {p : Nat} {z : Int} (h : Ib W p z) (hb : Below W.heap.size W W') : Ib W' p z := by
  obtain ⟨d, A, n, c, h1, h2, h3⟩ := h
  have k : ∀ {p : Addr} {u : Value}, W.cell? p = some u → W'.cell? p = some u := fun {p u} h => (hb.cell (World.block_lt_of_cell? _ _ h)).trans h
  exact ⟨d, A, n, c, k h1, k h2, h3.below hb⟩
/-- the box p holds the integer z, which is new behind X -/
def Nb (X W : World) (p : Nat) (z : Int) : Prop := ∃ d A n c, W.cell? ⟨p, 0, none⟩ = some (.bool d) ∧ W.cell? ⟨p, 1, none⟩ = some (.slice A n c) ∧ Iv W d A n c z ∧ Zr X W (.returned (.agg #[.bool d, .slice A n c])) z
theorem Nb.keep {X W W' : World} {p : Nat} {z : Int} (h : Nb X W p z) (hb : Below W.heap.size W W') : Nb X W' p z := by
  obtain ⟨d, A, n, c, h1, h2, h3, h4⟩ := h
  have k : ∀ {p : Addr} {u : Value}, W.cell? p = some u → W'.cell? p = some u := fun {p u} h => (hb.cell (World.block_lt_of_cell? _ _ h)).trans h
  exact ⟨d, A, n, c, k h1, k h2, h3.below hb, h4.later hb⟩
theorem Nb.base {X0 X W : World} {p : Nat} {z : Int} (h : Nb X W p z) (hb : Below X0.heap.size X0 X) : Nb X0 W p z := by
  obtain ⟨d, A, n, c, h1, h2, h3, h4⟩ := h
  exact ⟨d, A, n, c, h1, h2, h3, h4.from hb⟩
/-- how a statement ends that makes a box: the box is there, nothing older has changed -/
def Bn (X W : World) (p : Nat) (z : Int) : Prop := Nb X W p z ∧ Below X.heap.size X W ∧ X.heap.size ≤ p
theorem Bn.new {X Y W : World} {d : Bool} {A : Option Addr} {n c : Nat} {z : Int} (hb : Below X.heap.size X Y) (hz : Zr Y W (.returned (.agg #[.bool d, .slice A n c])) z) (h : Iv W d A n c z) : Bn X (W.alloc (.cells #[.bool d, .slice A n c] 26)) W.heap.size z := by
  have hk := Bk.new W [.bool d, .slice A n c] 26
  have hB := hb.trans (hz.bel.mono hb.size)
  exact ⟨⟨d, A, n, c, (hk 0 _ rfl).1, (hk 1 _ rfl).1, h.al _, (hz.from hb).later ((Below.refl _ _).alloc (Nat.le_refl _) _)⟩, hB.alloc hB.size _, hB.size⟩
theorem Bn.old {X Y W : World} {d : Bool} {A : Option Addr} {n c p : Nat} {z : Int} (hb : Below X.heap.size X Y) (hp : X.heap.size ≤ p) (h0 : Bx0 Y p) (hz : Zr Y W (.returned (.agg #[.bool d, .slice A n c])) z) (hB : z.natAbs < IB) : Bn X ((W.setCell ⟨p, 0, none⟩ (.bool d)).setCell ⟨p, 1, none⟩ (.slice A n c)) p z := by
  have h := HfP.old hb hp h0 hz
  exact ⟨⟨d, A, n, c, h.1.1, h.1.2, zr_n h.2.1 hB, h.2.1⟩, below_put2 (hb.trans (hz.bel.mono hb.size)) hp, hp⟩
/-- two boxes -/
theorem two_box {X : World} {s s' : Bool} {A A' : Option Addr} {n c n' c' : Nat} {z z' : Int} (h : Iv X s A n c z) (h' : Iv X s' A' n' c' z') :
    Below X.heap.size X ((X.alloc (.cells #[.bool s, .slice A n c] 26)).alloc (.cells #[.bool s', .slice A' n' c'] 26)).drew ∧
    Ib ((X.alloc (.cells #[.bool s, .slice A n c] 26)).alloc (.cells #[.bool s', .slice A' n' c'] 26)).drew X.heap.size z ∧
    Ib ((X.alloc (.cells #[.bool s, .slice A n c] 26)).alloc (.cells #[.bool s', .slice A' n' c'] 26)).drew (X.heap.size + 1) z' := by
  have hal : ∀ (W : World) (o : Obj), Below W.heap.size W (W.alloc o) := fun W o => (Below.refl _ _).alloc (Nat.le_refl _) _
  have hk := Bk.new X [.bool s, .slice A n c] 26
  have hk2 := Bk.new (X.alloc (.cells #[.bool s, .slice A n c] 26)) [.bool s', .slice A' n' c'] 26
  rw [World.size_alloc] at hk2
  have i1 : Ib (X.alloc (.cells #[.bool s, .slice A n c] 26)) X.heap.size z := ⟨_, _, _, _, (hk 0 _ rfl).1, (hk 1 _ rfl).1, h.al _⟩
  have i2 : Ib ((X.alloc (.cells #[.bool s, .slice A n c] 26)).alloc (.cells #[.bool s', .slice A' n' c'] 26)) (X.heap.size + 1) z' := ⟨_, _, _, _, (hk2 0 _ rfl).1, (hk2 1 _ rfl).1, (h'.al _).al _⟩
  exact ⟨(((Below.refl _ X).alloc (Nat.le_refl _) _).alloc (by simp) _).drew, (i1.keep (hal _ _)).keep (Below.refl _ _).drew, i2.keep (Below.refl _ _).drew⟩
end Go.Proofs.YtcnambjckmpipaaGreatDoor
