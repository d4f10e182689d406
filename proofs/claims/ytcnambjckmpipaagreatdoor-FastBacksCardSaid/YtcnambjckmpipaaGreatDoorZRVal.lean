/- The contract of reckonerref03.Value (of short lists). -/
import Derived.Test.YtcnambjckmpipaaGreatDoorZRZM
import Derived.Test.YtcnambjckmpipaaGreatDoorZLInts
import Derived.Test.YtcnambjckmpipaaGreatDoorP8
namespace Go.Proofs.YtcnambjckmpipaaGreatDoor
open Go.RowKit Go.Shelf
set_option linter.unusedVariables false
set_option linter.unusedSimpArgs false
set_option maxRecDepth 10000

/-- the value of the polynomial with these coefficients -/
def pvF (t : Int) : List Int → Int
  | [] => 0
  | a :: l => pvF t l * t + a
theorem pv_step {acc t z : Int} {k P : Nat} (ht : t.natAbs ≤ 10) (hz : z.natAbs ≤ P) (h : acc.natAbs ≤ P * 11 ^ k) : (acc * t + z).natAbs ≤ P * 11 ^ (k + 1) := by
  have h1 : (acc * t).natAbs ≤ P * 11 ^ k * 10 := by
    rw [Int.natAbs_mul]
    exact Nat.mul_le_mul h ht
  have h2 : P ≤ P * 11 ^ k := Nat.le_mul_of_pos_right P (Nat.pow_pos (by decide))
  rw [Nat.pow_succ, ← Nat.mul_assoc]
  generalize P * 11 ^ k = q at *
  omega
theorem pv_big {x : Int} {k : Nat} (h : x.natAbs ≤ B64 ^ 8 * 11 ^ k) (hk : k ≤ 9) : x.natAbs < B64 ^ 9 := by
  have h1 : B64 ^ 8 * 11 ^ k ≤ B64 ^ 8 * 11 ^ 9 := Nat.mul_le_mul_left _ (Nat.pow_le_pow_right (by decide) hk)
  have h2 : B64 ^ 8 * 11 ^ 9 < B64 ^ 9 := by decide
  omega
theorem va_len {w W : World} {a : Sn} {k n : Nat} (h : Nw w W (.slice a.A a.n a.c) a.n a.xs ∧ Cn a.xs ∧ a.s = decide (a.v < 0)) (hn : n = a.n) (hv : a.v.natAbs < B64 ^ k) : n ≤ k := by
  have hs := (h.1.sc h.2.1).1
  rw [Sn.v, sgn_abs] at hv
  have := (Cn_len hs.2.2.2.1 h.2.1 k).2 hv
  rw [hs.1] at this
  omega
theorem t_small {x : Int} (h : x.natAbs ≤ 10) : x.natAbs < B64 ^ 1 := by
  have : B64 ^ 1 = 18446744073709551616 := by decide
  omega
theorem va_mul {x t : Nat} (hx : x < B64 ^ 9) (ht : t ≤ 10) : x * t < B64 ^ 10 := by
  have h1 : x * t ≤ B64 ^ 9 * 10 := Nat.mul_le_mul (Nat.le_of_lt hx) ht
  have h2 : B64 ^ 9 * 10 < B64 ^ 10 := by decide
  omega
theorem mul_ltZ {w : World} {A A' : Option Addr} {n n' c c' : Nat} {xs ys : List Nat} (h : Sl w A n c xs) (h' : Sl w A' n' c' ys) (hs : n + n' ≤ 4096) : V xs * V ys < Big :=
  Big_of (k := n + n') (by rw [Nat.pow_add]; exact Nat.mul_lt_mul'' h.lt h'.lt) hs
theorem add_ltZ {w : World} {A A' : Option Addr} {n n' c c' : Nat} {xs ys : List Nat} (h : Sl w A n c xs) (h' : Sl w A' n' c' ys) (hs : n ≤ 20) (hs' : n' ≤ 20) : V xs + V ys < Big := by
  have h1 := Nat.lt_of_lt_of_le h.lt (Nat.pow_le_pow_right B64_pos hs)
  have h2 := Nat.lt_of_lt_of_le h'.lt (Nat.pow_le_pow_right B64_pos hs')
  refine Big_of (k := 21) ?_ (by omega)
  have h3 : B64 ^ 20 + B64 ^ 20 < B64 ^ 21 := by decide
  omega
theorem va_inj {s s' : Bool} {A A' : Option Addr} {n n' c c' : Nat} (h : (Value.agg #[.bool s, .slice A n c]) = .agg #[.bool s', .slice A' n' c']) : s = s' ∧ A = A' ∧ n = n' ∧ c = c' := by
  injection h with h
  simp at h
  exact ⟨h.1, h.2.1, h.2.2.1, h.2.2.2⟩
theorem Bk.off2 {W : World} {b g : Nat} {l : List Value} {u v : Value} (h : Bk W b l) (hg : b ≠ g) : Bk ((W.setCell ⟨g, 0, none⟩ u).setCell ⟨g, 1, none⟩ v) b l := fun j z hj => by
  have h0 := h j z hj
  exact ⟨by rw [World.cell?_setCell_other _ _ _ _ (by simp; try omega), World.cell?_setCell_other _ _ _ _ (by simp; try omega)]; exact h0.1, by rw [World.frozen?_setCell, World.frozen?_setCell]; exact h0.2⟩
/-- between two rounds: the sum so far, in its place -/
def VaI (w X W : World) (zs : List Int) (t : Int) (k : Nat) (a : Sn) : Prop :=
  Bk W (w.heap.size + 1) [.bool a.s, .slice a.A a.n a.c] ∧ Zn X W [a] ∧ a.v = pvF t (zs.drop k) ∧ a.v.natAbs ≤ B64 ^ 8 * 11 ^ (zs.length - k) ∧ Below w.heap.size w W ∧ Bk W w.heap.size [.bool false, .slice none 0 0] ∧ w.heap.size + 1 < W.heap.size

set_option maxHeartbeats 4000000 in
theorem RValue_ok (al : List Sn) (A : Option Addr) (m c : Nat) (t : Int) (w : World) (hm : m ≤ 8) (ht : t.natAbs ≤ 10) (hx : Zl w A m c al) (hn : ∀ a ∈ al, a.n ≤ 8) :
    Calls Tryz.prog 36 #[.slice A m c, .int .i64 t] w fun e w' => Zr w w' e (pvF t (al.map Sn.v)) ∧ (pvF t (al.map Sn.v)).natAbs < B64 ^ 9 := by
  have hmix : Tryz.prog.follows Departure.mixedOrders = true := by kernel_rfl
  have Hx := Lib.hid (And.intro hx (And.intro hn (show (al.map Sn.v).length = m by rw [List.length_map]; exact hx.1)))
  have ht2 : -10 ≤ t ∧ t ≤ 10 := by omega
  have Ht := Lib.hid ht
  clear hx hn ht
  have hmw : IntKind.i64.wrap ((m : Int) - 1) = (m : Int) - 1 := IntWalk.i64_in _ (by omega)
  obtain ⟨X, hX⟩ : ∃ X, X = ((w.alloc (.cells #[.bool false, .slice none 0 0] 26)).alloc (.cells #[.bool false, .slice none 0 0] 26)) := ⟨_, rfl⟩
  have hXs : X.heap.size = w.heap.size + 2 := by rw [hX]; simp
  have HXs := Lib.hid hXs
  have H0 : Hid (∃ a, VaI w X ((w.alloc (.cells #[.bool false, .slice none 0 0] 26)).alloc (.cells #[.bool false, .slice none 0 0] 26)) (al.map Sn.v) t m a) := by
    have k0 := (Bk.new w [.bool false, .slice none 0 0] 26).below ((Below.refl _ _).alloc (Nat.le_refl _) (.cells #[.bool false, .slice none 0 0] 26)) (by simp)
    have k1 := Bk.new (w.alloc (.cells #[.bool false, .slice none 0 0] 26)) [.bool false, .slice none 0 0] 26
    rw [World.size_alloc] at k1
    have hz : (⟨false, none, 0, 0, []⟩ : Sn).v = 0 := by simp [Sn.v, sgn, V]
    refine ⟨⟨false, none, 0, 0, []⟩, k1, fun x hxx => ?_, ?_, by rw [hz]; exact Nat.zero_le _, ((Below.refl _ _).alloc (Nat.le_refl _) _).alloc (by simp) _, k0, by simp⟩
    · rw [List.mem_singleton] at hxx
      subst hxx
      exact ⟨⟨rfl, (fun x hx => absurd hx (by simp) : Ws []), World.ownsRow_nil _ _ _ _⟩, Cn_nil, by rw [hz]; rfl⟩
    · rw [hz, List.drop_of_length_le (by rw [Hx.out.2.2]; exact Nat.le_refl _)]; rfl
  clear hX hXs
  go_enter Tryz.func36, Tryz.ntmps36
  go_wp2
  go_loopw [6] (fun iv wr => ∃ (k : Nat) (r : Int), k ≤ m ∧ r = (k : Int) - 1 ∧ iv = .int .i64 r ∧ Hid (∃ a, VaI w X wr (al.map Sn.v) t k a)) (fun iv _ => (intOf iv + 1).toNat)
  case atStart => exact ⟨m, _, Nat.le_refl _, rfl, rfl, H0⟩
  case round =>
    clear H0
    obtain ⟨k, r, hk, hr, rfl, HE⟩ := hrel
    obtain ⟨⟨as_, aA, an, ac, axs⟩, hI⟩ := HE.out
    have HI := Lib.hid hI
    obtain ⟨p0, f0⟩ := hI.1 0 _ rfl
    obtain ⟨p1, f1⟩ := hI.1 1 _ rfl
    simp only at p0 p1
    clear HE hI
    by_cases hlt : 0 ≤ r
    · obtain ⟨j, rfl⟩ := Int.eq_ofNat_of_zero_le hlt
      obtain rfl : k = j + 1 := by omega
      have hjl : j < al.length := by rw [Hx.out.1.1]; omega
      have hg := List.getElem?_eq_getElem hjl
      obtain ⟨b, o, rfl, hbw, c0', c1'⟩ := Hx.out.1.at hg
      have c0 := (HI.out.2.2.2.2.1.cell (World.block_lt_of_cell? _ _ c0')).trans c0'
      have c1 := (HI.out.2.2.2.2.1.cell (World.block_lt_of_cell? _ _ c1')).trans c1'
      have hsl := Hx.out.1.2.2.2.2 _ (List.getElem_mem hjl)
      have hn8 := Hx.out.2.1 _ (List.getElem_mem hjl)
      have hdr : (al.map Sn.v).drop j = al[j].v :: (al.map Sn.v).drop (j + 1) := by
        rw [List.drop_eq_getElem_cons (by rw [List.length_map]; exact hjl), List.getElem_map]
      generalize al[j] = y at *
      obtain ⟨bs, bA, bn, bc, bxs⟩ := y
      simp only at c0 c1 hsl hn8
      have HQ := Lib.hid (And.intro (show Sl w bA bn bc bxs from hsl) hdr)
      have hjm : (j : Int) < (m : Int) := by omega
      have hj0 : (0 : Int) ≤ (j : Int) := by omega
      have hjw : IntKind.i64.wrap ((j : Int) - 1) = (j : Int) - 1 := IntWalk.i64_in _ (by omega)
      have HS0 : Hid ((fun w' => w'.cell? ⟨w.heap.size + 1, 0, none⟩ = some (.bool as_) ∧ w'.cell? ⟨w.heap.size + 1, 1, none⟩ = some (.slice aA an ac) ∧ w'.cell? ⟨b, o + j * 2, none⟩ = some (.bool bs) ∧ w'.cell? ⟨b, o + j * 2 + 1, none⟩ = some (.slice bA bn bc)) wr.drew) := ⟨p0, p1, c0, c1⟩
      clear hjl hg c0' c1' hsl hdr c0 c1 hr
      go_wp2_with (fail)
      refine wp_region_M 9 (fun w' => w'.cell? ⟨w.heap.size + 1, 0, none⟩ = some (.bool as_) ∧ w'.cell? ⟨w.heap.size + 1, 1, none⟩ = some (.slice aA an ac) ∧ w'.cell? ⟨b, o + j * 2, none⟩ = some (.bool bs) ∧ w'.cell? ⟨b, o + j * 2 + 1, none⟩ = some (.slice bA bn bc)) hmix ?_
      refine wpAnyM_take (i := 0) (v := ?_) rfl rfl (by kernel_rfl) (by kernel_rfl) (by kernel_rfl) (by kernel_rfl) (by kernel_rfl) (by kernel_rfl) (fun _ _ _ h => h) HS0.out (Or.inl ⟨by rfl, ?_⟩) ?_
      rotate_left
      · rintro w ⟨q0, q1, q2, q3⟩; go_simp; try with_reducible rfl
      try simp only [Act.put, List.getElem_toArray, List.getElem_cons_zero, List.getElem_cons_succ, List.setIfInBounds_toArray, List.set_cons_zero, List.set_cons_succ]
      refine wpAnyM_take (i := 1) (v := ?_) rfl rfl (by kernel_rfl) (by kernel_rfl) (by kernel_rfl) (by kernel_rfl) (by kernel_rfl) (by kernel_rfl) (fun _ _ _ h => h) HS0.out (Or.inl ⟨by rfl, ?_⟩) ?_
      rotate_left
      · rintro w ⟨q0, q1, q2, q3⟩; go_simp; try with_reducible rfl
      try simp only [Act.put, List.getElem_toArray, List.getElem_cons_zero, List.getElem_cons_succ, List.setIfInBounds_toArray, List.set_cons_zero, List.set_cons_succ]
      refine wpAnyM_take (i := 4) (v := ?_) rfl rfl (by kernel_rfl) (by kernel_rfl) (by kernel_rfl) (by kernel_rfl) (by kernel_rfl) (by kernel_rfl) (fun _ _ _ h => h) HS0.out (Or.inl ⟨by rfl, ?_⟩) ?_
      rotate_left
      · rintro w ⟨q0, q1, q2, q3⟩; go_simp; try with_reducible rfl
      try simp only [Act.put, List.getElem_toArray, List.getElem_cons_zero, List.getElem_cons_succ, List.setIfInBounds_toArray, List.set_cons_zero, List.set_cons_succ]
      refine wpAnyM_take (i := 5) (v := ?_) rfl rfl (by kernel_rfl) (by kernel_rfl) (by kernel_rfl) (by kernel_rfl) (by kernel_rfl) (by kernel_rfl) (fun _ _ _ h => h) HS0.out (Or.inl ⟨by rfl, ?_⟩) ?_
      rotate_left
      · rintro w ⟨q0, q1, q2, q3⟩; go_simp; try with_reducible rfl
      try simp only [Act.put, List.getElem_toArray, List.getElem_cons_zero, List.getElem_cons_succ, List.setIfInBounds_toArray, List.set_cons_zero, List.set_cons_succ]
      refine wpAnyM_take (i := 6) (v := ?_) rfl rfl (by kernel_rfl) (by kernel_rfl) (by kernel_rfl) (by kernel_rfl) (by kernel_rfl) (by kernel_rfl) (fun _ _ _ h => h) HS0.out (Or.inl ⟨by rfl, ?_⟩) ?_
      rotate_left
      · rintro w ⟨q0, q1, q2, q3⟩; go_simp; try with_reducible rfl
      try simp only [Act.put, List.getElem_toArray, List.getElem_cons_zero, List.getElem_cons_succ, List.setIfInBounds_toArray, List.set_cons_zero, List.set_cons_succ]
      refine wpAnyM_take (i := 7) (v := ?_) rfl rfl (by kernel_rfl) (by kernel_rfl) (by kernel_rfl) (by kernel_rfl) (by kernel_rfl) (by kernel_rfl) (fun _ _ _ h => h) HS0.out (Or.inl ⟨by rfl, ?_⟩) ?_
      rotate_left
      · rintro w ⟨q0, q1, q2, q3⟩; go_simp; try with_reducible rfl
      try simp only [Act.put, List.getElem_toArray, List.getElem_cons_zero, List.getElem_cons_succ, List.setIfInBounds_toArray, List.set_cons_zero, List.set_cons_succ]
      refine wpAnyM_one (i := 2) rfl (by kernel_rfl) (fun K hK => ?_)
      go_simp
      refine (RFrom_ok t wr.drew (by omega) (by omega)).mono ?_
      rintro e w3 hR
      obtain ⟨⟨s2, A2, n2, c2, z2⟩, rfl, hv2, hzn2, hb2⟩ := hR.sn
      have hb2' : Below wr.heap.size wr w3 := belowA hb2
      have HS1 : Hid ((fun w' => w'.cell? ⟨w.heap.size + 1, 0, none⟩ = some (.bool as_) ∧ w'.cell? ⟨w.heap.size + 1, 1, none⟩ = some (.slice aA an ac) ∧ w'.cell? ⟨b, o + j * 2, none⟩ = some (.bool bs) ∧ w'.cell? ⟨b, o + j * 2 + 1, none⟩ = some (.slice bA bn bc)) w3) := ⟨(hb2'.cell (World.block_lt_of_cell? _ _ HS0.out.1)).trans HS0.out.1, (hb2'.cell (World.block_lt_of_cell? _ _ HS0.out.2.1)).trans HS0.out.2.1, (hb2'.cell (World.block_lt_of_cell? _ _ HS0.out.2.2.1)).trans HS0.out.2.2.1, (hb2'.cell (World.block_lt_of_cell? _ _ HS0.out.2.2.2)).trans HS0.out.2.2.2⟩
      have H3 := Lib.hid (And.intro hv2 (And.intro (show Sl w3 A2 n2 c2 z2 from hzn2.sl _ (List.mem_singleton_self _)) hb2'))
      have hn2 : n2 ≤ 1 := va_len (hzn2 _ (List.mem_singleton_self _)) (show n2 = (⟨s2, A2, n2, c2, z2⟩ : Sn).n from rfl) (t_small (by rw [hv2]; exact Ht.out))
      clear hR hzn2 hb2 hb2' hv2
      refine hK.out _ _ (fun _ => HS1.out) ?_
      clear hK K HS0
      try simp only [Act.put, List.getElem_toArray, List.getElem_cons_zero, List.getElem_cons_succ, List.setIfInBounds_toArray, List.set_cons_zero, List.set_cons_succ]
      refine wpAnyM_one (i := 3) rfl (by kernel_rfl) (fun K hK => ?_)
      go_simp
      have han : an ≤ 9 := va_len (HI.out.2.1 _ (List.mem_singleton_self _)) rfl (pv_big HI.out.2.2.2.1 (by rw [Hx.out.2.2]; omega))
      have hA3 : Sl w3 aA an ac axs := (HI.out.2.1.sl _ (List.mem_singleton_self _)).below H3.out.2.2
      refine (RMulZ_ok as_ s2 aA A2 an n2 ac c2 axs z2 w3 (by omega) (by omega) hA3 H3.out.2.1 (mul_ltZ hA3 H3.out.2.1 (by omega))).mono ?_
      rintro e w4 hR
      obtain ⟨⟨s4, A4, n4, c4, z4⟩, rfl, hv4, hzn4, hb4⟩ := hR.sn
      have HS2 : Hid ((fun w' => w'.cell? ⟨w.heap.size + 1, 0, none⟩ = some (.bool as_) ∧ w'.cell? ⟨w.heap.size + 1, 1, none⟩ = some (.slice aA an ac) ∧ w'.cell? ⟨b, o + j * 2, none⟩ = some (.bool bs) ∧ w'.cell? ⟨b, o + j * 2 + 1, none⟩ = some (.slice bA bn bc)) w4) := ⟨(hb4.cell (World.block_lt_of_cell? _ _ HS1.out.1)).trans HS1.out.1, (hb4.cell (World.block_lt_of_cell? _ _ HS1.out.2.1)).trans HS1.out.2.1, (hb4.cell (World.block_lt_of_cell? _ _ HS1.out.2.2.1)).trans HS1.out.2.2.1, (hb4.cell (World.block_lt_of_cell? _ _ HS1.out.2.2.2)).trans HS1.out.2.2.2⟩
      have hv4' : (⟨s4, A4, n4, c4, z4⟩ : Sn).v = pvF t ((al.map Sn.v).drop (j + 1)) * t := by
        rw [hv4, ← HI.out.2.2.1, ← H3.out.1]; rfl
      have hn4 : n4 ≤ 10 := va_len (hzn4 _ (List.mem_singleton_self _)) rfl (by
        rw [hv4', Int.natAbs_mul, ← HI.out.2.2.1]
        exact va_mul (pv_big HI.out.2.2.2.1 (by rw [Hx.out.2.2]; omega)) Ht.out)
      have H4 := Lib.hid (And.intro hv4' (And.intro (show Sl w4 A4 n4 c4 z4 from hzn4.sl _ (List.mem_singleton_self _)) (H3.out.2.2.trans (hb4.mono H3.out.2.2.size))))
      clear hR hzn4 hb4 hv4 hv4' hA3 H3
      refine hK.out _ _ (fun _ => HS2.out) ?_
      clear hK K HS1
      try simp only [Act.put, List.getElem_toArray, List.getElem_cons_zero, List.getElem_cons_succ, List.setIfInBounds_toArray, List.set_cons_zero, List.set_cons_succ]
      refine wpAnyM_one (i := 8) rfl (by kernel_rfl) (fun K hK => ?_)
      go_simp
      have hB4 : Sl w4 bA bn bc bxs := (HQ.out.1.below HI.out.2.2.2.2.1).below H4.out.2.2
      refine (RAddZ_ok s4 bs A4 bA n4 bn c4 bc z4 bxs w4 (by omega) (by omega) H4.out.2.1 hB4 (add_ltZ H4.out.2.1 hB4 (by omega) (by omega))).mono ?_
      rintro e w5 hR
      have hsum : sgn s4 (V z4) + sgn bs (V bxs) = pvF t ((al.map Sn.v).drop j) := by
        rw [HQ.out.2, pvF, ← H4.out.1]; rfl
      rw [hsum] at hR
      have hb5 := hR.bel
      have hb5' : Below wr.heap.size wr w5 := H4.out.2.2.trans (hb5.mono H4.out.2.2.size)
      have HS5 : Hid ((fun w' => w'.cell? ⟨w.heap.size + 1, 0, none⟩ = some (.bool as_) ∧ w'.cell? ⟨w.heap.size + 1, 1, none⟩ = some (.slice aA an ac) ∧ w'.cell? ⟨b, o + j * 2, none⟩ = some (.bool bs) ∧ w'.cell? ⟨b, o + j * 2 + 1, none⟩ = some (.slice bA bn bc)) w5) := ⟨(hb5.cell (World.block_lt_of_cell? _ _ HS2.out.1)).trans HS2.out.1, (hb5.cell (World.block_lt_of_cell? _ _ HS2.out.2.1)).trans HS2.out.2.1, (hb5.cell (World.block_lt_of_cell? _ _ HS2.out.2.2.1)).trans HS2.out.2.2.1, (hb5.cell (World.block_lt_of_cell? _ _ HS2.out.2.2.2)).trans HS2.out.2.2.2⟩
      obtain ⟨A5, n5, c5, rfl, hz5⟩ := hR.val
      obtain ⟨d, hd⟩ : ∃ d, decide (pvF t ((al.map Sn.v).drop j) < 0) = d := ⟨_, rfl⟩
      rw [hd] at hz5 ⊢
      have hk1 := HI.out.1.below hb5' HI.out.2.2.2.2.2.2
      have hk0 := HI.out.2.2.2.2.2.1.below hb5' (by have := HI.out.2.2.2.2.2.2; omega)
      obtain ⟨⟨x0, g0⟩, x1, g1⟩ := (show (w5.cell? ⟨w.heap.size + 1, 0, none⟩ = some (.bool as_) ∧ w5.frozen? ⟨w.heap.size + 1, 0, none⟩ = false) ∧ w5.cell? ⟨w.heap.size + 1, 1, none⟩ = some (.slice aA an ac) ∧ w5.frozen? ⟨w.heap.size + 1, 1, none⟩ = false from ⟨hk1 0 _ rfl, (hk1 1 _ rfl).1, (hk1 1 _ rfl).2⟩)
      have hz6 := hz5.put (g := w.heap.size + 1) (u := .bool d) (v := .slice A5 n5 c5) (HI.out.2.2.2.2.1.trans (H4.out.2.2.mono HI.out.2.2.2.2.1.size)) (by omega) (by have := H4.out.2.2.size; have := HI.out.2.2.2.2.2.2; omega)
      have hbn : (sgn bs (V bxs)).natAbs ≤ B64 ^ 8 := by rw [sgn_abs]; exact Nat.le_of_lt (Nat.lt_of_lt_of_le hB4.lt (Nat.pow_le_pow_right B64_pos hn8))
      have HN : Hid (∃ a, VaI w X ((w5.setCell ⟨w.heap.size + 1, 0, none⟩ (.bool d)).setCell ⟨w.heap.size + 1, 1, none⟩ (.slice A5 n5 c5)) (al.map Sn.v) t j a) := by
        have hb6 := hz6.bel
        obtain ⟨A6, n6, c6, z6, e6, r1, r2, r3, -⟩ := hz5
        injection e6 with e6
        obtain ⟨e7, rfl, rfl, rfl⟩ := va_inj e6
        have h5 := r1.put2 (b := w.heap.size + 1) (u := .bool d) (v := .slice A5 n5 c5) (by have := H4.out.2.2.size; have := HI.out.2.2.2.2.2.2; omega)
        have hv6 : (⟨d, A5, n5, c5, z6⟩ : Sn).v = pvF t ((al.map Sn.v).drop j) := by rw [Sn.v, r3, e7]; exact sgn_can _
        refine ⟨⟨d, A5, n5, c5, z6⟩, hk1.put, fun x hxx => ?_, hv6, ?_, hb6, Bk.off2 hk0 (by omega), by have := hb5'.size; have := HI.out.2.2.2.2.2.2; simp [World.setCell]; omega⟩
        · rw [List.mem_singleton] at hxx
          subst hxx
          exact ⟨⟨h5.1, h5.2.1, own_base h5.2.2 (by have := HXs.out; have := H4.out.2.2.size; have := HI.out.2.2.2.2.2.2; omega)⟩, r2, by rw [hv6]; exact e7⟩
        · rw [hv6, HQ.out.2, pvF, show (al.map Sn.v).length - j = ((al.map Sn.v).length - (j + 1)) + 1 by rw [Hx.out.2.2]; omega]
          exact pv_step Ht.out hbn (by rw [← HI.out.2.2.1]; exact HI.out.2.2.2.1)
      clear hR hb5 hb5' hz5 hz6 hk1 hk0 hd hsum hB4 H4 HI HQ hbn
      refine hK.out _ _ (fun _ => HS5.out) ?_
      clear hK K HS2 HS5
      try simp only [Act.put, List.getElem_toArray, List.getElem_cons_zero, List.getElem_cons_succ, List.setIfInBounds_toArray, List.set_cons_zero, List.set_cons_succ]
      refine wpAnyM_one (i := 9) rfl (by kernel_rfl) (fun K hK => ?_)
      go_simp
      refine hK.out _ _ (fun h => absurd h (by decide)) ?_
      clear hK K
      refine wpAnyM_done (by kernel_rfl) ?_ _
      go_wp2_with (fail)
      refine ⟨⟨j, (j : Int) - 1, by omega, rfl, rfl, HN⟩, ?_⟩
      simp [intOf]
    · obtain rfl : k = 0 := by omega
      have hneg : ¬ 0 ≤ r := hlt
      obtain ⟨x0, g0⟩ := HI.out.2.2.2.2.2.1 0 _ rfl
      obtain ⟨x1, g1⟩ := HI.out.2.2.2.2.2.1 1 _ rfl
      have hq := HI.out.2.1 _ (List.mem_singleton_self _)
      have h5 := hq.1.put2 (b := w.heap.size) (u := .bool as_) (v := .slice aA an ac) (by have := HXs.out; omega)
      have hv : (⟨as_, aA, an, ac, axs⟩ : Sn).v = pvF t (al.map Sn.v) := HI.out.2.2.1
      have hR : Zr w ((wr.setCell ⟨w.heap.size, 0, none⟩ (.bool as_)).setCell ⟨w.heap.size, 1, none⟩ (.slice aA an ac)) (.returned (.agg #[.bool as_, .slice aA an ac])) (pvF t (al.map Sn.v)) :=
        ⟨aA, an, ac, axs, by rw [← hv, ← hq.2.2], ⟨h5.1, h5.2.1, own_base h5.2.2 (by have := HXs.out; omega)⟩, hq.2.1, by rw [← hv, Sn.v, sgn_abs], (HI.out.2.2.2.2.1.setCell (p := ⟨w.heap.size, 0, none⟩) (Nat.le_refl _) _).setCell (p := ⟨w.heap.size, 1, none⟩) (Nat.le_refl _) _⟩
      have hB := pv_big HI.out.2.2.2.1 (by rw [Hx.out.2.2]; omega)
      rw [hv] at hB
      have HF := Lib.hid (And.intro hR hB)
      clear hq h5 hv hR hB HI
      go_wp2_with (fail)
      exact bodyPost_ret (v := .agg #[.bool as_, .slice aA an ac]) (by simp [results, Tryz.results36, go_sem, World.cell?_setCell_same', x0, x1]) rfl HF.out
end Go.Proofs.YtcnambjckmpipaaGreatDoor
