/- The contract of fast.valuesOfThirds. -/
import Derived.Test.YthpgdpkemnhneaaGreatDoorZFPcs
import Derived.Test.YthpgdpkemnhneaaGreatDoorP8
import Derived.Test.YthpgdpkemnhneaaGreatDoorP9
import Derived.Test.YthpgdpkemnhneaaGreatDoorP1
import Derived.Deep.MidRow
namespace Go.Proofs.YthpgdpkemnhneaaGreatDoor
open Go.RowKit Go.Shelf
set_option linter.unusedVariables false
set_option linter.unusedSimpArgs false
set_option maxRecDepth 10000
attribute [local go_sem] Oper.semAt_some

theorem pieces_any (A : Option Addr) (L c : Nat) (n : Int) (w : World) :
    Calls Tryz.prog 22 #[.slice A L c, .int .i64 n] w fun e w' => e = .returned (.func (.func 59) #[] #[.pointer (some ⟨w.heap.size, 0, none⟩), .pointer (some ⟨w.heap.size + 1, 0, none⟩)]) ∧ (w.alloc (.cells #[.slice A L c] 23)).alloc (.cells #[.int .i64 n] 3) = w' := by
  go_enter Tryz.func22, Tryz.ntmps22
  go_wp2
  go_ret
  exact ⟨rfl, rfl⟩
theorem Bk.kept {W W' : World} {row : Option Nat} {g : Nat} {vs : List Value} (h : Bk W g vs) (hg : W.grownBy W' row) (hrow : ∀ r, row = some r → ∃ o : Obj, W.heap[r]? = some o ∧ o.isCells = false) : Bk W' g vs := fun j v hj =>
  ⟨cell_kept (h j v hj).1 hg hrow, (frozen_kept (h j v hj).1 hg hrow).trans (h j v hj).2⟩
/-- piece i as a signed number, and the five of which k are there -/
noncomputable def Pc (A : Option Addr) (L n : Nat) (xs : List Nat) (i : Nat) : Sn := ⟨false, A.map (·.add (i * n)), ul (pw xs n i), pl L n i, (pw xs n i).take (ul (pw xs n i))⟩
noncomputable def cPs (A : Option Addr) (L n : Nat) (xs : List Nat) (k : Nat) : List Sn := (List.range 5).map fun i => if i < k then Pc A L n xs i else Sn.zero
theorem cPs_succ (A : Option Addr) (L n : Nat) (xs : List Nat) (k : Nat) (hk : k < 5) : cPs A L n xs (k + 1) = (cPs A L n xs k).set k (Pc A L n xs k) := by
  rcases (show k = 0 ∨ k = 1 ∨ k = 2 ∨ k = 3 ∨ k = 4 by omega) with rfl | rfl | rfl | rfl | rfl <;> rfl
/-- between two rounds -/
def ITh (w : World) (A : Option Addr) (L c n : Nat) (xs : List Nat) (k : Nat) (W : World) : Prop :=
  Bk W (w.heap.size + 2) ((cPs A L n xs k).flatMap sncs) ∧ Bk W (w.heap.size + 1) zero10 ∧ Wd W w.heap.size (.int .i64 (n : Int)) ∧ Wd W (w.heap.size + 3) (.slice A L c) ∧ Wd W (w.heap.size + 4) (.int .i64 (n : Int)) ∧ Below w.heap.size w W ∧ w.heap.size + 5 ≤ W.heap.size
theorem ITh_own {w : World} {A : Option Addr} {L c n B : Nat} {xs : List Nat} (hB : w.heap.size ≤ B) : OwnFrom B (ITh w A L c n xs) := by
  rintro k W W' row ⟨h1, h2, h3, h4, h5, h6, h7⟩ hg hr
  have hr2 : ∀ j, row = some j → ∃ o : Obj, W.heap[j]? = some o ∧ o.isCells = false := fun j e => (hr j e).2
  have hb := h6.grown hg h6.size (fun j e => by have := (hr j e).1; omega)
  exact ⟨h1.kept hg hr2, h2.kept hg hr2, h3.kept hg hr2, h4.kept hg hr2, h5.kept hg hr2, hb, Nat.le_trans h7 hg.size⟩
theorem keepsFrom_below {B : Nat} {W W' : World} (h : Below W.heap.size W W') : KeepsFrom B W W' :=
  ⟨h.size, fun k o _ hk ho => (h.block k (Array.getElem?_eq_some_iff.1 hk).1).trans hk⟩
theorem ITh.next {w W W' : World} {A : Option Addr} {L c n k : Nat} {xs : List Nat} (h : ITh w A L c n xs k W) (hk : k < 5) (hb : Below W.heap.size W W') :
    ITh w A L c n xs (k + 1) ((W'.setCell ⟨w.heap.size + 2, 2 * k, none⟩ (.bool false)).setCell ⟨w.heap.size + 2, 2 * k + 1, none⟩ (.slice (A.map (·.add (k * n))) (ul (pw xs n k)) (pl L n k))) := by
  obtain ⟨h1, h2, h3, h4, h5, h6, h7⟩ := h
  have k1 := h1.below hb (by omega)
  have k2 := h2.below hb (by omega)
  have e : ∀ {g : Nat} {v : Value}, Wd W g v → g < W.heap.size → Wd W' g v := fun h hg => ⟨(hb.cell (p := ⟨_, 0, none⟩) hg).trans h.1, (hb.frozen (p := ⟨_, 0, none⟩) hg).trans h.2⟩
  refine ⟨?_, (k2.far (by omega) _ _).far (by omega) _ _, ((e h3 (by omega)).far (by show w.heap.size ≠ w.heap.size + 2; omega) _).far (by show w.heap.size ≠ w.heap.size + 2; omega) _, ((e h4 (by omega)).far (by show w.heap.size + 3 ≠ w.heap.size + 2; omega) _).far (by show w.heap.size + 3 ≠ w.heap.size + 2; omega) _, ((e h5 (by omega)).far (by show w.heap.size + 4 ≠ w.heap.size + 2; omega) _).far (by show w.heap.size + 4 ≠ w.heap.size + 2; omega) _, ((h6.trans (hb.mono (by omega))).setCell (p := ⟨w.heap.size + 2, 2 * k, none⟩) (by show w.heap.size ≤ w.heap.size + 2; omega) _).setCell (p := ⟨w.heap.size + 2, 2 * k + 1, none⟩) (by show w.heap.size ≤ w.heap.size + 2; omega) _, by have := hb.size; simp [World.setCell]; omega⟩
  rw [cPs_succ _ _ _ _ _ hk, flat_set _ k _ (by simp [cPs]; exact hk)]
  exact (k1.set1 _ _).set1 _ _
theorem used_ex {xs : List Nat} : ∀ j, j ≤ xs.length → V (xs.take j) = V xs → ∃ k, k ≤ j ∧ V (xs.take k) = V xs ∧ Cn (xs.take k)
  | 0, _, hv => ⟨0, Nat.le_refl _, hv, by simp [Cn_nil]⟩
  | j + 1, hj, hv => by
    by_cases h0 : xs[j]? = some 0
    · obtain ⟨k, h1, h2⟩ := used_ex j (by omega) (V_cut xs j h0 hv)
      exact ⟨k, by omega, h2⟩
    · refine ⟨j + 1, Nat.le_refl _, hv, fun m hm => ?_⟩
      rw [List.length_take] at hm
      obtain rfl : m = j := by omega
      rw [List.getElem?_take, if_pos (by omega)]
      exact h0
theorem ul_spec {W : World} {A : Option Addr} {n c : Nat} {xs : List Nat} (h : Sl W A n c xs) : ul xs ≤ n ∧ V (xs.take (ul xs)) = V xs ∧ Cn (xs.take (ul xs)) := by
  obtain ⟨k, h1, h2, h3⟩ := used_ex (xs := xs) xs.length (Nat.le_refl _) (by rw [List.take_length])
  rw [ul_eq h.2.2.2.1 h1 h2 h3]
  exact ⟨by rw [← h.1]; exact h1, h2, h3⟩
theorem round_lt {L n N i : Nat} (hN : (L + n - 1) / n = N) (hi : i < N) : i * n < L := by
  have hn : 0 < n := by
    rcases Nat.eq_zero_or_pos n with h | h
    · rw [h, Nat.div_zero] at hN; omega
    · exact h
  rw [← hN, Nat.lt_div_iff_mul_lt hn] at hi
  omega
theorem Pc_sc {W : World} {A : Option Addr} {L c n N i : Nat} {xs : List Nat} (h : Sl W A L c xs) (hN : (L + n - 1) / n = N) (hi : i < N) :
    Sc W (Pc A L n xs i).A (Pc A L n xs i).n (Pc A L n xs i).c (Pc A L n xs i).xs ∧ (Pc A L n xs i).n ≤ n ∧ (Pc A L n xs i).v = ((V (pw xs n i) : Nat) : Int) := by
  have hk := round_lt hN hi
  obtain ⟨b, o, rfl, _, _⟩ := h.2.2.2.2 (by intro e; have := congrArg List.length e; rw [uvs_length, h.1] at this; simp at this; omega)
  have hs := pw_sl h hk
  obtain ⟨u1, u2, u3⟩ := ul_spec hs
  refine ⟨⟨?_, u3⟩, Nat.le_trans u1 (by unfold pl; omega), ?_⟩
  · simp only [Pc, Option.map_some, Addr.add_lit]
    exact hs.tk u1
  · simp only [Sn.v, Pc, sgn]
    rw [u2]
    simp
theorem cPs_ok {W : World} {A : Option Addr} {L c n N : Nat} {xs : List Nat} (h : Sl W A L c xs) (hN : (L + n - 1) / n = N) (hn2 : n ≤ 40000) (hL3 : L ≤ 3 * n) : ∀ s ∈ cPs A L n xs N, Sc W s.A s.n s.c s.xs ∧ s.n ≤ 40000 := by
  intro s hs
  rw [cPs, List.mem_map] at hs
  obtain ⟨i, -, rfl⟩ := hs
  by_cases hi : i < N
  · rw [if_pos hi]
    have := Pc_sc h hN hi
    exact ⟨this.1, Nat.le_trans this.2.1 hn2⟩
  · rw [if_neg hi]
    exact ⟨Sc.nil _, by simp [Sn.zero]⟩
theorem cPs_val {W : World} {A : Option Addr} {L c n N : Nat} {xs : List Nat} (h : Sl W A L c xs) (hN : (L + n - 1) / n = N) (hn1 : 1 ≤ n) (hL3 : L ≤ 3 * n) : (cPs A L n xs N).map Sn.v = [((V (pw xs n 0) : Nat) : Int), ((V (pw xs n 1) : Nat) : Int), ((V (pw xs n 2) : Nat) : Int), 0, 0] := by
  have hz : Sn.zero.v = 0 := by simp [Sn.v, Sn.zero, sgn, V]
  have hN3 : N ≤ 3 := by
    rw [← hN, Nat.div_le_iff_le_mul (by omega)]
    omega
  have key : ∀ i, (if i < N then Pc A L n xs i else Sn.zero).v = ((V (pw xs n i) : Nat) : Int) := fun i => by
    by_cases hi : i < N
    · rw [if_pos hi]; exact (Pc_sc h hN hi).2.2
    · rw [if_neg hi, hz]
      have hle : L ≤ i * n := by
        rw [← hN, Nat.not_lt, Nat.div_le_iff_le_mul (by omega)] at hi
        omega
      have : pw xs n i = [] := by rw [pw, List.drop_of_length_le (by rw [h.1]; exact hle), List.take_nil]
      rw [this]; rfl
  have h3 : (if 3 < N then Pc A L n xs 3 else Sn.zero).v = 0 := by rw [if_neg (by omega), hz]
  have h4 : (if 4 < N then Pc A L n xs 4 else Sn.zero).v = 0 := by rw [if_neg (by omega), hz]
  show [_, _, _, _, _] = _
  rw [key 0, key 1, key 2, h3, h4]

/-- the five values of a polynomial of degree 2 -/
def thS (x y z : Nat) : List Int := [x, x + y + z, x - y + z, x + 2 * y + 4 * z, z]
theorem Bk.put_all {W : World} {b : Nat} {vs us : List Value} (h : Bk W b vs) (hl : us.length = vs.length) : Bk (W.setCells b 0 us) b us := fun j v hj => by
  have h1 := World.rangeAt_setCells_same W b 0 us (by rw [hl]; exact h.there) j v hj
  rw [Nat.zero_add] at h1
  refine ⟨h1, ?_⟩
  rw [World.frozen?_setCells]
  have hlt : j < vs.length := by rw [← hl]; exact (List.getElem?_eq_some_iff.1 hj).1
  exact (h j _ (List.getElem?_eq_getElem hlt)).2
theorem Sl.same {w w' : World} {A : Option Addr} {n c : Nat} {xs : List Nat} (h : Sl w A n c xs) (hs : w.heap.size ≤ w'.heap.size) (hb : ∀ a, A = some a → w'.heap[a.block]? = w.heap[a.block]?) : Sl w' A n c xs :=
  ⟨h.1, h.2.1, h.2.2.1, h.2.2.2.1, fun hne => by
    obtain ⟨b, o, e, hlt, hc⟩ := h.2.2.2.2 hne
    exact ⟨b, o, e, Nat.lt_of_lt_of_le hlt hs, fun j u hj => (World.cell?_of_block (a := ⟨b, o + j, none⟩) (hb ⟨b, o, none⟩ e)).trans (hc j u hj)⟩⟩
theorem sg_fresh {w W : World} {s : Bool} {A : Option Addr} {n c : Nat} {zs : List Nat} {S : Int} (h : Sg w W s A n c zs S) : ∀ a, A = some a → w.heap.size ≤ a.block ∧ a.block < W.heap.size := fun a e => by
  have := h.1.2.2.lt a.block (by rw [e]; rfl)
  exact this
/-- what valuesOfThirds answers -/
def ThR (w w' : World) (z : Ending) (xs : List Nat) (n : Nat) : Prop :=
  ∃ a b c d e : Sn, z = .returned (snV a b c d e) ∧ (∀ s ∈ [a, b, c, d, e], Sc w' s.A s.n s.c s.xs) ∧ [a.v, b.v, c.v, d.v, e.v] = thS (V (pw xs n 0)) (V (pw xs n 1)) (V (pw xs n 2)) ∧ Below w.heap.size w w'

set_option maxHeartbeats 4000000 in
theorem thirds_ok (A : Option Addr) (L c n : Nat) (xs : List Nat) (w : World) (hL : L ≤ 100000) (hn1 : 1 ≤ n) (hn2 : n ≤ 40000) (hL3 : L ≤ 3 * n) (hx : Sc w A L c xs) (hT : TabF w) :
    Calls Tryz.prog 74 #[.slice A L c, .int .i64 (n : Int)] w fun z w' => ThR w w' z xs n := by
  have Hx := Lib.hid (And.intro hx hT)
  have hmix : Tryz.prog.follows Departure.mixedOrders = true := by kernel_rfl
  obtain ⟨N, hN⟩ : ∃ N, (L + n - 1) / n = N := ⟨_, rfl⟩
  have hN3 : N ≤ 3 := by
    rw [← hN, Nat.div_le_iff_le_mul (by omega)]
    omega
  clear hx hT
  refine (callsIn_wide (n := 5)).1 ?_
  refine callsIn_of_wp_marks Tryz.func74 rfl trivial ?_ rfl
  simp only [Tryz.ntmps74, List.size_toArray, List.length_cons, List.length_nil, Nat.reduceAdd, Nat.reduceSub, Array.replicate_succ, Array.replicate_zero, List.push_toArray, List.append_toArray, List.nil_append, List.cons_append]
  gi_wp2_with (first
    | (refine ⟨trivial, ?_⟩; gi_at_call 22; refine (callsIn_wide.2 (pieces_any _ _ _ _ _)).mono ?_; rintro e w' ⟨rfl, rfl⟩))
  have hI0 : ITh w A L c n xs 0 (((((w.alloc (Obj.cells #[.int .i64 (n : Int)] 3)).alloc (Obj.cells zero10.toArray 72)).alloc (Obj.cells zero10.toArray 72)).alloc (Obj.cells #[.slice A L c] 23)).alloc (Obj.cells #[.int .i64 (n : Int)] 3)) := by
    have q0 := ((((Wd.new w (.int .i64 (n : Int)) 3).alloc (Obj.cells zero10.toArray 72)).alloc (Obj.cells zero10.toArray 72)).alloc (Obj.cells #[.slice A L c] 23)).alloc (Obj.cells #[.int .i64 (n : Int)] 3)
    obtain ⟨w1, hw1⟩ : ∃ w1, w.alloc (Obj.cells #[.int .i64 (n : Int)] 3) = w1 := ⟨_, rfl⟩
    have hs1 : w1.heap.size = w.heap.size + 1 := by rw [← hw1]; simp
    have hb1 : Below w.heap.size w w1 := by rw [← hw1]; exact (Below.refl _ _).alloc (Nat.le_refl _) _
    rw [hw1] at q0 ⊢
    obtain ⟨w2, hw2⟩ : ∃ w2, w1.alloc (Obj.cells zero10.toArray 72) = w2 := ⟨_, rfl⟩
    have hs2 : w2.heap.size = w.heap.size + 2 := by rw [← hw2]; simp; omega
    have k1 := Bk.new w1 zero10 72
    have hb2 : Below w1.heap.size w1 w2 := by rw [← hw2]; exact (Below.refl _ _).alloc (Nat.le_refl _) _
    rw [hw2] at q0 k1 ⊢
    obtain ⟨w3, hw3⟩ : ∃ w3, w2.alloc (Obj.cells zero10.toArray 72) = w3 := ⟨_, rfl⟩
    have hs3 : w3.heap.size = w.heap.size + 3 := by rw [← hw3]; simp; omega
    have k2 := Bk.new w2 zero10 72
    have hb3 : Below w2.heap.size w2 w3 := by rw [← hw3]; exact (Below.refl _ _).alloc (Nat.le_refl _) _
    rw [hw3] at q0 k2 ⊢
    have k3 := (Wd.new w3 (.slice A L c) 23).alloc (Obj.cells #[.int .i64 (n : Int)] 3)
    obtain ⟨w4, hw4⟩ : ∃ w4, w3.alloc (Obj.cells #[.slice A L c] 23) = w4 := ⟨_, rfl⟩
    have hs4 : w4.heap.size = w.heap.size + 4 := by rw [← hw4]; simp; omega
    have hb4 : Below w3.heap.size w3 w4 := by rw [← hw4]; exact (Below.refl _ _).alloc (Nat.le_refl _) _
    rw [hw4] at q0 k3 ⊢
    have k4 := Wd.new w4 (.int .i64 (n : Int)) 3
    obtain ⟨w5, hw5⟩ : ∃ w5, w4.alloc (Obj.cells #[.int .i64 (n : Int)] 3) = w5 := ⟨_, rfl⟩
    have hs5 : w5.heap.size = w.heap.size + 5 := by rw [← hw5]; simp; omega
    have hb5 : Below w4.heap.size w4 w5 := by rw [← hw5]; exact (Below.refl _ _).alloc (Nat.le_refl _) _
    rw [hw5] at q0 k3 k4 ⊢
    rw [hs1] at k1
    rw [hs2] at k2
    rw [hs3] at k3
    rw [hs4] at k4
    have b35 := hb4.trans (hb5.mono (by omega))
    have b25 := hb3.trans (b35.mono (by omega))
    exact ⟨k2.below b35 (by omega), k1.below b25 (by omega), q0, k3, k4, hb1.trans ((hb2.trans (b25.mono (by omega))).mono (by omega)), by omega⟩
  refine wpIn_rounds (F := Fence.wide) (n := 5) rfl (by decide) (gf := 59) (lb := #[.pointer (some ⟨w.heap.size + 1 + 1 + 1, 0, none⟩), .pointer (some ⟨w.heap.size + 1 + 1 + 1 + 1, 0, none⟩)]) rfl trivial (fun args w => run_callFunc_enter Tryz.func59 (by kernel_rfl) (by kernel_rfl) args w)
    (pieces_rounds 4 (by decide) (w.heap.size + 1 + 1 + 1) (w.heap.size + 1 + 1 + 1 + 1) A L c n xs hL hn1 (by omega) _) (Below.refl _ _) (fun _ => rfl)
    (ITh w A L c n xs) (fun _ _ _ => False) (ITh_own (by simp; omega)) (fun _ _ _ _ _ hs _ _ => hs) (fun k W h => ⟨h.2.2.2.1.1, h.2.2.2.2.1.1, Hx.out.1.1.below h.2.2.2.2.2.1⟩) hI0
    (fun k => { tmps := #[.slice A L c, .int .i64 (n : Int), undef, .pointer (some ⟨w.heap.size, 0, none⟩), .pointer (some ⟨w.heap.size + 1, 0, none⟩), .pointer (some ⟨w.heap.size + 1 + 1, 0, none⟩), .int .i64 (ptI n k), .slice (A.map (·.add (k * n))) (ul (pw xs n k)) (pl L n k), undef, .slice A L c, .int .i64 (n : Int), .func (.func 59) #[] #[.pointer (some ⟨w.heap.size + 1 + 1 + 1, 0, none⟩), .pointer (some ⟨w.heap.size + 1 + 1 + 1 + 1, 0, none⟩)], .int .i64 (ptI n k), .slice (A.map (·.add (k * n))) (ul (pw xs n k)) (pl L n k), undef, undef, undef, undef, undef, undef, undef, undef, undef, undef, undef, undef], defers := [] }) ?assign ?body ?done ?stop
  case assign =>
    intro l k W K hK
    gi_wp2
    exact hK
  case body =>
    rintro l k W h hk
    rw [hN] at hk
    have c0 := h.2.2.1.1
    have hcl : (cPs A L n xs k).length = 5 := by simp [cPs]
    obtain ⟨x0, hx0⟩ : ∃ x0, ((cPs A L n xs k).flatMap sncs)[2 * k]? = some x0 := ⟨_, List.getElem?_eq_getElem (by rw [flat_len, hcl]; omega)⟩
    obtain ⟨x1, hx1⟩ : ∃ x1, ((cPs A L n xs k).flatMap sncs)[2 * k + 1]? = some x1 := ⟨_, List.getElem?_eq_getElem (by rw [flat_len, hcl]; omega)⟩
    have HX := Lib.hid (And.intro hx0 hx1)
    have H := Lib.hid h
    obtain ⟨B, hB⟩ : ∃ B, A.map (·.add (k * n)) = B := ⟨_, rfl⟩
    obtain ⟨u, hu⟩ : ∃ u, ul (pw xs n k) = u := ⟨_, rfl⟩
    obtain ⟨r, hr⟩ : ∃ r, pl L n k = r := ⟨_, rfl⟩
    have HNx : ∀ W', Below W.heap.size W W' → ITh w A L c n xs (k + 1) ((W'.setCell ⟨w.heap.size + 2, 2 * k, none⟩ (.bool false)).setCell ⟨w.heap.size + 2, 2 * k + 1, none⟩ (.slice B u r)) := fun W' hb => by
      rw [← hB, ← hu, ← hr]
      exact h.next (by omega) hb
    have HNx := Lib.hid HNx
    rw [show 2 * k = k * 2 by omega] at HNx HX
    obtain ⟨p, hp⟩ : ∃ p, k * n = p := ⟨_, rfl⟩
    have hpI : ptI n k = (p : Int) := by rw [ptI, hp]
    have hdiv : (p : Int).tdiv (n : Int) = (k : Int) := by
      rw [← hp]
      push_cast
      exact Int.mul_tdiv_cancel _ (by omega)
    rw [hB, hu, hr, hpI]
    have hn0 : ¬ n = 0 := by omega
    have hwr : IntKind.i64.wrap (k : Int) = (k : Int) := by rcases (show k = 0 ∨ k = 1 ∨ k = 2 by omega) with rfl | rfl | rfl <;> rfl
    have hk5 : (k : Int) < 5 := by omega
    have HS0 : Hid (W.drew.cell? ⟨w.heap.size, 0, none⟩ = some (.int .i64 (n : Int))) := c0
    clear hx0 hx1 h hB hu hr hp hpI hcl hI0
    gi_wp2
    refine wpIn_region_M 6 (fun w' => w'.cell? ⟨w.heap.size, 0, none⟩ = some (.int .i64 (n : Int))) hmix (by kernel_rfl) (by rintro ⟨a, w, h⟩; exact h) ?_
    refine wpAnyM_take (i := 0) (v := ?_) rfl rfl (by kernel_rfl) (by kernel_rfl) (by kernel_rfl) (by kernel_rfl) (by kernel_rfl) (by kernel_rfl) (fun _ _ _ h => h) HS0.out (Or.inl ⟨by rfl, ?_⟩) ?_
    rotate_left
    · rintro w q0; go_simp; try with_reducible rfl
    try simp only [Act.put, List.getElem_toArray, List.getElem_cons_zero, List.getElem_cons_succ, List.setIfInBounds_toArray, List.set_cons_zero, List.set_cons_succ]
    refine wpAnyM_take (i := 1) (v := ?_) rfl rfl (by kernel_rfl) (by kernel_rfl) (by kernel_rfl) (by kernel_rfl) (by kernel_rfl) (by kernel_rfl) (fun _ _ _ h => h) HS0.out (Or.inl ⟨by rfl, ?_⟩) ?_
    rotate_left
    · rintro w q0; go_simp; try with_reducible rfl
    try simp only [Act.put, List.getElem_toArray, List.getElem_cons_zero, List.getElem_cons_succ, List.setIfInBounds_toArray, List.set_cons_zero, List.set_cons_succ]
    refine wpAnyM_take (i := 2) (v := ?_) rfl rfl (by kernel_rfl) (by kernel_rfl) (by kernel_rfl) (by kernel_rfl) (by kernel_rfl) (by kernel_rfl) (fun _ _ _ h => h) HS0.out (Or.inl ⟨by rfl, ?_⟩) ?_
    rotate_left
    · rintro w q0; go_simp; try with_reducible rfl
    try simp only [Act.put, List.getElem_toArray, List.getElem_cons_zero, List.getElem_cons_succ, List.setIfInBounds_toArray, List.set_cons_zero, List.set_cons_succ]
    refine wpAnyM_take (i := 3) (v := ?_) rfl rfl (by kernel_rfl) (by kernel_rfl) (by kernel_rfl) (by kernel_rfl) (by kernel_rfl) (by kernel_rfl) (fun _ _ _ h => h) HS0.out (Or.inl ⟨by rfl, ?_⟩) ?_
    rotate_left
    · rintro w q0; go_simp; try with_reducible rfl
    try simp only [Act.put, List.getElem_toArray, List.getElem_cons_zero, List.getElem_cons_succ, List.setIfInBounds_toArray, List.set_cons_zero, List.set_cons_succ]
    refine wpAnyM_one (i := 4) rfl (by kernel_rfl) (fun K hK => ?_)
    go_simp
    refine (natural_ok _ _ _ _).mono ?_
    rintro e w3 ⟨rfl, hb3⟩
    have hb3' : Below W.heap.size W w3 := belowA hb3
    have HS1 : Hid (w3.cell? ⟨w.heap.size, 0, none⟩ = some (.int .i64 (n : Int))) := ((hb3.cell (p := ⟨w.heap.size, 0, none⟩) (World.block_lt_of_cell? _ _ HS0.out)).trans HS0.out)
    have HB := Lib.hid hb3'
    have hA := H.out.1.below hb3' (by have := H.out.2.2.2.2.2.2; omega)
    obtain ⟨p0, f0⟩ := hA (k * 2) _ HX.out.1
    obtain ⟨p1, f1⟩ := hA (k * 2 + 1) _ HX.out.2
    clear hb3 hb3' HS0 hA
    refine hK.out _ _ (fun _ => HS1.out) ?_
    clear hK K
    try simp only [Act.put, List.getElem_toArray, List.getElem_cons_zero, List.getElem_cons_succ, List.setIfInBounds_toArray, List.set_cons_zero, List.set_cons_succ]
    refine wpAnyM_take (i := 5) (v := ?_) rfl rfl (by kernel_rfl) (by kernel_rfl) (by kernel_rfl) (by kernel_rfl) (by kernel_rfl) (by kernel_rfl) (fun _ _ _ h => h) HS1.out (Or.inl ⟨by rfl, ?_⟩) ?_
    rotate_left
    · rintro w q0; go_simp; try with_reducible rfl
    try simp only [Act.put, List.getElem_toArray, List.getElem_cons_zero, List.getElem_cons_succ, List.setIfInBounds_toArray, List.set_cons_zero, List.set_cons_succ]
    refine wpAnyM_one (i := 6) rfl (by kernel_rfl) (fun K hK => ?_)
    go_simp
    refine hK.out _ _ (fun h => absurd h (by decide)) ?_
    clear hK K
    refine wpAnyM_done (by kernel_rfl) ?_ _
    gi_wp2
    exact ⟨((keepsFrom_below HB.out).trans (((KeepsOthers.setCell _ _ _).trans (KeepsOthers.setCell _ _ _)).from _)), HNx.out _ HB.out⟩
  case done =>
    rintro D W hD h hcol
    rw [hN] at h
    obtain ⟨p0, p1, p2, p3, p4, hp⟩ := list5 (show (cPs A L n xs N).length = 5 by simp [cPs])
    have hok : ∀ s ∈ cPs A L n xs N, Sc W s.A s.n s.c s.xs ∧ s.n ≤ 40000 := fun s hs => cPs_ok (Hx.out.1.1.below h.2.2.2.2.2.1) hN hn2 hL3 s hs
    have hval := cPs_val (Hx.out.1.1.below h.2.2.2.2.2.1) hN hn1 hL3
    obtain ⟨h1, h2, h3, h4, h5, h6, h7⟩ := h
    rw [hp] at h1 hok hval
    have hh1 : Bk W (w.heap.size + 2) (snL p0 p1 p2 p3 p4) := h1
    have Hp := Lib.hid hp
    have Hval := Lib.hid hval
    have hD5 : w.heap.size + 5 ≤ D := by simp at hD; omega
    clear hval hD
    have H := Lib.hid (And.intro hh1 (And.intro h2 (And.intro h6 h7)))
    have Hok := Lib.hid hok
    have HT := Lib.hid (Hx.out.2.below h6)
    clear h1 hh1 h2 h3 h4 h5 h6 h7 hok hp hI0
    rename_i K hK
    refine hK _ _ ?_
    clear hK
    refine wpIn_wide.2 ?_
    go_wp2_with (first | (refine wpList_load_mid rfl 72 _ rfl (w.heap.size + 2) 0 rfl (snL p0 p1 p2 p3 p4) _ H.out.1.range Tryz.underlying72 rfl (by kernel_rfl) ?_))
    refine (five_ok p0 p1 p2 p3 p4 W ⟨(Hok.out p0 (by simp)).1.1, (Hok.out p0 (by simp)).2⟩ ⟨(Hok.out p1 (by simp)).1.1, (Hok.out p1 (by simp)).2⟩ ⟨(Hok.out p2 (by simp)).1.1, (Hok.out p2 (by simp)).2⟩ ⟨(Hok.out p3 (by simp)).1.1, (Hok.out p3 (by simp)).2⟩ ⟨(Hok.out p4 (by simp)).1.1, (Hok.out p4 (by simp)).2⟩ HT.out).mono ?_
    rintro z w2 ⟨a, b, c', d, e, rfl, -, hS, hb2⟩
    have hsz := hb2.size
    have hbN : Below w2.heap.size w2 (w2.alloc (.cells (snL a b c' d e).toArray 72)) := (Below.refl _ _).alloc (Nat.le_refl _) _
    have hbP : Below w2.heap.size w2 (w2.alloc (.cells (snL a b c' d p2).toArray 72)) := (Below.refl _ _).alloc (Nat.le_refl _) _
    have hB2 := (H.out.1.below hb2 (by have := H.out.2.2.2; omega)).below hbN (by have := H.out.2.2.2; omega)
    obtain ⟨g4, -⟩ := hB2 4 _ rfl
    obtain ⟨g5, -⟩ := hB2 5 _ rfl
    have hK3 : Bk (w2.alloc (.cells (snL a b c' d e).toArray 72)) w2.heap.size (snL a b c' d e) := Bk.new w2 _ _
    obtain ⟨g8, f8⟩ := hK3 8 _ rfl
    obtain ⟨g9, f9⟩ := hK3 9 _ rfl
    have hZ : Bk (w2.alloc (.cells (snL a b c' d p2).toArray 72)) (w.heap.size + 1) zero10 := (H.out.2.1.below hb2 (by have := H.out.2.2.2; omega)).below hbP (by have := H.out.2.2.2; omega)
    have Hth := Lib.hid hZ.there
    have hlD : D < W.heap.size := (Array.getElem?_eq_some_iff.1 hcol).1
    have HS := Lib.hid (And.intro hS (And.intro hb2 (And.intro hbP (And.intro hcol hlD))))
    clear hS hb2 hsz hbN hbP hB2 hK3 hZ hcol hlD
    go_wp2_with (first | (refine wpList_store_mid rfl 72 _ _ rfl (w.heap.size + 1) 0 (snL a b c' d p2).toArray rfl rfl Hth.out (by kernel_rfl) (by simp [Value.oneCell']) ?_))
    obtain ⟨W4, hW4⟩ : ∃ W4, (w2.alloc (.cells (snL a b c' d p2).toArray 72)).setCells (w.heap.size + 1) 0 (snL a b c' d p2) = W4 := ⟨_, rfl⟩
    have hs2 := HS.out.2.1.size
    have hwW := H.out.2.2.2
    have hbk : ∀ k, k < w2.heap.size → k ≠ w.heap.size + 1 → W4.heap[k]? = w2.heap[k]? := fun k hk hne => by
      rw [← hW4]
      exact ((grown_setCells (w.heap.size + 1) (snL a b c' d p2) 0 _).block k (by simp; omega) (by intro e; injection e with e; omega)).trans (HS.out.2.2.1.block k hk)
    have hs4 : w2.heap.size ≤ W4.heap.size := by
      rw [← hW4]
      exact Nat.le_trans (HS.out.2.2.1.size) (grown_setCells (w.heap.size + 1) (snL a b c' d p2) 0 _).size
    have hcolF : W4.heap[D]? = some (.deferred (some [])) := (hbk D (by have := HS.out.2.2.2.2; omega) (by omega)).trans ((HS.out.2.1.block D HS.out.2.2.2.2).trans HS.out.2.2.2.1)
    have hrg : W4.rangeAt (w.heap.size + 1) 0 (snL a b c' d p2) := by rw [← hW4]; exact World.rangeAt_setCells_same _ _ _ _ Hth.out
    have hrg2 : (W4.putObj D (.deferred none)).rangeAt (w.heap.size + 1) 0 (snL a b c' d p2) := fun j v hj => (World.cell?_of_block (a := ⟨w.heap.size + 1, 0 + j, none⟩) (World.putObj_heap_other (by show w.heap.size + 1 ≠ D; omega))).trans (hrg j v hj)
    have hl := run_loadVar_mid (P := Tryz.prog) (W4.putObj D (.deferred none)) (w.heap.size + 1) 0 72 (snL a b c' d p2) _ hrg2 Tryz.underlying72 rfl (by kernel_rfl)
    have hbF : Below w.heap.size w (W4.putObj D (.deferred none)) := by
      refine below_putObj ?_ (by omega) _
      rw [← hW4]
      exact below_setCells ((H.out.2.2.1.trans (HS.out.2.1.mono (by omega))).trans (HS.out.2.2.1.mono (by omega))) (by omega) _ _ (by simp; omega)
    have hsF : w2.heap.size ≤ (W4.putObj D (.deferred none)).heap.size := by simpa [World.putObj] using hs4
    have hsc : ∀ (i : Nat) (s : Sn) (v : Int), [a, b, c', d, e][i]? = some s → (fiveS [p0.v, p1.v, p2.v, p3.v, p4.v])[i]? = some v → Sc (W4.putObj D (.deferred none)) s.A s.n s.c s.xs ∧ s.v = v := fun i s v h1 h2 => by
      have hg := HS.out.1 i s v h1 h2
      refine ⟨⟨hg.sl.1.same hsF (fun x hx => ?_), hg.2.1⟩, hg.2.2.1.symm⟩
      have hf := sg_fresh hg x hx
      exact (World.putObj_heap_other (by have := HS.out.2.2.2.2; have := hf.1; omega)).trans (hbk _ hf.2 (by omega))
    rw [hW4]
    clear hW4
    have e0 := hsc 0 a _ rfl rfl
    have e1 := hsc 1 b _ rfl rfl
    have e2 := hsc 2 c' _ rfl rfl
    have e3 := hsc 3 d _ rfl rfl
    have e4 := (cPs_ok (Hx.out.1.1.below hbF) hN hn2 hL3 p2 (by rw [Hp.out]; simp)).1
    have hv := Hval.out
    simp only [List.map_cons, List.map_nil, List.cons.injEq, and_true] at hv
    obtain ⟨v0, v1, v2, v3, v4⟩ := hv
    refine ⟨by simp, .inl ⟨_, _, rfl, run_takeDeferred hcolF, snV a b c' d p2, by simp [results, Tryz.f74, Act.put, asAddr, hl], a, b, c', d, p2, rfl, ?_, ?_, hbF⟩⟩
    · intro s hs
      simp only [List.mem_cons, List.not_mem_nil, or_false] at hs
      rcases hs with rfl | rfl | rfl | rfl | rfl
      · exact e0.1
      · exact e1.1
      · exact e2.1
      · exact e3.1
      · exact e4
    · rw [e0.2, e1.2, e2.2, e3.2, v0, v1, v2, v3, v4, thS]
      simp only [List.cons.injEq, and_true, true_and]
      omega
  case stop =>
    rintro D c k W _ h _
    exact h.elim
end Go.Proofs.YthpgdpkemnhneaaGreatDoor
