/- The contracts of nat.checkSizes, nat.used, nat.result; what a number that is handed back is. -/
import Derived.Test.YtekikolhnfofeaaNatM
import Derived.Test.YtekikolhnfofeaaTk
import Derived.Test.YtekikolhnfofeaaMem
namespace Go.Proofs.Ytekikolhnfofeaa
open Go.RowKit
set_option linter.unusedVariables false
set_option maxRecDepth 10000

/-- The values of a list of slices. -/
def svs (ls : List (Option Addr × Nat × Nat)) : List Value := ls.map fun s => .slice s.1 s.2.1 s.2.2
theorem svs_get {ls : List (Option Addr × Nat × Nat)} {k : Nat} {s : Option Addr × Nat × Nat} (h : ls[k]? = some s) : (svs ls)[k]? = some (.slice s.1 s.2.1 s.2.2) := by simp [svs, h]
/-- the error of a list of numbers -/
def chkS (ls : List (Option Addr × Nat × Nat)) : Int := if ls.any (fun s => decide (4096 < s.2.1)) then 2 else 0
theorem anyS_succ (p : Option Addr × Nat × Nat → Bool) (ls : List (Option Addr × Nat × Nat)) (k : Nat) (h : k < ls.length) : (ls.take (k + 1)).any p = ((ls.take k).any p || p ls[k]) := by
  rw [List.take_succ_eq_append_getElem h, List.any_append]; simp
theorem anyS_get (p : Option Addr × Nat × Nat → Bool) (ls : List (Option Addr × Nat × Nat)) (k : Nat) (h : k < ls.length) (hp : p ls[k] = true) : ls.any p = true := List.any_eq_true.2 ⟨_, List.getElem_mem h, hp⟩

set_option maxHeartbeats 400000 in
theorem checkSizes_any (ls : List (Option Addr × Nat × Nat)) (A : Option Addr) (m c : Nat) (w : World) (hl : ls.length = m) (hm : m ≤ 100000) (hr : Rd w w.heap.size A (svs ls)) :
    Calls Try.prog 54 #[.slice A m c] w fun e w' => e = .returned (.int .i64 (chkS ls)) ∧ w = w' := by
  have Hr := Lib.hid (And.intro hr hl)
  clear hr hl
  go_enter Try.func54, Try.ntmps54
  go_wp2
  go_loop [4, 7] (fun _ i => ∃ k : Nat, k ≤ m ∧ i = .int .i64 k ∧ (ls.take k).any (fun s => decide (4096 < s.2.1)) = false) (fun _ i => m - (intOf i).toNat)
  case atStart => exact ⟨0, Nat.zero_le _, rfl, rfl⟩
  case round =>
    obtain ⟨k, hk, rfl, hno⟩ := hrel
    have Hno := Lib.hid hno
    clear hno
    by_cases hlt : k < m
    · have hkl : k < ls.length := by rw [Hr.out.2]; exact hlt
      obtain ⟨b, o, rfl, _, hcx⟩ := Hr.out.1.at (svs_get (List.getElem?_eq_getElem hkl))
      have Hs := Lib.hid (anyS_succ (fun s => decide (4096 < s.2.1)) ls k hkl)
      have Hy := Lib.hid (anyS_get (fun s => decide (4096 < s.2.1)) ls k hkl)
      generalize ls[k] = z at *
      obtain ⟨za, zn, zc⟩ := z
      have hki : (k : Int) < m := by omega
      clear hkl
      by_cases hz : 4096 < zn
      · have hzi : (4096 : Int) < zn := by omega
        go_wp2
        go_ret
        refine ⟨?_, rfl⟩
        have := Hy.out (by simpa using hz)
        simp [chkS, this]
      · have hzi : ¬ (4096 : Int) < zn := by omega
        go_wp2
        go_round
        case rel => exact ⟨k + 1, by omega, by go_num, by rw [Hs.out, Hno.out]; simpa using hz⟩
        case measure => simp [intOf]; omega
    · have hno := Hno.out
      rw [List.take_of_length_le (by rw [Hr.out.2]; omega)] at hno
      have H0 := Lib.hid hno
      clear hno
      go_wp2
      go_ret
      refine ⟨?_, rfl⟩
      simp [chkS, H0.out]

/-- checkSizes of two new cells -/
theorem checkSizes_two (A A' : Option Addr) (n n' c c' : Nat) (t : TypeId) (b : Nat) (w : World) (hb : b = w.heap.size) :
    Calls Try.prog 54 #[.slice (some ⟨b, 0, none⟩) 2 2] (w.alloc (.cells #[.slice A n c, .slice A' n' c'] t)) fun e w' => e = .returned (.int .i64 (chkS [(A, n, c), (A', n', c')])) ∧ Below w.heap.size w w' := by
  subst hb
  refine (checkSizes_any [(A, n, c), (A', n', c')] _ 2 2 _ rfl (by omega) (fun _ => ⟨w.heap.size, 0, rfl, by simp, fun j u hj => ?_⟩)).mono (by rintro e w' ⟨rfl, rfl⟩; exact ⟨rfl, (Below.refl _ _).alloc (Nat.le_refl _) _⟩)
  match j, hj with
  | 0, hj => simp [svs] at hj; subst hj; simp
  | 1, hj => simp [svs] at hj; subst hj; simp
theorem checkSizes_one (A : Option Addr) (n c : Nat) (t : TypeId) (b : Nat) (w : World) (hb : b = w.heap.size) :
    Calls Try.prog 54 #[.slice (some ⟨b, 0, none⟩) 1 1] (w.alloc (.cells #[.slice A n c] t)) fun e w' => e = .returned (.int .i64 (chkS [(A, n, c)])) ∧ Below w.heap.size w w' := by
  subst hb
  refine (checkSizes_any [(A, n, c)] _ 1 1 _ rfl (by omega) (fun _ => ⟨w.heap.size, 0, rfl, by simp, fun j u hj => ?_⟩)).mono (by rintro e w' ⟨rfl, rfl⟩; exact ⟨rfl, (Below.refl _ _).alloc (Nat.le_refl _) _⟩)
  match j, hj with
  | 0, hj => simp [svs] at hj; subst hj; simp
theorem chkS_two {A A' : Option Addr} {n n' c c' : Nat} (h : n ≤ 4096) (h' : n' ≤ 4096) : chkS [(A, n, c), (A', n', c')] = 0 := by
  simp only [chkS, List.any_cons, List.any_nil, Bool.or_false, Bool.or_eq_true, decide_eq_true_eq]
  rw [if_neg (by omega)]
theorem chkS_two_big {A A' : Option Addr} {n n' c c' : Nat} (h : 4096 < n ∨ 4096 < n') : chkS [(A, n, c), (A', n', c')] = 2 := by
  simp only [chkS, List.any_cons, List.any_nil, Bool.or_false, Bool.or_eq_true, decide_eq_true_eq]
  rw [if_pos h]
theorem chkS_one {A : Option Addr} {n c : Nat} (h : n ≤ 4096) : chkS [(A, n, c)] = 0 := by
  simp only [chkS, List.any_cons, List.any_nil, Bool.or_false, decide_eq_true_eq]
  rw [if_neg (by omega)]
theorem chkS_one_big {A : Option Addr} {n c : Nat} (h : 4096 < n) : chkS [(A, n, c)] = 2 := by
  simp only [chkS, List.any_cons, List.any_nil, Bool.or_false, decide_eq_true_eq]
  rw [if_pos h]

theorem Sl.tk {w : World} {A : Option Addr} {n c : Nat} {xs : List Nat} (h : Sl w A n c xs) {k : Nat} (hk : k ≤ n) : Sl w A k c (xs.take k) :=
  ⟨by rw [List.length_take, h.1]; omega, by have := h.2.1; omega, h.2.2.1, Ws_take h.2.2.2.1 k, by rw [uvs_take]; exact h.2.2.2.2.take k⟩
theorem Nw.tk {w w' : World} {A : Option Addr} {n c : Nat} {zs : List Nat} (h : Nw w w' (.slice A n c) n zs) {k : Nat} (hk : k ≤ n) : Nw w w' (.slice A k c) k (zs.take k) := by
  obtain ⟨h1, h2, h3, h4⟩ := h
  refine ⟨by rw [List.length_take]; omega, Ws_take h2 k, by rw [uvs_length, List.length_take]; omega, ?_⟩
  rcases h4 with ⟨e, h0⟩ | ⟨g, cap, cur, e, hg, hh, hn, hc, hs, ht⟩
  · injection e with e1 e2 e3
    subst e1 e3
    have : k = 0 := by omega
    subst this
    exact .inl ⟨rfl, rfl⟩
  · injection e with e1 e2 e3
    subst e1 e3
    refine .inr ⟨g, c, cur, rfl, hg, hh, by omega, hc, hs, ?_⟩
    rw [Nat.mul_one] at ht ⊢
    rw [uvs_take, ← ht, List.take_take, Nat.min_eq_left hk]

/-- what is cut off is 0 -/
theorem V_cut (xs : List Nat) (k : Nat) (h : xs[k]? = some 0) (hv : V (xs.take (k + 1)) = V xs) : V (xs.take k) = V xs := by
  obtain ⟨hk, h0⟩ := List.getElem?_eq_some_iff.1 h
  rw [V_take_succ xs k hk, h0] at hv
  omega

set_option maxHeartbeats 400000 in
theorem used_ok (A : Option Addr) (n c : Nat) (xs : List Nat) (w : World) (hn : n ≤ 100000) (hx : Sl w A n c xs) :
    Calls Try.prog 59 #[.slice A n c] w fun e w' => ∃ k, e = .returned (.slice A k c) ∧ k ≤ n ∧ Hid (V (xs.take k) = V xs ∧ Cn (xs.take k)) ∧ w = w' := by
  have hnc := hx.2.1
  have Hx := Lib.hid hx
  clear hx
  go_enter Try.func59, Try.ntmps59
  go_wp2
  go_loop [3] (fun kv => ∃ k : Nat, k ≤ n ∧ kv = .int .i64 k ∧ Hid (V (xs.take k) = V xs)) (fun kv => (intOf kv).toNat)
  case atStart => exact ⟨n, Nat.le_refl _, rfl, by rw [Hx.out.take_all]; rfl⟩
  case round =>
    obtain ⟨k, hk, rfl, hH⟩ := hrel
    rcases Nat.eq_zero_or_pos k with rfl | hpos
    · have h0 : ¬ (0 : Int) < ((0 : Nat) : Int) := by omega
      go_wp2
      go_ret
      exact ⟨0, rfl, by omega, ⟨hH.out, by simpa using Cn_nil⟩, rfl⟩
    · obtain ⟨m, rfl⟩ : ∃ m, k = m + 1 := ⟨k - 1, by omega⟩
      have hml : m < xs.length := by rw [Hx.out.1]; omega
      have hg := List.getElem?_eq_getElem hml
      obtain ⟨b, o, rfl, hb, hcx⟩ := Hx.out.2.2.2.2.at (uvs_get hg)
      generalize xs[m] = x at *
      have Hg := Lib.hid hg
      have hmi : ((m + 1 : Nat) : Int) - 1 = (m : Int) := by omega
      have hmi2 : (m : Int) + 1 - 1 = (m : Int) := by omega
      have hmn : (m : Int) < (n : Int) := by omega
      clear hg hml
      by_cases hx0 : x = 0
      · subst hx0
        have hv : Hid (V (xs.take m) = V xs) := V_cut xs m Hg.out hH.out
        clear hH
        go_wp2
        go_round
        case rel => exact ⟨m, by omega, rfl, hv⟩
        case measure => simp [intOf]
      · have hxb : ((x : Int) == 0) = false := by simp; omega
        have Hx0 := Lib.hid hx0
        clear hx0
        go_wp2
        go_ret
        refine ⟨m + 1, rfl, hk, ⟨hH.out, fun m' h => ?_⟩, rfl⟩
        have hl : (xs.take (m + 1)).length = m + 1 := by rw [List.length_take, Hx.out.1]; omega
        have : m' = m := by omega
        subst this
        rw [List.getElem?_take, if_pos (by omega), Hg.out]
        intro e
        injection e with e
        exact Hx0.out e

/-- the most words, and the least number that is too large -/
def Most : Nat := 4096
def Big : Nat := B64 ^ Most
theorem Cn_big {xs : List Nat} (hw : Ws xs) (h : Cn xs) : xs.length ≤ 4096 ↔ V xs < Big := Cn_len hw h Most
/-- v is a new canonical number x -/
def Nt (w w' : World) (v : Value) (x : Nat) : Prop := ∃ n zs, Nw w w' v n zs ∧ Cn zs ∧ V zs = x
/-- what a call answers whose result is x, or too large -/
def Rs (w w' : World) (e : Ending) (x : Nat) : Prop :=
  ((∃ v, e = .returned (.tuple #[v, .int .i64 0]) ∧ Nt w w' v x ∧ x < Big) ∨ (e = .returned (.tuple #[.slice none 0 0, .int .i64 2]) ∧ Big ≤ x)) ∧ Below w.heap.size w w'
theorem Nt.later {w w0 w1 w2 : World} {v : Value} {x : Nat} (h : Nt w w1 v x) (h0 : w0.heap.size ≤ w.heap.size) (hb : Below w1.heap.size w1 w2) : Nt w0 w2 v x := by
  obtain ⟨n, zs, h1, h2⟩ := h
  exact ⟨n, zs, h1.later h0 hb, h2⟩
theorem Nt.base {w w0 w1 : World} {v : Value} {x : Nat} (h : Nt w w1 v x) (h0 : w0.heap.size ≤ w.heap.size) : Nt w0 w1 v x := h.later h0 (Below.refl _ _)
theorem Nt.nil (w w' : World) : Nt w w' (.slice none 0 0) 0 := ⟨0, [], ⟨rfl, Ws_nil, World.ownsRow_nil _ _ _ _⟩, Cn_nil, rfl⟩
theorem Rs.from {w w0 w' : World} {e : Ending} {x : Nat} (h : Rs w w' e x) (hb : Below w0.heap.size w0 w) : Rs w0 w' e x := by
  obtain ⟨h1, h2⟩ := h
  refine ⟨?_, hb.trans (h2.mono hb.size)⟩
  rcases h1 with ⟨v, e1, h3, h4⟩ | h3
  · exact .inl ⟨v, e1, h3.base hb.size, h4⟩
  · exact .inr h3
/-- the row that a number is -/
theorem Nt.sl {w w' : World} {v : Value} {x : Nat} (h : Nt w w' v x) : ∃ A n c zs, v = .slice A n c ∧ Sl w' A n c zs ∧ Cn zs ∧ V zs = x ∧ Nw w w' (.slice A n c) n zs := by
  obtain ⟨n, zs, h1, h2, h3⟩ := h
  obtain ⟨A, c, rfl, hs⟩ := h1.sl
  exact ⟨A, n, c, zs, rfl, hs, h2, h3, h1⟩
theorem Nt.size {n : Nat} {zs : List Nat} (hw : Ws zs) (hc : Cn zs) (hl : zs.length = n) (h : V zs < Big) : n ≤ 4096 := by
  rw [← hl]; exact (Cn_big hw hc).2 h

set_option maxHeartbeats 400000 in
theorem result_ok (w0 : World) (A : Option Addr) (n c : Nat) (xs : List Nat) (w : World) (hn : n ≤ 100000) (hx : Nw w0 w (.slice A n c) n xs) :
    Calls Try.prog 57 #[.slice A n c] w fun e w' => ((∃ v, e = .returned (.tuple #[v, .int .i64 0]) ∧ Nt w0 w v (V xs) ∧ V xs < Big) ∨ (e = .returned (.tuple #[.slice none 0 0, .int .i64 2]) ∧ Big ≤ V xs)) ∧ w = w' := by
  obtain ⟨A', c', he, hs⟩ := hx.sl
  injection he with e1 e2 e3
  subst e1 e3
  have Hx := Lib.hid (And.intro hx hs)
  clear hx hs
  go_enter Try.func57, Try.ntmps57
  go_wp2_with (fail)
  refine (used_ok A n c xs w hn Hx.out.2).mono ?_
  rintro e w1 ⟨k, rfl, hk, hH, rfl⟩
  by_cases h4 : 4096 < k
  · have h4i : (4096 : Int) < k := by omega
    go_wp2_with (fail)
    go_ret2
    refine ⟨.inr ⟨rfl, ?_⟩, rfl⟩
    have hw := Ws_take Hx.out.1.2.1 k
    rcases Nat.lt_or_ge (V xs) Big with h | h
    · have := (Cn_big hw hH.out.2).2 (by rw [hH.out.1]; exact h)
      rw [List.length_take, Hx.out.1.1] at this
      omega
    · exact h
  · have h4i : ¬ (4096 : Int) < k := by omega
    go_wp2_with (fail)
    go_ret2
    refine ⟨.inl ⟨_, rfl, ⟨k, xs.take k, Hx.out.1.tk hk, hH.out.2, hH.out.1⟩, ?_⟩, rfl⟩
    have hw := Ws_take Hx.out.1.2.1 k
    rw [← hH.out.1]
    exact (Cn_big hw hH.out.2).1 (by rw [List.length_take]; omega)
end Go.Proofs.Ytekikolhnfofeaa
