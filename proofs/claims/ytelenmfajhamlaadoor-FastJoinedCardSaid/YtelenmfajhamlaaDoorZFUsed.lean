/- The contracts of fast.checkSizes, fast.used, fast.result, fast.below, fast.halves. -/
import Derived.Test.YtelenmfajhamlaaDoorP1
import Derived.BigQuiet
import Derived.Lib.MinMax
namespace Go.Proofs.YtelenmfajhamlaaDoor
open Go.RowKit Go.Shelf
set_option linter.unusedVariables false
set_option linter.unusedSimpArgs false
set_option maxRecDepth 10000

theorem fcheck_any (ls : List (Option Addr × Nat × Nat)) (A : Option Addr) (m c : Nat) (w : World) (hl : ls.length = m) (hm : m ≤ 100000) (hr : Rd w w.heap.size A (svs ls)) :
    Calls Tryd.prog 43 #[.slice A m c] w fun e w' => e = .returned (.int .i64 (chkS ls)) ∧ w = w' := checkSizes_any ls A m c w hl hm hr
theorem fcheck_two (A A' : Option Addr) (n n' c c' : Nat) (t : TypeId) (b : Nat) (w : World) (hb : b = w.heap.size) :
    Calls Tryd.prog 43 #[.slice (some ⟨b, 0, none⟩) 2 2] (w.alloc (.cells #[.slice A n c, .slice A' n' c'] t)) fun e w' => e = .returned (.int .i64 (chkS [(A, n, c), (A', n', c')])) ∧ Below w.heap.size w w' := checkSizes_two A A' n n' c c' t b w hb
theorem fcheck_one (A : Option Addr) (n c : Nat) (t : TypeId) (b : Nat) (w : World) (hb : b = w.heap.size) :
    Calls Tryd.prog 43 #[.slice (some ⟨b, 0, none⟩) 1 1] (w.alloc (.cells #[.slice A n c] t)) fun e w' => e = .returned (.int .i64 (chkS [(A, n, c)])) ∧ Below w.heap.size w w' := checkSizes_one A n c t b w hb

theorem fused_ok (A : Option Addr) (n c : Nat) (xs : List Nat) (w : World) (hn : n ≤ 100000) (hx : Sl w A n c xs) :
    Calls Tryd.prog 46 #[.slice A n c] w fun e w' => ∃ k, e = .returned (.slice A k c) ∧ k ≤ n ∧ Hid (V (xs.take k) = V xs ∧ Cn (xs.take k)) ∧ w = w' := used_ok A n c xs w hn hx

set_option maxHeartbeats 400000 in
theorem fresult_ok (w0 : World) (A : Option Addr) (n c : Nat) (xs : List Nat) (w : World) (hx : Nw w0 w (.slice A n c) n xs) (hc : Cn xs) (hn : n ≤ 9223372036854775807) :
    Calls Tryd.prog 52 #[.slice A n c] w fun e w' => ((e = .returned (.tuple #[.slice A n c, .int .i64 0]) ∧ Nt w0 w' (.slice A n c) (V xs) ∧ V xs < Big ∧ n ≤ 4096) ∨ (e = .returned (.tuple #[.slice none 0 0, .int .i64 2]) ∧ Big ≤ V xs)) ∧ Below w.heap.size w w' := by
  have Hx := Lib.hid (And.intro hx hc)
  have hl := hx.1
  clear hx hc
  by_cases h4 : 4096 < n
  · have HC := Lib.hid (chkS_one_big (A := A) (c := c) h4)
    go_enter Tryd.func52, Tryd.ntmps52
    go_wp2_with (go_at_call 43; refine (fcheck_one A n c _ _ _ rfl).mono ?_; rintro e w1 ⟨rfl, hb1⟩; rw [HC.out])
    go_ret2
    refine ⟨.inr ⟨rfl, ?_⟩, hb1⟩
    rcases Nat.lt_or_ge (V xs) Big with h | h
    · have := (Cn_big Hx.out.1.2.1 Hx.out.2).2 h
      omega
    · exact h
  · have HC := Lib.hid (chkS_one (A := A) (n := n) (c := c) (by omega))
    go_enter Tryd.func52, Tryd.ntmps52
    go_wp2_with (go_at_call 43; refine (fcheck_one A n c _ _ _ rfl).mono ?_; rintro e w1 ⟨rfl, hb1⟩; rw [HC.out])
    go_ret2
    refine ⟨.inl ⟨rfl, ⟨n, xs, Hx.out.1.later (Nat.le_refl _) hb1, Hx.out.2, rfl⟩, (Cn_big Hx.out.1.2.1 Hx.out.2).1 (by omega), by omega⟩, hb1⟩

theorem V_low {xs : List Nat} (hw : Ws xs) (k : Nat) : V (xs.take k) = V xs % B64 ^ k := by
  rcases Nat.lt_or_ge xs.length k with h | h
  · rw [List.take_of_length_le (by omega), Nat.mod_eq_of_lt]
    exact Nat.lt_of_lt_of_le (V_lt _ hw) (Nat.pow_le_pow_right B64_pos (by omega))
  · have h1 := V_split xs k h
    have h2 := V_lt _ (Ws_take hw k)
    rw [List.length_take, Nat.min_eq_left h] at h2
    rw [h1, Nat.add_mul_mod_self_right, Nat.mod_eq_of_lt h2]
set_option maxHeartbeats 400000 in
theorem fbelow_ok (A : Option Addr) (n c m : Nat) (xs : List Nat) (w : World) (hn : n ≤ 100000) (hm : m ≤ 100000) (hx : Sl w A n c xs) :
    Calls Tryd.prog 77 #[.slice A n c, .int .i64 m] w fun e w' => ∃ k, e = .returned (.slice A k c) ∧ k ≤ n ∧ k ≤ m ∧ Hid (V (xs.take k) = V xs % B64 ^ m ∧ Cn (xs.take k)) ∧ w = w' := by
  have Hx := Lib.hid hx
  have hnc := hx.2.1
  have hc := hx.2.2.1
  obtain ⟨r, hr⟩ : ∃ r, r = min m n := ⟨_, rfl⟩
  have hrn : r ≤ n := by omega
  have hrm : r ≤ m := by omega
  have hri : min (m : Int) (n : Int) = (r : Int) := by omega
  have hrc : (r : Int) ≤ (c : Int) := by omega
  have HV := Lib.hid (show V (xs.take r) = V xs % B64 ^ m by
    rw [← V_low hx.2.2.2.1]
    rcases Nat.le_total m n with h | h
    · rw [show r = m by omega]
    · rw [show r = n by omega, List.take_of_length_le (by rw [hx.1]; exact Nat.le_refl _), List.take_of_length_le (by rw [hx.1]; exact h)])
  clear hx
  go_enter Tryd.func77, Tryd.ntmps77
  rcases Nat.le_total m n with h | h
  · obtain rfl : r = m := by omega
    have hmn : (r : Int) ≤ (n : Int) := by omega
    clear hr h
    go_wp2_with (fail)
    refine (fused_ok A r c (xs.take r) w (by omega) (Hx.out.tk hrn)).mono ?_
    rintro e w1 ⟨k, rfl, hk, hU, rfl⟩
    have HU := Lib.hid hU
    clear hU
    go_wp2_with (fail)
    go_ret
    refine ⟨k, rfl, by omega, by omega, ?_, rfl⟩
    have h1 := HU.out.out
    rw [List.take_take, Nat.min_eq_left hk] at h1
    exact ⟨h1.1.trans HV.out, h1.2⟩
  · obtain rfl : r = n := by omega
    have hmn : (r : Int) ≤ (m : Int) := by omega
    clear hr h

    go_wp2_with (fail)
    refine (fused_ok A r c (xs.take r) w (by omega) (Hx.out.tk hrn)).mono ?_
    rintro e w1 ⟨k, rfl, hk, hU, rfl⟩
    have HU := Lib.hid hU
    clear hU
    go_wp2_with (fail)
    go_ret
    refine ⟨k, rfl, by omega, by omega, ?_, rfl⟩
    have h1 := HU.out.out
    rw [List.take_take, Nat.min_eq_left hk] at h1
    exact ⟨h1.1.trans HV.out, h1.2⟩
end Go.Proofs.YtelenmfajhamlaaDoor
