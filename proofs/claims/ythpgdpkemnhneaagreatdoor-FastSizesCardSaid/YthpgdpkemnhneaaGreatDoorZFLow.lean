/- The contracts of quick (of not too long numbers), below and fast.LowMul. -/
import Derived.Test.YthpgdpkemnhneaaGreatDoorZFSq
import Derived.Handy
namespace Go.Proofs.YthpgdpkemnhneaaGreatDoor
open Go.RowKit Go.Shelf
set_option linter.unusedVariables false
set_option linter.unusedSimpArgs false
set_option maxRecDepth 10000

set_option maxHeartbeats 1000000 in
theorem quickest_ok (n : Nat) (hn : n < 50) (w : World) :
    Calls Tryz.prog 78 #[.iface 79 (.int .i64 50), .int .i64 (n : Int)] w fun e w' => e = .returned (.func (.method "reckoner/fast.school") #[.iface 79 (.int .i64 50)] #[]) ∧ w = w' := by
  have hni : (n : Int) < 50 := by omega
  go_enter Tryz.func78, Tryz.ntmps78
  go_wp2_with (fail)
  go_ret
  exact ⟨rfl, rfl⟩
theorem school_in (x a b : Value) (w : World) : (invoke (.fn (.method "reckoner/fast.school") #[.iface 79 x]) #[.iface 79 x, a, b]).run Tryz.prog w = .ok (.enter 69 #[x, a, b]) w := by kernel_rfl
set_option maxHeartbeats 1000000 in
theorem below_ok (A : Option Addr) (n c m : Nat) (xs : List Nat) (w : World) (hn : n ≤ 100000) (hm : m ≤ 4096) (hx : Sl w A n c xs) :
    Calls Tryz.prog 44 #[.slice A n c, .int .i64 (m : Int)] w fun e w' => ∃ k, k ≤ n ∧ k ≤ m ∧ e = .returned (.slice A k c) ∧ V (xs.take k) = V xs % B64 ^ m ∧ Cn (xs.take k) ∧ w = w' := by
  obtain ⟨r, hr⟩ : ∃ r, r = min m n := ⟨_, rfl⟩
  have hri : min (m : Int) (n : Int) = (r : Int) := by omega
  have hrn : r ≤ n ∧ r ≤ m := by omega
  have Hx := Lib.hid (And.intro hx (And.intro hr (hx.tk hrn.1)))
  have hrc : ¬ (c : Int) < (r : Int) := by have := hx.2.1; omega
  have hrc2 : (r : Int) ≤ (c : Int) := by omega
  clear hx hr
  go_enter Tryz.func44, Tryz.ntmps44
  go_wp2_with (fail)
  refine (fused_ok A r c (xs.take r) w (by omega) Hx.out.2.2).mono ?_
  rintro e w1 ⟨k, rfl, hk, hU, rfl⟩
  have HU := Lib.hid hU.out
  clear hU
  go_wp2_with (fail)
  go_ret
  have ht : (xs.take r).take k = xs.take k := by rw [List.take_take, Nat.min_eq_left hk]
  have h1 := HU.out.1
  have h2 := HU.out.2
  rw [ht] at h1 h2
  refine ⟨k, by omega, by omega, rfl, ?_, h2, rfl⟩
  rw [h1]
  have hw := Hx.out.1.2.2.2.1
  rcases Nat.le_total m n with hmn | hmn
  · rw [show r = m by have := Hx.out.2.1; omega, V_low hw]
  · have hl := V_lt _ hw
    rw [Hx.out.1.1] at hl
    rw [show r = n by have := Hx.out.2.1; omega, Hx.out.1.take_all, Nat.mod_eq_of_lt (Nat.lt_of_lt_of_le hl (Nat.pow_le_pow_right B64_pos hmn))]
set_option maxHeartbeats 2000000 in
theorem quick_ok (A A' : Option Addr) (n n' c c' : Nat) (xs ys : List Nat) (w : World) (hn : n < 50) (hn' : n' < 50) (hx : Sl w A n c xs) (hy : Sl w A' n' c' ys) :
    Calls Tryz.prog 42 #[.slice A n c, .slice A' n' c'] w fun e w' => Rv w w' e (V xs * V ys) := by
  have Hx := Lib.hid (And.intro hx hy)
  have HL := Lib.hid (show V xs * V ys < Big from ((Room.lt (least := 65) hx hy (by omega)).2 (by omega)))
  clear hx hy
  by_cases hlt : n < n'
  · have hli : (n : Int) < (n' : Int) := by omega
    have hni : (n : Int) < 50 := by omega
    go_enter Tryz.func42, Tryz.ntmps42
    go_wp2_with (fail)
    have hbX : Below w.heap.size w (w.alloc (.cells #[.slice A n c] 23)).drew := below_dr ((Below.refl _ _).alloc (Nat.le_refl _) _)
    have hcell : (w.alloc (.cells #[.slice A n c] 23)).drew.cell? ⟨w.heap.size, 0, none⟩ = some (.slice A n c) := by simp
    go_region_held3 (fun w' => w'.cell? ⟨w.heap.size, 0, none⟩ = some (.slice A n c)) (first | exact hcell | exact hc2 | go_keep)
      (first
        | (go_at_call 78; refine (quickest_ok _ (by omega) _).mono ?_; rintro e w1 ⟨rfl, rfl⟩)
        | (go_at_call 69; refine (school_ok 50 _ _ _ _ _ _ ys xs _ (by omega) (by omega) (Hx.out.2.below hbX) (Hx.out.1.below hbX) (by rw [Nat.mul_comm]; exact HL.out)).mono ?_; rintro e w2 ⟨v, rfl, hN, hb⟩; have hc2 := (hb.cell (p := ⟨w.heap.size, 0, none⟩) (World.block_lt_of_cell? _ _ hcell)).trans hcell; have H := Lib.hid (And.intro hN (And.intro hb hbX)); clear hN hb))
    all_goals
      go_wp2_with (fail)
      go_ret
      rw [Nat.mul_comm]
      exact ⟨v, rfl, H.out.1.base H.out.2.2.size, H.out.2.2.trans (H.out.2.1.mono H.out.2.2.size)⟩
  · have hli : ¬ (n : Int) < (n' : Int) := by omega
    have hni : (n' : Int) < 50 := by omega
    go_enter Tryz.func42, Tryz.ntmps42
    go_wp2_with (fail)
    have hbX : Below w.heap.size w (w.alloc (.cells #[.slice A' n' c'] 23)).drew := below_dr ((Below.refl _ _).alloc (Nat.le_refl _) _)
    have hcell : (w.alloc (.cells #[.slice A' n' c'] 23)).drew.cell? ⟨w.heap.size, 0, none⟩ = some (.slice A' n' c') := by simp
    go_region_held3 (fun w' => w'.cell? ⟨w.heap.size, 0, none⟩ = some (.slice A' n' c')) (first | exact hcell | exact hc2 | go_keep)
      (first
        | (go_at_call 78; refine (quickest_ok _ (by omega) _).mono ?_; rintro e w1 ⟨rfl, rfl⟩)
        | (go_at_call 69; refine (school_ok 50 _ _ _ _ _ _ xs ys _ (by omega) (by omega) (Hx.out.1.below hbX) (Hx.out.2.below hbX) HL.out).mono ?_; rintro e w2 ⟨v, rfl, hN, hb⟩; have hc2 := (hb.cell (p := ⟨w.heap.size, 0, none⟩) (World.block_lt_of_cell? _ _ hcell)).trans hcell; have H := Lib.hid (And.intro hN (And.intro hb hbX)); clear hN hb))
    all_goals
      go_wp2_with (fail)
      go_ret
      exact ⟨v, rfl, H.out.1.base H.out.2.2.size, H.out.2.2.trans (H.out.2.1.mono H.out.2.2.size)⟩
end Go.Proofs.YthpgdpkemnhneaaGreatDoor
