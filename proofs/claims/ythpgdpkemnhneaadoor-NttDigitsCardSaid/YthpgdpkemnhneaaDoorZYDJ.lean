/- The contracts of ntt.Digits and ntt.Join. -/
import Derived.Test.YthpgdpkemnhneaaDoorZYLaw
namespace Go.Proofs.YthpgdpkemnhneaaDoor
open Go.RowKit Go.Shelf
set_option linter.unusedVariables false
set_option linter.unusedSimpArgs false
set_option maxRecDepth 10000

open Classical in
theorem size_yes {sz : Nat} (h : sz = 8 ∨ sz = 16 ∨ sz = 32) (w : World) : Calls Tryd.prog 53 #[.int .i64 sz] w fun e w' => e = .returned (.bool true) ∧ w = w' := by
  have := isDigitSize_ok sz w
  rwa [decide_eq_true (show DgS (sz : Int) by unfold DgS; omega)] at this
open Classical in
theorem size_no {s : Int} (h : ¬ DgS s) (w : World) : Calls Tryd.prog 53 #[.int .i64 s] w fun e w' => e = .returned (.bool false) ∧ w = w' := by
  have := isDigitSize_ok s w
  rwa [decide_eq_false h] at this
set_option maxHeartbeats 400000 in
theorem YDigits_ok (A : Option Addr) (n c sz : Nat) (xs : List Nat) (w : World) (hsz : sz = 8 ∨ sz = 16 ∨ sz = 32) (hn : n ≤ 4096) (hx : Sl w A n c xs) :
    Calls Tryd.prog 26 #[.slice A n c, .int .i64 sz] w fun e w' => ∃ L, BL (V xs) L ∧ YR w w' e ((L + sz - 1) / sz) (dgt sz (V xs)) := by
  have hcs := fun t => checkSizes_one A n c t w.heap.size w rfl
  rw [chkS_one hn] at hcs
  have HC := Lib.hid (And.intro hcs (And.intro hx hsz))
  clear hcs hx hsz
  go_enter Tryd.func26, Tryd.ntmps26
  go_wp2_with (fail)
  refine (HC.out.1 _).mono ?_
  rintro e w1 ⟨rfl, hb1⟩
  have H1 := Lib.hid (And.intro hb1 (HC.out.2.1.below hb1))
  clear hb1
  go_wp2_with (fail)
  refine (size_yes HC.out.2.2 _).mono ?_
  rintro e w2 ⟨rfl, rfl⟩
  go_wp2_with (fail)
  refine (digitsU_ok A n c sz xs w1 HC.out.2.2 hn H1.out.2).mono ?_
  rintro e w3 ⟨L, hL, hR⟩
  obtain ⟨m, hm⟩ : ∃ m, m = (L + sz - 1) / sz := ⟨_, rfl⟩
  rw [← hm] at hR
  obtain ⟨g, c3, rfl, h3⟩ := hR
  have H3 := Lib.hid (And.intro hL (And.intro hm h3))
  clear hL hm h3
  go_wp2_with (fail)
  go_ret2
  refine ⟨L, H3.out.1, g, c3, ?_, ?_⟩
  · rw [← H3.out.2.1]; rfl
  · obtain ⟨h4, h5, h6, h7, h8⟩ := H3.out.2.2
    rw [← H3.out.2.1]
    exact ⟨h4, h5, h6, Nat.le_trans H1.out.1.size h7, H1.out.1.trans (h8.mono H1.out.1.size)⟩
set_option maxHeartbeats 400000 in
theorem YDigits_arg (A : Option Addr) (n c : Nat) (s : Int) (w : World) (hn : n ≤ 4096) (hs : ¬ DgS s) :
    Calls Tryd.prog 26 #[.slice A n c, .int .i64 s] w fun e w' => YE w w' e := by
  have hcs := fun t => checkSizes_one A n c t w.heap.size w rfl
  rw [chkS_one hn] at hcs
  have HC := Lib.hid (And.intro hcs hs)
  clear hcs hs
  go_enter Tryd.func26, Tryd.ntmps26
  go_wp2_with (fail)
  refine (HC.out.1 _).mono ?_
  rintro e w1 ⟨rfl, hb1⟩
  have H1 := Lib.hid hb1
  clear hb1
  go_wp2_with (fail)
  refine (size_no HC.out.2 _).mono ?_
  rintro e w2 ⟨rfl, rfl⟩
  go_wp2_with (fail)
  go_ret2
  exact ⟨rfl, H1.out⟩
set_option maxHeartbeats 400000 in
theorem YJoin_ok (A : Option Addr) (m c sz : Nat) (xs : List Nat) (w : World) (hsz : sz = 8 ∨ sz = 16 ∨ sz = 32) (hm : m ≤ 262144) (hx : Sl w A m c xs) :
    Calls Tryd.prog 27 #[.slice A m c, .int .i64 sz] w fun e w' => Rs w w' e (dsum sz m (yx xs)) := by
  have hmi : ¬ (262144 : Int) < (m : Int) := by omega
  have HC := Lib.hid (And.intro hsz hx)
  clear hsz hx
  go_enter Tryd.func27, Tryd.ntmps27
  go_wp2_with (fail)
  refine (size_yes HC.out.1 _).mono ?_
  rintro e w1 ⟨rfl, rfl⟩
  go_wp2_with (fail)
  refine (numberU_ok A m c sz xs _ HC.out.1 hm HC.out.2).mono ?_
  rintro e w2 hRs
  have HR := Lib.hid hRs
  obtain ⟨v, c9, rfl⟩ : ∃ v c9, e = .returned (.tuple #[v, .int .i64 c9]) := by
    obtain ⟨h9 | h9, -⟩ := hRs
    · obtain ⟨v, rfl, -⟩ := h9; exact ⟨v, 0, rfl⟩
    · exact ⟨_, 2, h9.1⟩
  clear hRs
  go_wp2_with (fail)
  go_ret2
  exact HR.out
set_option maxHeartbeats 400000 in
theorem YJoin_arg (A : Option Addr) (m c : Nat) (s : Int) (w : World) (hs : ¬ DgS s) :
    Calls Tryd.prog 27 #[.slice A m c, .int .i64 s] w fun e w' => YE w w' e := by
  have HC := Lib.hid hs
  clear hs
  go_enter Tryd.func27, Tryd.ntmps27
  go_wp2_with (fail)
  refine (size_no HC.out _).mono ?_
  rintro e w1 ⟨rfl, rfl⟩
  go_wp2_with (fail)
  go_ret2
  exact ⟨rfl, Below.refl _ _⟩
set_option maxHeartbeats 400000 in
theorem YJoin_big (A : Option Addr) (m c sz : Nat) (w : World) (hsz : sz = 8 ∨ sz = 16 ∨ sz = 32) (hm : 262144 < m) :
    Calls Tryd.prog 27 #[.slice A m c, .int .i64 sz] w fun e w' => YE w w' e := by
  have hmi : (262144 : Int) < (m : Int) := by omega
  have HC := Lib.hid hsz
  clear hsz
  go_enter Tryd.func27, Tryd.ntmps27
  go_wp2_with (fail)
  refine (size_yes HC.out _).mono ?_
  rintro e w1 ⟨rfl, rfl⟩
  go_wp2_with (fail)
  go_ret2
  exact ⟨rfl, Below.refl _ _⟩
end Go.Proofs.YthpgdpkemnhneaaDoor
