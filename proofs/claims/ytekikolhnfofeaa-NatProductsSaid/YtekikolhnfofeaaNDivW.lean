/- The contract of nat.DivWord. -/
import Derived.Test.YtekikolhnfofeaaNSub
import Derived.Test.YtekikolhnfofeaaDivWord
namespace Go.Proofs.Ytekikolhnfofeaa
open Go.RowKit Go.Shelf
set_option linter.unusedVariables false
set_option maxRecDepth 10000

set_option maxHeartbeats 400000 in
theorem NDivWord_ok (A : Option Addr) (n c : Nat) (xs : List Nat) (d : Nat) (w : World) (hn : n ≤ 4096) (hx : Sl w A n c xs) (hd : d < B64) (h0 : 0 < d) :
    Calls Try.prog 29 #[.slice A n c, .int .u64 d] w fun e w' => ∃ v, ∃ r : Nat, e = .returned (.tuple #[v, .int .u64 r, .int .i64 0]) ∧ Nt w w' v (V xs / d) ∧ r = V xs % d ∧ Below w.heap.size w w' := by
  have Hx := Lib.hid hx
  clear hx
  go_enter Try.func29, Try.ntmps29
  go_wp2_with (fail)
  refine (DivWord_ok A n c xs d 0 w hn Hx.out hd h0).mono ?_
  rintro e w1 ⟨v, zs, r, rfl, hr, hv, hn1, hb1⟩
  obtain ⟨A1, c1, rfl, hs1⟩ := hn1.sl
  have hq : V zs = V xs / d ∧ r = V xs % d := by
    rw [Nat.zero_mul, Nat.zero_add] at hv
    rw [← hv]
    refine ⟨?_, ?_⟩
    · rw [Nat.mul_comm, Nat.mul_add_div h0, Nat.div_eq_of_lt hr]; rfl
    · rw [Nat.mul_comm, Nat.mul_add_mod, Nat.mod_eq_of_lt hr]
  have H := Lib.hid (And.intro hs1 (And.intro hn1 (And.intro hq hb1)))
  clear hs1 hn1 hq hb1 hv hr
  go_wp2_with (fail)
  refine (used_ok A1 n c1 zs w1 (by omega) H.out.1).mono ?_
  rintro e w2 ⟨k, rfl, hk, hH, rfl⟩
  go_wp2_with (fail)
  go_ret3
  exact ⟨_, r, rfl, ⟨k, zs.take k, H.out.2.1.tk hk, hH.out.2, by rw [hH.out.1]; exact H.out.2.2.1.1⟩, H.out.2.2.1.2, H.out.2.2.2⟩
theorem NDivWord_zero (A : Option Addr) (n c : Nat) (w : World) (hn : n ≤ 4096) :
    Calls Try.prog 29 #[.slice A n c, .int .u64 0] w fun e w' => e = .returned (.tuple #[.slice none 0 0, .int .u64 0, .int .i64 5]) ∧ Below w.heap.size w w' := by
  go_enter Try.func29, Try.ntmps29
  go_wp2_with (fail)
  refine (DivWord_zero A n c 0 w hn).mono ?_
  rintro e w1 ⟨rfl, hb1⟩
  have H := Lib.hid hb1
  clear hb1
  go_wp2_with (fail)
  refine (used_ok none 0 0 [] w1 (by omega) ⟨rfl, Nat.le_refl _, by omega, Ws_nil, Rd.nil⟩).mono ?_
  rintro e w2 ⟨k, rfl, hk, hH, rfl⟩
  obtain rfl : k = 0 := by omega
  go_wp2_with (fail)
  go_ret3
  exact ⟨rfl, H.out⟩
end Go.Proofs.Ytekikolhnfofeaa
