/- The contract of reckonerref01.Same: two rows are the same. -/
import Derived.Test.YtekikolhnfofeaaVal
namespace Go.Proofs.Ytekikolhnfofeaa
open Go.RowKit
set_option linter.unusedVariables false

theorem take_eq_succ {xs ys : List Nat} {k x y : Nat} (hx : xs[k]? = some x) (hy : ys[k]? = some y) (h : xs.take k = ys.take k) : xs.take (k + 1) = ys.take (k + 1) ↔ x = y := by
  rw [List.take_add_one, List.take_add_one, h, hx, hy]
  simp

set_option maxHeartbeats 400000 in
theorem Same_any (A A' : Option Addr) (n n' c c' : Nat) (xs ys : List Nat) (w : World) (hx : Sl w A n c xs) (hy : Sl w A' n' c' ys) (hn : n ≤ 4611686018427387904) :
    Calls Try.prog 61 #[.slice A n c, .slice A' n' c'] w fun e w' => e = .returned (.bool (decide (xs = ys))) ∧ ∃ m, w' = w.drewN m := by
  by_cases hne : n = n'
  · subst hne
    have Hx := Lib.hid hx
    have Hy := Lib.hid hy
    clear hx hy
    go_enter Try.func61, Try.ntmps61
    go_wp2
    go_loopw [5] (fun i wr => ∃ k : Nat, k ≤ n ∧ i = .int .i64 k ∧ Hid (xs.take k = ys.take k) ∧ ∃ m, wr = w.drewN m) (fun i _ => n - (intOf i).toNat)
    case atStart => exact ⟨0, Nat.zero_le _, rfl, by simp [Hid], 0, rfl⟩
    case round =>
      obtain ⟨k, hk, rfl, heq, m, rfl⟩ := hrel
      by_cases hlt : k < n
      · obtain ⟨x, hgx, wx, _⟩ := Hx.out.get hlt
        obtain ⟨y, hgy, wy, _⟩ := Hy.out.get hlt
        obtain ⟨b, o, rfl, _, hcx⟩ := Hx.out.2.2.2.2.at (uvs_get hgx)
        obtain ⟨b', o', rfl, _, hcy⟩ := Hy.out.2.2.2.2.at (uvs_get hgy)
        have Ht := Lib.hid (take_eq_succ hgx hgy heq.out)
        have hki : (k : Int) < n := by omega
        by_cases hxy : x = y
        · subst hxy
          have Hs := Lib.hid (Ht.out.2 rfl)
          clear hgx hgy
          go_wp2
          go_quiet (fail)
          go_wp2
          go_roundw
          case rel => exact ⟨k + 1, by omega, by go_num, Hs.out, _, rfl⟩
          case measure => simp [intOf]; omega
        · have hb : ((x : Int) != (y : Int)) = true := by rw [bne_iff_ne]; omega
          have Hd := Lib.hid (show decide (xs = ys) = false by
            refine decide_eq_false ?_
            rintro rfl
            exact hxy (Ht.out.1 rfl))
          clear hgx hgy hxy
          go_wp2
          go_quiet (fail)
          go_wp2
          go_ret
          rw [Hd.out]
          exact ⟨rfl, _, World.drewN_drewN _ _ _⟩
      · have hkn : k = n := by omega
        have Hd := Lib.hid (show decide (xs = ys) = true by
          refine decide_eq_true ?_
          have h1 := heq.out
          rw [hkn, Hx.out.take_all, Hy.out.take_all] at h1
          exact h1)
        clear hkn
        go_wp2
        go_ret
        rw [Hd.out]
        exact ⟨rfl, _, rfl⟩
  · have Hd := Lib.hid (show decide (xs = ys) = false by
      refine decide_eq_false ?_
      rintro rfl
      exact hne (hx.1.symm.trans hy.1))
    have hb : ((n : Int) != (n' : Int)) = true := by rw [bne_iff_ne]; omega
    clear hx hy hne
    go_enter Try.func61, Try.ntmps61
    go_wp2
    go_ret
    rw [Hd.out]
    exact ⟨rfl, 0, rfl⟩

end Go.Proofs.Ytekikolhnfofeaa
