/- The contract of fast.checkInts. -/
import Derived.Test.YtalcikmngglplaaDoorZZm
import Derived.Test.YtalcikmngglplaaDoorP8
namespace Go.Proofs.YtalcikmngglplaaDoor
open Go.RowKit Go.Shelf
set_option linter.unusedVariables false
set_option linter.unusedSimpArgs false
set_option maxRecDepth 10000

theorem anyZ_succ (p : Sn → Bool) (ls : List Sn) (k : Nat) (h : k < ls.length) : (ls.take (k + 1)).any p = ((ls.take k).any p || p ls[k]) := by
  rw [List.take_succ_eq_append_getElem h, List.any_append]; simp
theorem anyZ_get (p : Sn → Bool) (ls : List Sn) (k : Nat) (h : k < ls.length) (hp : p ls[k] = true) : ls.any p = true := List.any_eq_true.2 ⟨_, List.getElem_mem h, hp⟩
set_option maxHeartbeats 1000000 in
theorem checkInts_ok (al : List Sn) (A : Option Addr) (m c : Nat) (w : World) (hm : m ≤ 100000) (hx : Zl w A m c al) :
    Calls Tryd.prog 80 #[.slice A m c] w fun e w' => e = .returned (.int .i64 (chkZ al)) ∧ Below w.heap.size w w' := by
  have Hx := Lib.hid hx
  clear hx
  go_enter Tryd.func80, Tryd.ntmps80
  go_wp2
  go_loopw [4, 5, 8] (fun _ _ kv wr => ∃ k : Nat, k ≤ m ∧ kv = .int .i64 k ∧ Hid ((al.take k).any (fun s => decide (4096 < s.n)) = false ∧ Below w.heap.size w wr)) (fun _ _ kv _ => m - (intOf kv).toNat)
  case atStart => exact ⟨0, Nat.zero_le _, rfl, rfl, Below.refl _ _⟩
  case round =>
    obtain ⟨k, hk, rfl, H⟩ := hrel
    by_cases hlt : k < m
    · have hkl : k < al.length := by rw [Hx.out.1]; exact hlt
      obtain ⟨b, o, rfl, _, c0, c1⟩ := (Hx.out.below H.out.2).at (List.getElem?_eq_getElem hkl)
      have Hs := Lib.hid (anyZ_succ (fun s => decide (4096 < s.n)) al k hkl)
      have Hy := Lib.hid (anyZ_get (fun s => decide (4096 < s.n)) al k hkl)
      generalize al[k] = a at *
      obtain ⟨ag, aA, an, ac, axs⟩ := a
      simp only at c0 c1
      have hki : (k : Int) < m := by omega
      clear hkl
      have hbA : Below wr.heap.size wr (wr.alloc (.cells #[.bool ag, .slice aA an ac] 76)) := (Below.refl _ _).alloc (Nat.le_refl _) _
      have HbA := Lib.hid hbA
      clear hbA
      by_cases hz : 4096 < an
      · have HC := Lib.hid (chkS_one_big (A := aA) (c := ac) hz)
        have HR := Lib.hid (show chkZ al = 2 by rw [chkZ, if_pos (Hy.out (by simpa using hz))])
        clear hz
        go_wp2_with (fail)
        refine (fcheck_one aA an ac _ _ _ (by simp)).mono ?_
        rintro e w3 ⟨rfl, hb3⟩
        rw [HC.out]
        have HB := Lib.hid (H.out.2.trans ((HbA.out.trans (hb3.mono HbA.out.size)).mono H.out.2.size))
        clear hb3
        go_wp2_with (fail)
        go_ret
        rw [HR.out]
        exact ⟨rfl, HB.out⟩
      · have HC := Lib.hid (chkS_one (A := aA) (c := ac) (n := an) (by omega))
        have HN := Lib.hid (show (al.take (k + 1)).any (fun s => decide (4096 < s.n)) = false by rw [Hs.out, H.out.1]; simpa using hz)
        clear hz
        go_wp2_with (fail)
        refine (fcheck_one aA an ac _ _ _ (by simp)).mono ?_
        rintro e w3 ⟨rfl, hb3⟩
        rw [HC.out]
        have HB := Lib.hid (H.out.2.trans ((HbA.out.trans (hb3.mono HbA.out.size)).mono H.out.2.size))
        clear hb3 H
        go_wp2_with (fail)
        go_roundw
        case rel => exact ⟨k + 1, by omega, by go_num, HN.out, HB.out⟩
        case measure => simp [intOf]; omega
    · have hki : ¬ (k : Int) < m := by omega
      have HR := Lib.hid (show chkZ al = 0 by
        have h := H.out.1
        rw [List.take_of_length_le (by rw [Hx.out.1]; omega)] at h
        rw [chkZ, h]; rfl)
      go_wp2_with (fail)
      go_ret
      rw [HR.out]
      exact ⟨rfl, H.out.2⟩
end Go.Proofs.YtalcikmngglplaaDoor
