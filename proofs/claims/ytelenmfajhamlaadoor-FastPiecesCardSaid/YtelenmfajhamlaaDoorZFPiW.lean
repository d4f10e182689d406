/- The walk of the law FastPieces. -/
import Derived.Test.YtelenmfajhamlaaDoorZFAwake
import Derived.Test.YtelenmfajhamlaaDoorZRSplit
import Derived.Test.YtelenmfajhamlaaDoorZLawF
import Derived.OpenShut
namespace Go.Proofs.YtelenmfajhamlaaDoor
open Go.RowKit Go.Shelf
set_option linter.unusedVariables false
set_option linter.unusedSimpArgs false
set_option maxRecDepth 10000

set_option maxHeartbeats 1000000 in
theorem Split_out (A : Option Addr) (L c : Nat) (n : Int) (w : World) (hL : L ≤ 4096) (hn : n < 1 ∨ 1000 < n) :
    Calls Tryd.prog 12 #[.slice A L c, .int .i64 n] w fun e w' => e = .returned (.tuple #[.slice none 0 0, .int .i64 1]) ∧ Below w.heap.size w w' := by
  have HC := Lib.hid (chkS_one (A := A) (c := c) hL)
  have Ho := Lib.hid (show decide (n < 1 ∨ 1000 < n) = true from decide_eq_true hn)
  go_enter Tryd.func12, Tryd.ntmps12
  go_wp2_with (fail)
  refine (fcheck_one A L c _ _ _ rfl).mono ?_
  rintro e w1 ⟨rfl, hb1⟩
  rw [HC.out]
  have H1 := Lib.hid hb1
  clear hb1
  go_wp2_with (fail)
  refine (outOfPiece_ok _ _).mono ?_
  rintro e w2 ⟨rfl, rfl⟩
  rw [Ho.out]
  go_wp2_with (fail)
  go_ret2
  exact ⟨rfl, H1.out⟩
/-- the pieces of both ways, side by side -/
theorem pieces_pair {w w1 w2 : World} {X N n : Nat} {xs : List Nat} {ls ls' : List (Option Addr × Nat × Nat)} (hw : Ws xs) (hX : V xs = X) (hn : n ≤ 4096) (h1 : ls.length = N) (h2 : ls'.length = N)
    (h3 : NsL w w1 ls (fun i => V (pw xs n i))) (hb : Below w1.heap.size w1 w2) (h4 : NsL w1 w2 ls' (fun i => X / B64 ^ (i * n) % B64 ^ n)) : Pair w2 ls ls' := by
  refine ⟨h1.trans h2.symm, fun i s s' e1 e2 => ?_⟩
  obtain ⟨zs, f1, f2, f3⟩ := h3 i s e1
  obtain ⟨zs', g1, g2, g3⟩ := h4 i s' e2
  have s1 := (f1.sc f2).1
  have s2 := (g1.sc g2).1
  replace f3 : V zs = X / B64 ^ (i * n) % B64 ^ n := by rw [f3]; show V (pw xs n i) = _; rw [pw_val hw, hX]
  replace g3 : V zs' = X / B64 ^ (i * n) % B64 ^ n := g3
  have hv : V zs = V zs' := by rw [f3, g3]
  have l1 := (Cn_len s1.2.2.2.1 f2 n).2 (by rw [f3]; exact Nat.mod_lt _ (Nat.pow_pos B64_pos))
  have l2 := (Cn_len s2.2.2.2.1 g2 n).2 (by rw [g3]; exact Nat.mod_lt _ (Nat.pow_pos B64_pos))
  rw [s1.1] at l1
  rw [s2.1] at l2
  exact ⟨zs, zs', s1.below hb, f2, by omega, s2, by omega, hv⟩
end Go.Proofs.YtelenmfajhamlaaDoor
namespace Go.Proofs.YtelenmfajhamlaaDoor.fastPieces
open Go.ChangeShapes Go.RowKit
set_option linter.unusedVariables false

set_option maxRecDepth 100000 in
set_option maxHeartbeats 8000000 in
theorem walk (w : World) (a0 : Option Addr) (n0 c0 : Nat) (xs : List Nat) (hx : Sl w a0 n0 c0 xs) (a1 : Int) (w1 : (Lit.int .i64 a1).wf = true) (hT : TabF w) :
    Calls Tryd.prog 3 #[.slice a0 n0 c0, .int .i64 a1] w fun e w' => e = .returned (.bool true) ∧ Below w.heap.size w w' := by
  have Hx := Lib.hid (And.intro hx hT)
  clear hx w1 hT
  go_enter Tryd.func3, Tryd.ntmps3
  go_wp2_with (fail)
  refine (few3_row _ _ _ 40 xs _ Hx.out.1 (by omega)).mono ?_
  rintro e w3 ⟨A1, k1, d1, us, rfl, hk1, hs1, -, -, hb1⟩
  have H1 : Hid (Row1 w w3 A1 k1 d1 us) := ⟨hs1, Hx.out.2.below hb1, hb1⟩
  clear hs1 hb1
  go_wp2_with (fail)
  go_loopw [1, 6, 7, 8] (fun bv kv _ _ wr => ∃ (k : Nat) (b : Int), k ≤ 2 ∧ kv = .int .i64 k ∧ bv = .int .i64 b ∧ Hid (Row1 w wr A1 k1 d1 us)) (fun _ kv _ _ _ => 2 - (intOf kv).toNat)
  case atStart => exact ⟨0, a1, by omega, rfl, rfl, H1⟩
  case round =>
    clear H1
    obtain ⟨k, b, hk, rfl, rfl, H⟩ := hrel
    by_cases hlt : k < 2
    · have hki : (k : Int) < 2 := by omega
      obtain ⟨s, hs⟩ : ∃ s, (IntKind.u64.wrap b % 7).toNat = s := ⟨_, rfl⟩
      have hw := IntKind.wrap_u64 b
      have hs6 : s ≤ 6 := by omega
      have hs1 : IntKind.u64.wrap b % 7 = (s : Int) := by omega
      have hs2 : (IntKind.u64.wrap b).tmod 7 = (s : Int) := by rw [Int.tmod_eq_emod_of_nonneg (by rw [hw]; omega)]; exact hs1
      clear hs hw
      by_cases h1 : b < 1
      · go_wp2_with (fail)
        refine (Split_out _ _ _ b _ (by omega) (Or.inl h1)).mono ?_
        rintro e w4 ⟨rfl, hb4⟩
        have H4 := Lib.hid (H.out.keep hb4)
        clear hb4
        go_wp2_with (fail)
        refine ⟨⟨k + 1, 1 + (s : Int), by omega, by go_num, rfl, H4⟩, ?_⟩
        simp [intOf]; omega
      by_cases h2 : 1000 < b
      · go_wp2_with (fail)
        refine (Split_out _ _ _ b _ (by omega) (Or.inr h2)).mono ?_
        rintro e w4 ⟨rfl, hb4⟩
        have H4 := Lib.hid (H.out.keep hb4)
        clear hb4
        go_wp2_with (fail)
        refine ⟨⟨k + 1, 1 + (s : Int), by omega, by go_num, rfl, H4⟩, ?_⟩
        simp [intOf]; omega
      obtain ⟨m, rfl⟩ := Int.eq_ofNat_of_zero_le (show 0 ≤ b by omega)
      have hm1 : 1 ≤ m := by omega
      have hm2 : m ≤ 1000 := by omega
      have hm7 : (m : Int) % 7 = (s : Int) := by have hw := IntKind.wrap_u64 (m : Int); omega
      go_wp2_with (fail)
      refine (Split_ok A1 k1 d1 m us _ (by omega) hm1 hm2 H.out.1).mono ?_
      rintro e w4 ⟨q, hq, hqv, hqc, Ar, cr, ls, hl, rfl, ho, hns, hb4⟩
      have H4 := Lib.hid (H.out.keep hb4)
      have htl : (us.take q).length = q := by rw [List.length_take, H.out.1.1]; omega
      have hwt : Ws (us.take q) := Ws_take H.out.1.2.2.2.1 q
      have hq1 : V us < B64 ^ q := by rw [← hqv]; exact (Cn_len hwt hqc q).1 (by omega)
      have hq2 : 0 < q → B64 ^ (q - 1) ≤ V us := fun h0 => by
        rw [← hqv]
        refine Nat.le_of_not_lt fun hh => ?_
        have := (Cn_len hwt hqc (q - 1)).2 hh
        omega
      have HL := Lib.hid (And.intro hl (And.intro ho (And.intro hns (And.intro hqv (And.intro hwt (And.intro hq1 hq2))))))
      clear hl ho hns hqv hwt hq1 hq2 hqc htl hb4
      go_wp2_with (fail)
      refine (RSplit_ok A1 k1 d1 m q us _ (by omega) hm1 hm2 H4.out.1 HL.out.2.2.2.2.2.1 HL.out.2.2.2.2.2.2 (by omega)).mono ?_
      rintro e w5 ⟨Ar', cr', ls', hl', rfl, ho', hns', hb5⟩
      have H5 := Lib.hid (H4.out.keep hb5)
      have hN : (q + m - 1) / m ≤ 100000 := Nat.le_trans (Nat.div_le_self _ _) (by omega)
      have HP := Lib.hid (pieces_pair HL.out.2.2.2.2.1 HL.out.2.2.2.1 (by omega) HL.out.1 hl' HL.out.2.2.1 hb5 hns')
      have HR := Lib.hid (And.intro (((Rd.of_own HL.out.2.1).below hb5).more hb5.size) (Rd.of_own ho'))
      have HLL := Lib.hid hl'
      clear hl' ho' hns' hb5 H4
      go_wp2_with (fail)
      rw [HL.out.1]
      refine (nats_ok ls ls' Ar Ar' _ cr cr' _ HL.out.1 hN HR.out.1 HR.out.2 HP.out).mono ?_
      rintro e w6 ⟨rfl, hb6⟩
      have H6 := Lib.hid (H5.out.keep hb6)
      clear hb6 HP HR HLL HL H5
      go_wp2_with (fail)
      refine ⟨⟨k + 1, 1 + (s : Int), by omega, by go_num, congrArg (Value.int .i64) (by omega), H6⟩, ?_⟩
      simp [intOf]; omega
    · have hki : ¬ (k : Int) < 2 := by omega
      go_wp2_with (fail)
      refine (fawake_any _ H.out.2.1).mono ?_
      rintro e w2 ⟨rfl, hb2⟩
      have HB := Lib.hid (H.out.keep hb2)
      clear hb2
      go_wp2_with (fail)
      go_ret
      exact ⟨rfl, HB.out.2.2⟩
end Go.Proofs.YtelenmfajhamlaaDoor.fastPieces
