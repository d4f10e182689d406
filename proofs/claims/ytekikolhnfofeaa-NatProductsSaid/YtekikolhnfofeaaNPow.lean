/- The contract of nat.Pow. -/
import Derived.Test.YtekikolhnfofeaaNSq
import Derived.Test.YtekikolhnfofeaaNSub
import Derived.Test.YtekikolhnfofeaaBLen
import Derived.WalkMore
namespace Go.Proofs.Ytekikolhnfofeaa
open Go.RowKit Go.Shelf
set_option linter.unusedVariables false
set_option maxRecDepth 10000

theorem pow_le_one (k : Nat) : (0 : Nat) ^ k ≤ 1 := by
  rcases Nat.eq_zero_or_pos k with rfl | h
  · simp
  · rw [Nat.zero_pow h]; omega
theorem Big_one : 1 < Big := Nat.one_lt_pow (by decide) B64_one
theorem bit_i64 (k m : Nat) (hk : k ≤ 1000000) : bits BinOp.and IntKind.i64 ((k : Int) / 2 ^ m) 1 = ((k / 2 ^ m % 2 : Nat) : Int) := by
  have h1 : (k : Int) / 2 ^ m = ((k / 2 ^ m : Nat) : Int) := by simp
  rw [h1]
  have h2 : k / 2 ^ m ≤ 1000000 := Nat.le_trans (Nat.div_le_self _ _) hk
  generalize k / 2 ^ m = x at *
  clear h1
  have h127 : (BitVec.ofInt 64 1).toNat = 2 ^ 1 - 1 := by decide
  have key : (BitVec.ofInt 64 (x : Int) &&& BitVec.ofInt 64 1).toNat = ((x : Int) % ((2 ^ 64 : Nat) : Int)).toNat % 2 ^ 1 := by
    rw [BitVec.toNat_and, BitVec.toNat_ofInt, h127, Nat.and_two_pow_sub_one_eq_mod]
  show IntKind.i64.wrap ((BitVec.ofInt 64 (x : Int) &&& BitVec.ofInt 64 1).toNat : Nat) = ((x % 2 : Nat) : Int)
  rw [key, IntKind.wrap_i64]
  omega

set_option maxHeartbeats 4000000 in
theorem NPow_ok (A : Option Addr) (n c : Nat) (xs : List Nat) (k : Nat) (w : World) (hn : n ≤ 4096) (hk : k ≤ 1000000) (hx : Sl w A n c xs) :
    Calls Try.prog 25 #[.slice A n c, .int .i64 k] w fun e w' => Rs w w' e (V xs ^ k) := by
  have Hx := Lib.hid hx
  have Hk := Lib.hid (chkS_one (A := A) (c := c) hn)
  obtain ⟨x, hxv⟩ : ∃ x, V xs = x := ⟨_, rfl⟩
  have HX := Lib.hid hxv
  rw [hxv]
  clear hx hxv
  have hk0 : ¬ (k : Int) < 0 := by omega
  have hk1 : ¬ (1000000 : Int) < (k : Int) := by omega
  have hkw : IntKind.u64.wrap (k : Int) = (k : Int) := by rw [IntKind.wrap_u64]; omega
  have hkB : k < B64 := by have : B64 = 18446744073709551616 := rfl; omega
  obtain ⟨hL1, _, hL2⟩ := bl_spec k hkB
  obtain ⟨L, hL⟩ : ∃ L, bl k = L := ⟨_, rfl⟩
  have HLn := Lib.hid (bitsLen_ok k hkB)
  rw [hL] at hL1 hL2 HLn
  have HK := Lib.hid (And.intro hkB hL1)
  clear hkB hL hL1
  go_enter Try.func25, Try.ntmps25
  go_wp2_with (fail)
  go_step3
  go_wp2_with (fail)
  refine (checkSizes_one A _ c _ _ w rfl).mono ?_
  rintro e w1 ⟨rfl, hb1⟩
  rw [Hk.out]
  have H1 := Lib.hid (And.intro (Hx.out.below hb1) hb1)
  clear hb1
  go_wp2_with (fail)
  refine (NFromWord_ok 1 w1 (by decide)).mono ?_
  rintro e w2 hR
  obtain ⟨v, rfl, h2, hb2⟩ := hR.from H1.out.2
  obtain ⟨A2, n2, c2, zs, rfl, hs2, hcz, hvz, hnt⟩ := h2.sl
  have H2 : Hid (Nt w w2 (.slice A2 n2 c2) (x ^ (k / 2 ^ L)) ∧ x ^ (k / 2 ^ L) < Big ∧ Below w.heap.size w w2) := by
    have e : x ^ (k / 2 ^ L) = 1 := by rw [Nat.div_eq_of_lt HK.out.2]; rfl
    rw [e]
    exact ⟨⟨n2, zs, hnt, hcz, hvz⟩, Big_one, hb2⟩
  clear hR h2 hs2 hcz hvz hb2 hnt
  go_wp2_with (fail)
  go_step3
  go_wp2_with (fail)
  refine (HLn.out w2).mono ?_
  rintro e w3 ⟨rfl, rfl⟩
  go_wp2_with (fail)
  go_loopw [7, 8, 9] (fun pv ev iv wr => ∃ (j : Nat) (i : Int) (A n c : _), j ≤ L ∧ iv = .int .i64 i ∧ i + 1 = j ∧ ev = .int .i64 0 ∧ pv = .slice A n c ∧ Hid (Nt w wr (.slice A n c) (x ^ (k / 2 ^ j)) ∧ x ^ (k / 2 ^ j) < Big ∧ Below w.heap.size w wr)) (fun _ _ iv _ => (intOf iv + 1).toNat)
  case atStart => exact ⟨L, _, A2, n2, c2, Nat.le_refl _, rfl, by omega, rfl, rfl, H2⟩
  case round =>
    clear H2
    obtain ⟨j, i, A3, n3, c3, hj, rfl, hi, rfl, rfl, hH⟩ := hrel
    rcases Nat.eq_zero_or_pos j with rfl | hjp
    · have hneg : i < 0 := by omega
      have hfin := hH.out
      rw [Nat.pow_zero, Nat.div_one] at hfin
      have HF := Lib.hid hfin
      clear hfin hH hi
      go_wp2_with (fail)
      dsimp only [Exit.noGoto]
      go_ret2
      exact ⟨.inl ⟨_, rfl, HF.out.1, HF.out.2.1⟩, HF.out.2.2⟩
    · obtain ⟨m, rfl⟩ : ∃ m, j = m + 1 := ⟨j - 1, by omega⟩
      obtain rfl : i = (m : Int) := by omega
      clear hi
      obtain ⟨A4, n4, c4, zs, he, hs4, hcz, hvz, hnt⟩ := hH.out.1.sl
      injection he with he1 he2 he3
      subst he1 he2 he3
      have hn4 : n3 ≤ 4096 := Nt.size hs4.2.2.2.1 hcz hs4.1 (by rw [hvz]; exact hH.out.2.1)
      have Hs4 := Lib.hid (And.intro hs4 hvz)
      clear hs4 hcz hvz hnt
      have hmi : (0 : Int) ≤ (m : Int) := by omega
      go_wp2_with (fail)
      refine (NSquare_ok A3 n3 c3 zs wr hn4 Hs4.out.1).mono ?_
      rintro e w4 hR
      rw [Hs4.out.2] at hR
      obtain ⟨hR4, hb4⟩ := hR.from hH.out.2.2
      clear hR
      have hhalf := pow_half x k m
      rcases hR4 with ⟨v, rfl, h5, h6⟩ | ⟨rfl, h5⟩
      · obtain ⟨A5, n5, c5, zs5, rfl, hs5, hcz5, hvz5, hnt5⟩ := h5.sl
        have hbit := bit_i64 k m hk
        rcases Nat.mod_two_eq_zero_or_one (k / 2 ^ m) with hz | hz
        · rw [hz] at hbit hhalf
          rw [if_neg (by decide), Nat.mul_one] at hhalf
          have HN : Hid (Nt w w4 (.slice A5 n5 c5) (x ^ (k / 2 ^ m)) ∧ x ^ (k / 2 ^ m) < Big ∧ Below w.heap.size w w4) := by rw [hhalf]; exact ⟨h5, h6, hb4⟩
          clear hhalf h5 h6 hs5 hcz5 hvz5 hnt5 hb4 hH Hs4 hz
          go_wp2_with (fail)
          go_roundw
          case rel => exact ⟨m, (m : Int) - 1, A5, n5, c5, by omega, rfl, by omega, rfl, rfl, HN⟩
          case measure => simp [intOf]
        · rw [hz] at hbit hhalf
          rw [if_pos rfl] at hhalf
          have hn5 : n5 ≤ 4096 := Nt.size hs5.2.2.2.1 hcz5 hs5.1 (by rw [hvz5]; exact h6)
          have H5 := Lib.hid (And.intro hs5 (And.intro hvz5 (And.intro hb4 hhalf)))
          clear hhalf h5 h6 hs5 hcz5 hvz5 hnt5 hb4 hH Hs4 hz
          go_wp2_with (fail)
          refine (NMul_ok A5 A n5 n c5 c zs5 xs w4 hn5 hn H5.out.1 (Hx.out.below H5.out.2.2.1)).mono ?_
          rintro e w5 hR
          rw [H5.out.2.1, HX.out, ← H5.out.2.2.2] at hR
          obtain ⟨hR6, hb6⟩ := hR.from H5.out.2.2.1
          clear hR
          rcases hR6 with ⟨v, rfl, h7, h8⟩ | ⟨rfl, h7⟩
          · obtain ⟨A6, n6, c6, zs6, rfl, _⟩ := h7.sl
            have HN : Hid (Nt w w5 (.slice A6 n6 c6) (x ^ (k / 2 ^ m)) ∧ x ^ (k / 2 ^ m) < Big ∧ Below w.heap.size w w5) := ⟨h7, h8, hb6⟩
            clear h7 h8 hb6 H5
            go_wp2_with (fail)
            go_roundw
            case rel => exact ⟨m, (m : Int) - 1, A6, n6, c6, by omega, rfl, by omega, rfl, rfl, HN⟩
            case measure => simp [intOf]
          · have HF := Lib.hid (And.intro (Nat.le_trans h7 (pow_big x k m (Nat.lt_of_lt_of_le Big_one h7))) hb6)
            clear h7 hb6 H5
            go_wp2_with (fail)
            dsimp only [Exit.noGoto]
            go_ret2
            exact ⟨.inr ⟨rfl, HF.out.1⟩, HF.out.2⟩
      · have hle : Big ≤ x ^ (k / 2 ^ m) := by
          rw [hhalf]
          split
          · rcases Nat.eq_zero_or_pos x with h0 | h0
            · subst h0
              exfalso
              have hp := Nat.mul_le_mul (pow_le_one (k / 2 ^ (m + 1))) (pow_le_one (k / 2 ^ (m + 1)))
              have := Big_one
              omega
            · exact Nat.le_trans h5 (Nat.le_mul_of_pos_right _ h0)
          · rw [Nat.mul_one]; exact h5
        have HF := Lib.hid (And.intro (Nat.le_trans hle (pow_big x k m (Nat.lt_of_lt_of_le (Big_one) hle))) hb4)
        clear h5 hle hb4 hH Hs4 hhalf
        go_wp2_with (fail)
        dsimp only [Exit.noGoto]
        go_ret2
        exact ⟨.inr ⟨rfl, HF.out.1⟩, HF.out.2⟩
end Go.Proofs.Ytekikolhnfofeaa
