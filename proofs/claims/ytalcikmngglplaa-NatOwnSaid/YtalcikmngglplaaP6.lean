/- Pieces of the proofs, together: NLow, RBitM, RBit, NBit, NSet, RSet, NMany, NProd, RMany. -/
import Derived.Laws.BitsAllLaws
import Derived.Test.YtalcikmngglplaaP4
import Derived.Test.YtalcikmngglplaaP2
import Derived.Test.YtalcikmngglplaaP1

namespace Go.Proofs.Ytalcikmngglplaa
open Go.RowKit Go.Shelf
set_option linter.unusedVariables false
set_option linter.unusedSimpArgs false
set_option maxRecDepth 10000

theorem take_set (xs : List Nat) (q y z : Nat) (h : xs[q]? = some y) : (xs.take (q + 1)).set q z = xs.take q ++ [z] := by
  have hl : q < xs.length := by
    rcases Nat.lt_or_ge q xs.length with h1 | h1
    · exact h1
    · rw [List.getElem?_eq_none h1] at h; cases h
  rw [List.take_add_one, h]
  have : (xs.take q).length = q := by rw [List.length_take]; omega
  simp only [Option.toList_some]
  rw [List.set_append_right _ _ (by omega), this]
  simp
/-- what a row leaves by 2^s -/
theorem low_value {xs : List Nat} (hw : Ws xs) {q r s y : Nat} (hy : xs[q]? = some y) (hs : s = 64 * q + r) (hr : r ≤ 63) : V ((xs.take (q + 1)).set q (y % 2 ^ r)) = V xs % 2 ^ s := by
  have hl : q < xs.length := by
    rcases Nat.lt_or_ge q xs.length with h1 | h1
    · exact h1
    · rw [List.getElem?_eq_none h1] at hy; cases hy
  have hq : (xs.take q).length = q := by rw [List.length_take]; omega
  rw [take_set _ _ _ _ hy, V_snoc, hq, hs, Nat.pow_add, Nat.pow_mul, show (2 : Nat) ^ 64 = B64 from rfl, Nat.mod_mul, ← V_dropped hw (by omega), V_drop _ _ _ hy]
  have h1 := V_split xs q (by omega)
  have h2 := V_lt _ (Ws_take hw q)
  rw [hq] at h2
  have h3 : V xs % B64 ^ q = V (xs.take q) := by rw [h1, Nat.add_mul_mod_self_right, Nat.mod_eq_of_lt h2]
  have h4 : (y + B64 * V (xs.drop (q + 1))) % 2 ^ r = y % 2 ^ r := by
    have hB : B64 = 2 ^ r * 2 ^ (64 - r) := by
      rw [← Nat.pow_add, show r + (64 - r) = 64 by omega]; rfl
    rw [hB, Nat.mul_assoc, Nat.add_mul_mod_self_left]
  rw [h3, h4, Nat.mul_comm]
theorem low_all {xs : List Nat} (hw : Ws xs) {n q r s : Nat} (hn : xs.length = n) (hs : s = 64 * q + r) (h : n ≤ q) : V xs = V xs % 2 ^ s := by
  rw [Nat.mod_eq_of_lt]
  refine Nat.lt_of_lt_of_le (V_lt _ hw) ?_
  rw [hs, Nat.pow_add, Nat.pow_mul, show (2 : Nat) ^ 64 = B64 from rfl, hn]
  exact Nat.le_trans (Nat.pow_le_pow_right B64_pos h) (Nat.le_mul_of_pos_right _ (Nat.pow_pos (by decide)))
theorem mask_low {y r p : Nat} (hy : y < B64) (hr : r ≤ 63) (hp : p = 2 ^ r - 1) : bits BinOp.and IntKind.u64 (y : Int) (p : Int) = ((y % 2 ^ r : Nat) : Int) := by
  have h := pow_lt r hr
  rw [bits_and_u64_nat _ _ hy (by rw [hp]; exact Nat.lt_of_le_of_lt (Nat.sub_le _ _) h), hp, Nat.and_two_pow_sub_one_eq_mod]

theorem Ws_put {xs : List Nat} (h : Ws xs) {q z : Nat} (hz : z < B64) : Ws (xs.set q z) := fun x hx => by
  rcases List.mem_or_eq_of_mem_set hx with h1 | h1
  · exact h x h1
  · rw [h1]; exact hz
theorem uvs_set (xs : List Nat) (q z : Nat) : uvs (xs.set q z) = (uvs xs).set q (.int .u64 (z : Int)) := by simp [uvs, List.map_set]

set_option maxHeartbeats 1000000 in
theorem NLow_ok (A : Option Addr) (n c : Nat) (xs : List Nat) (s : Nat) (w : World) (hn : n ≤ 4096) (hs : s ≤ 262144) (hx : Sl w A n c xs) :
    Calls Try.prog 34 #[.slice A n c, .int .i64 s] w fun e w' => ∃ v, e = .returned (.tuple #[v, .int .i64 0]) ∧ Nt w w' v (V xs % 2 ^ s) ∧ Below w.heap.size w w' := by
  obtain ⟨i0, hi, hz0, hz1, hz2⟩ := info_parts Try.info37
  have Hx := Lib.hid hx
  obtain ⟨q, r, hqr, hr, hq1, hq2, hr1, hr2⟩ : ∃ q r : Nat, s = 64 * q + r ∧ r ≤ 63 ∧ (s : Int).tdiv 64 = (q : Int) ∧ (s : Int) / 64 = (q : Int) ∧ (s : Int).tmod 64 = (r : Int) ∧ (s : Int) % 64 = (r : Int) :=
    ⟨s / 64, s % 64, by omega, by omega, by rw [Int.tdiv_eq_ediv_of_nonneg (by omega)]; omega, by omega, by rw [Int.tmod_eq_emod_of_nonneg (by omega)]; omega, by omega⟩
  have hqw : IntKind.i64.wrap (q : Int) = (q : Int) := IntWalk.i64_in _ (by omega)
  have hnc := hx.2.1
  have HS := Lib.hid (And.intro hs (And.intro hqr hx.1))
  clear hx hs
  rcases Nat.lt_or_ge q n with hqn | hqn
  · have hqi : ¬ (n : Int) ≤ (q : Int) := by omega
    have hq4 : q ≤ 4096 := by omega
    have hq1w : IntKind.i64.wrap ((q : Int) + 1) = (q : Int) + 1 := IntWalk.i64_in _ (by omega)
    obtain ⟨y, hy⟩ : ∃ y, xs[q]? = some y := ⟨xs[q]'(by rw [Hx.out.1]; exact hqn), List.getElem?_eq_getElem _⟩
    have hyB := Hx.out.2.2.2.1 y (List.mem_of_getElem? hy)
    have hyt : (uvs (xs.take (q + 1)))[q]? = some (.int .u64 (y : Int)) := uvs_get (by rw [List.getElem?_take, if_pos (by omega)]; exact hy)
    have hp := pow_lt r hr
    obtain ⟨p, hpp⟩ : ∃ p : Nat, 2 ^ r = p + 1 := ⟨2 ^ r - 1, by have := Nat.pow_pos (n := r) (show 0 < 2 by decide); omega⟩
    have hpB : p + 1 < B64 := by rw [← hpp]; exact hp
    have hw1 : IntKind.u64.wrap ((1 : Int) * 2 ^ r) = (p : Int) + 1 := by
      have := wrap_u64 1 r
      rw [Nat.one_mul, Nat.mod_eq_of_lt hp, hpp] at this
      exact this
    have hw2 : IntKind.u64.wrap ((2 : Int) ^ r) = (p : Int) + 1 := by rw [← hw1, Int.one_mul]
    have hw3 : IntKind.u64.wrap (p : Int) = (p : Int) := by rw [IntKind.wrap_u64]; have : B64 = 18446744073709551616 := rfl; omega
    obtain ⟨z, hz⟩ : ∃ z, y % 2 ^ r = z := ⟨_, rfl⟩
    have hmask : bits BinOp.and IntKind.u64 (y : Int) (p : Int) = (z : Int) := by rw [← hz]; exact mask_low hyB hr (by omega)
    have hzB : z < B64 := by rw [← hz]; exact Nat.lt_of_le_of_lt (Nat.mod_le _ _) hyB
    have hval := low_value Hx.out.2.2.2.1 hy hqr hr
    rw [hz] at hval
    have HV := Lib.hid (And.intro hval (And.intro hzB hyt))
    clear hval hzB hyt hz hyB hy hp hpp hpB hqr hr
    go_enter Try.func34, Try.ntmps34
    go_wp2_with (fail)
    refine (checkShift_ok A n _ s w hn HS.out.1).mono ?_
    rintro e w1 ⟨rfl, hb1⟩
    have Hl := Lib.hid (And.intro (show (uvs (xs.take (q + 1))).length = q + 1 by rw [uvs_length, List.length_take, Hx.out.1]; omega) (And.intro ((Hx.out.below hb1).tk (k := q + 1) (by omega)).2.2.2.2 hb1))
    have hsz := hb1.size
    clear hb1
    go_wp2_with (at_builtin; refine wpList_append_rd _ rfl (.const (.slice none 0 0)) (.tmp 26) 23 rfl w.heap.size 37 i0 (.int .u64 0) Try.underlying23 hi hz0 hz1 hz2 rfl _ 0 [] rfl (World.ownsRow_nil _ _ _ _) w1.heap.size A (q + 1) c (uvs (xs.take (q + 1))) rfl Hl.out.1 Hl.out.2.1 (uvs_one _) (by omega) (by omega) ?_)
    intro v2 w2 hown hgrow hblk
    have hb2 : Below w.heap.size w w2 := Hl.out.2.2.grown hgrow hsz (by intro j hj; cases hj)
    obtain ⟨g, cap, rfl, hg0, hglt⟩ := hown.form (by omega)
    have hc := (hown.cellAt q (by omega)).trans HV.out.2.2
    have hf := hown.frozenAt q
    obtain ⟨hst, hgr⟩ := World.ownsRow.stored (w := w2.drew) hown q (.int .u64 (z : Int))
    have HW := Lib.hid (And.intro hst (And.intro hgr (And.intro hb2 hg0)))
    have hmix : Try.prog.follows Departure.mixedOrders = true := by kernel_rfl
    have hqi1 : (q : Int) < (q : Int) + 1 := by omega
    clear hown hgrow hblk hb2 hst hgr hg0 Hl hsz
    go_wp2
    refine wp_region_L 10 (fun w' => w'.cell? ⟨g, q, none⟩ = some (.int .u64 (y : Int))) hmix ?_
    have HS0 := Lib.hid (show (fun w' : World => w'.cell? ⟨g, q, none⟩ = some (.int .u64 (y : Int))) w2.drew from hc)
    refine wpAnyL_take (i := 0) (v := ?_) rfl rfl (by kernel_rfl) (by kernel_rfl) (by kernel_rfl) (by kernel_rfl) (by kernel_rfl) (fun _ _ _ h => h) HS0.out (Or.inl ⟨by rfl, ?_⟩) ?_
    rotate_left
    · rintro w q0; go_simp; try with_reducible rfl
    try simp only [Act.put, List.setIfInBounds_toArray, List.set_cons_zero, List.set_cons_succ]
    refine wpAnyL_take (i := 1) (v := ?_) rfl rfl (by kernel_rfl) (by kernel_rfl) (by kernel_rfl) (by kernel_rfl) (by kernel_rfl) (fun _ _ _ h => h) HS0.out (Or.inl ⟨by rfl, ?_⟩) ?_
    rotate_left
    · rintro w q0; go_simp; try with_reducible rfl
    try simp only [Act.put, List.setIfInBounds_toArray, List.set_cons_zero, List.set_cons_succ]
    refine wpAnyL_take (i := 2) (v := ?_) rfl rfl (by kernel_rfl) (by kernel_rfl) (by kernel_rfl) (by kernel_rfl) (by kernel_rfl) (fun _ _ _ h => h) HS0.out (Or.inl ⟨by rfl, ?_⟩) ?_
    rotate_left
    · rintro w q0; go_simp; try with_reducible rfl
    try simp only [Act.put, List.setIfInBounds_toArray, List.set_cons_zero, List.set_cons_succ]
    refine wpAnyL_take (i := 3) (v := ?_) rfl rfl (by kernel_rfl) (by kernel_rfl) (by kernel_rfl) (by kernel_rfl) (by kernel_rfl) (fun _ _ _ h => h) HS0.out (Or.inl ⟨by rfl, ?_⟩) ?_
    rotate_left
    · rintro w q0; go_simp; try with_reducible rfl
    try simp only [Act.put, List.setIfInBounds_toArray, List.set_cons_zero, List.set_cons_succ]
    refine wpAnyL_take (i := 4) (v := ?_) rfl rfl (by kernel_rfl) (by kernel_rfl) (by kernel_rfl) (by kernel_rfl) (by kernel_rfl) (fun _ _ _ h => h) HS0.out (Or.inl ⟨by rfl, ?_⟩) ?_
    rotate_left
    · rintro w q0; go_simp; try with_reducible rfl
    try simp only [Act.put, List.setIfInBounds_toArray, List.set_cons_zero, List.set_cons_succ]
    refine wpAnyL_take (i := 5) (v := ?_) rfl rfl (by kernel_rfl) (by kernel_rfl) (by kernel_rfl) (by kernel_rfl) (by kernel_rfl) (fun _ _ _ h => h) HS0.out (Or.inl ⟨by rfl, ?_⟩) ?_
    rotate_left
    · rintro w q0; go_simp; try with_reducible rfl
    try simp only [Act.put, List.setIfInBounds_toArray, List.set_cons_zero, List.set_cons_succ]
    refine wpAnyL_take (i := 6) (v := ?_) rfl rfl (by kernel_rfl) (by kernel_rfl) (by kernel_rfl) (by kernel_rfl) (by kernel_rfl) (fun _ _ _ h => h) HS0.out (Or.inl ⟨by rfl, ?_⟩) ?_
    rotate_left
    · rintro w q0; go_simp; try with_reducible rfl
    try simp only [Act.put, List.setIfInBounds_toArray, List.set_cons_zero, List.set_cons_succ]
    refine wpAnyL_take (i := 7) (v := ?_) rfl rfl (by kernel_rfl) (by kernel_rfl) (by kernel_rfl) (by kernel_rfl) (by kernel_rfl) (fun _ _ _ h => h) HS0.out (Or.inl ⟨by rfl, ?_⟩) ?_
    rotate_left
    · rintro w q0; go_simp; try with_reducible rfl
    try simp only [Act.put, List.setIfInBounds_toArray, List.set_cons_zero, List.set_cons_succ]
    refine wpAnyL_take (i := 8) (v := ?_) rfl rfl (by kernel_rfl) (by kernel_rfl) (by kernel_rfl) (by kernel_rfl) (by kernel_rfl) (fun _ _ _ h => h) HS0.out (Or.inl ⟨by rfl, ?_⟩) ?_
    rotate_left
    · rintro w q0; go_simp; try with_reducible rfl
    try simp only [Act.put, List.setIfInBounds_toArray, List.set_cons_zero, List.set_cons_succ]
    refine wpAnyL_take (i := 9) (v := ?_) rfl rfl (by kernel_rfl) (by kernel_rfl) (by kernel_rfl) (by kernel_rfl) (by kernel_rfl) (fun _ _ _ h => h) HS0.out (Or.inl ⟨by rfl, ?_⟩) ?_
    rotate_left
    · rintro w q0; go_simp; try with_reducible rfl
    try simp only [Act.put, List.setIfInBounds_toArray, List.set_cons_zero, List.set_cons_succ]
    refine wpAnyL_one (i := 10) rfl (by kernel_rfl) (fun K hK => ?_)
    go_simp
    refine hK.out _ _ (fun h => absurd rfl h) ?_
    clear hK K
    try simp only [Act.put, List.setIfInBounds_toArray, List.set_cons_zero, List.set_cons_succ]
    refine wpAnyL_done (by kernel_rfl) ?_ _
    obtain ⟨us, hus⟩ : ∃ us, (xs.take (q + 1)).set q z = us := ⟨_, rfl⟩
    have hul : us.length = q + 1 := by rw [← hus, List.length_set, List.length_take, Hx.out.1]; omega
    have hnw : Nw w (w2.setCell ⟨g, q, none⟩ (.int .u64 (z : Int))).drew (.slice (some ⟨g, 0, none⟩) (q + 1) cap) (q + 1) us :=
      ⟨hul, by rw [← hus]; exact Ws_put (Ws_take Hx.out.2.2.2.1 _) HV.out.2.1, by rw [← hus, uvs_set]; exact HW.out.1⟩
    have hb3 : Below w.heap.size w (w2.setCell ⟨g, q, none⟩ (.int .u64 (z : Int))).drew := by
      have hb2 := HW.out.2.2.1
      have hgr := HW.out.2.1
      exact below_drewN (hb2.grown (w' := w2.setCell ⟨g, q, none⟩ (.int .u64 (z : Int))) (row := some g) ⟨hgr.os, hgr.tape, hgr.output, hgr.size, hgr.block⟩ hb2.size (by intro j hj; injection hj with hj; rw [← hj]; exact HW.out.2.2.2)) 1
    obtain ⟨A', c', he, hs3⟩ := hnw.sl
    injection he with e1 e2 e3
    subst e1 e3
    have H3 := Lib.hid (And.intro hs3 (And.intro hnw (And.intro (show V us = V xs % 2 ^ s by rw [← hus]; exact HV.out.1) hb3)))
    clear hs3 hnw hb3 hul hus HS0 HW hc hf
    go_wp2_with (fail)
    refine (used_ok _ _ _ us _ (by omega) H3.out.1).mono ?_
    rintro e w4 ⟨j, rfl, hj, hH, rfl⟩
    have H4 := Lib.hid (And.intro hj hH.out)
    clear hj hH
    go_wp2_with (fail)
    go_ret2
    exact ⟨_, rfl, ⟨j, us.take j, H3.out.2.1.tk H4.out.1, H4.out.2.2, by rw [H4.out.2.1]; exact H3.out.2.2.1⟩, H3.out.2.2.2⟩
  · have hqi : (n : Int) ≤ (q : Int) := by omega
    have HV := Lib.hid (low_all Hx.out.2.2.2.1 Hx.out.1 hqr hqn)
    clear hqr
    go_enter Try.func34, Try.ntmps34
    go_wp2_with (fail)
    refine (checkShift_ok A n _ s w hn HS.out.1).mono ?_
    rintro e w1 ⟨rfl, hb1⟩
    have H1 := Lib.hid (And.intro (Hx.out.below hb1) hb1)
    clear hb1
    go_wp2_with (fail)
    refine (NTrim_ok A n c xs w1 (by omega) H1.out.1).mono ?_
    rintro e w2 hR
    obtain ⟨v2, rfl, h2, hb2⟩ := hR.from H1.out.2
    rw [HV.out] at h2
    have H2 := Lib.hid (And.intro h2 hb2)
    clear h2 hb2 hR
    go_wp2_with (fail)
    go_ret2
    exact ⟨v2, rfl, H2.out.1, H2.out.2⟩
end Go.Proofs.Ytalcikmngglplaa

namespace Go.Proofs.Ytalcikmngglplaa
open Go.RowKit Go.Shelf
set_option linter.unusedVariables false
set_option maxRecDepth 10000

/-- the bit of 2^i -/
def bitOf (x : Nat) (i : Int) : Bool := decide (0 ≤ i) && decide (x / 2 ^ i.toNat % 2 = 1)
theorem bitOf_nat (x i : Nat) : bitOf x (i : Int) = decide (x / 2 ^ i % 2 = 1) := by simp [bitOf]
theorem bitOf_word {xs : List Nat} (hw : Ws xs) {i q r y : Nat} (hy : xs[q]? = some y) (hi : i = 64 * q + r) (hr : r ≤ 63) : bitOf (V xs) (i : Int) = decide (y / 2 ^ r % 2 = 1) := by
  have hl : q < xs.length := by
    rcases Nat.lt_or_ge q xs.length with h1 | h1
    · exact h1
    · rw [List.getElem?_eq_none h1] at hy; cases hy
  rw [bitOf_nat, hi, Nat.pow_add, Nat.pow_mul, show (2 : Nat) ^ 64 = B64 from rfl, ← Nat.div_div_eq_div_mul, ← V_dropped hw (by omega), V_drop _ _ _ hy]
  have hB : B64 = 2 ^ r * (2 * 2 ^ (63 - r)) := by
    rw [← Nat.pow_succ', ← Nat.pow_add, show r + (63 - r + 1) = 64 by omega]; rfl
  rw [hB, Nat.mul_assoc, Nat.add_mul_div_left _ _ (Nat.pow_pos (by decide)), Nat.mul_assoc, Nat.add_mul_mod_self_left]
theorem bitOf_out {xs : List Nat} (hw : Ws xs) {n i q r : Nat} (hn : xs.length = n) (hi : i = 64 * q + r) (h : n ≤ q) : bitOf (V xs) (i : Int) = false := by
  rw [bitOf_nat]
  have h1 : V xs < 2 ^ i := by
    refine Nat.lt_of_lt_of_le (V_lt _ hw) ?_
    rw [hi, Nat.pow_add, Nat.pow_mul, show (2 : Nat) ^ 64 = B64 from rfl, hn]
    exact Nat.le_trans (Nat.pow_le_pow_right B64_pos h) (Nat.le_mul_of_pos_right _ (Nat.pow_pos (by decide)))
  rw [Nat.div_eq_of_lt h1]
  rfl
theorem and_one (z : Nat) (hz : z < B64) : bits BinOp.and IntKind.u64 (z : Int) 1 = ((z % 2 : Nat) : Int) := by
  have := bits_and_u64_nat z 1 hz (by decide)
  rw [show z &&& 1 = z % 2 from Nat.and_two_pow_sub_one_eq_mod z 1] at this
  exact this

end Go.Proofs.Ytalcikmngglplaa

namespace Go.Proofs.Ytalcikmngglplaa
open Go.RowKit Go.Shelf
set_option linter.unusedVariables false
set_option maxRecDepth 10000

set_option maxHeartbeats 1000000 in
theorem R2Bit_same (A : Option Addr) (n c : Nat) (xs : List Nat) (i : Int) (w : World) (hn : n ≤ 100000) (hi : i ≤ 9223372036854775807) (hx : Sl w A n c xs) :
    Calls Try.prog 40 #[.slice A n c, .int .i64 i] w fun e w' => e = .returned (.bool (bitOf (V xs) i)) ∧ w = w' := by
  by_cases h0 : 0 ≤ i
  · obtain ⟨s, rfl⟩ := Int.eq_ofNat_of_zero_le h0
    obtain ⟨q, r, hqr, hr, hq1, hq2, hr1, hr2⟩ : ∃ q r : Nat, s = 64 * q + r ∧ r ≤ 63 ∧ (s : Int).tdiv 64 = (q : Int) ∧ (s : Int) / 64 = (q : Int) ∧ (s : Int).tmod 64 = (r : Int) ∧ (s : Int) % 64 = (r : Int) :=
      ⟨s / 64, s % 64, by omega, by omega, by rw [Int.tdiv_eq_ediv_of_nonneg (by omega)]; omega, by omega, by rw [Int.tmod_eq_emod_of_nonneg (by omega)]; omega, by omega⟩
    have hqw : IntKind.i64.wrap (q : Int) = (q : Int) := IntWalk.i64_in _ (by omega)
    have Hx := Lib.hid hx
    clear hx hi
    rcases Nat.lt_or_ge q n with hqn | hqn
    · have hqi : (q : Int) < (n : Int) := by omega
      have hql : q < xs.length := by rw [Hx.out.1]; exact hqn
      have hg := List.getElem?_eq_getElem hql
      have hyB : xs[q] < B64 := Hx.out.2.2.2.1 _ (List.getElem_mem hql)
      obtain ⟨b, o, rfl, hb, hcx⟩ := Hx.out.2.2.2.2.at (uvs_get hg)
      generalize xs[q] = y at *
      have HB := Lib.hid (bitOf_word Hx.out.2.2.2.1 hg hqr hr)
      obtain ⟨z, hz⟩ : ∃ z, y / 2 ^ r = z := ⟨_, rfl⟩
      have hzB : z < B64 := by rw [← hz]; exact Nat.lt_of_le_of_lt (Nat.div_le_self _ _) hyB
      have hz1 : (y : Int) / 2 ^ r = (z : Int) := by rw [← hz]; simp
      rw [hz] at HB
      have hzw : IntKind.u64.wrap (z : Int) = (z : Int) := by rw [IntKind.wrap_u64]; have : B64 = 18446744073709551616 := rfl; omega
      obtain ⟨d, hd⟩ : ∃ d, z % 2 = d := ⟨_, rfl⟩
      rw [hd] at HB
      have hm1 : (z : Int).tmod 2 = (d : Int) := by rw [Int.tmod_eq_emod_of_nonneg (by omega), ← hd]; omega
      have hm2 : (z : Int) % 2 = (d : Int) := by rw [← hd]; omega
      have hdw : IntKind.u64.wrap (d : Int) = (d : Int) := by rw [IntKind.wrap_u64]; omega
      have hd2 : d = 0 ∨ d = 1 := by omega
      clear hz hd hzB hyB hg hql hqr
      go_enter Try.func40, Try.ntmps40
      go_wp2
      go_ret
      rw [HB.out]
      refine ⟨?_, rfl⟩
      rcases hd2 with rfl | rfl <;> rfl
    · have hqi : ¬ (q : Int) < (n : Int) := by omega
      have HB := Lib.hid (bitOf_out Hx.out.2.2.2.1 Hx.out.1 hqr hqn)
      clear hqr
      go_enter Try.func40, Try.ntmps40
      go_wp2
      go_ret
      rw [HB.out]
      exact ⟨rfl, rfl⟩
  · have hb : bitOf (V xs) i = false := by simp [bitOf, h0]
    rw [hb]
    clear hx hi hb
    go_enter Try.func40, Try.ntmps40
    go_wp2
    go_ret
    exact ⟨rfl, rfl⟩
theorem R2Bit_ok (A : Option Addr) (n c : Nat) (xs : List Nat) (i : Int) (w : World) (hn : n ≤ 100000) (hi : i ≤ 9223372036854775807) (hx : Sl w A n c xs) :
    Calls Try.prog 40 #[.slice A n c, .int .i64 i] w fun e w' => e = .returned (.bool (bitOf (V xs) i)) ∧ Below w.heap.size w w' :=
  (R2Bit_same A n c xs i w hn hi hx).mono fun e w' h => ⟨h.1, by rw [← h.2]; exact Below.refl _ _⟩
end Go.Proofs.Ytalcikmngglplaa

namespace Go.Proofs.Ytalcikmngglplaa
open Go.RowKit Go.Shelf
set_option linter.unusedVariables false
set_option maxRecDepth 10000

set_option maxHeartbeats 1000000 in
theorem NBit_ok (A : Option Addr) (n c : Nat) (xs : List Nat) (i : Int) (w : World) (hn : n ≤ 100000) (hi : i ≤ 9223372036854775807) (hx : Sl w A n c xs) :
    Calls Try.prog 39 #[.slice A n c, .int .i64 i] w fun e w' => e = .returned (.bool (bitOf (V xs) i)) ∧ Below w.heap.size w w' := by
  by_cases h0 : 0 ≤ i
  · obtain ⟨s, rfl⟩ := Int.eq_ofNat_of_zero_le h0
    obtain ⟨q, r, hqr, hr, hq1, hq2, hr1, hr2⟩ : ∃ q r : Nat, s = 64 * q + r ∧ r ≤ 63 ∧ (s : Int).tdiv 64 = (q : Int) ∧ (s : Int) / 64 = (q : Int) ∧ (s : Int).tmod 64 = (r : Int) ∧ (s : Int) % 64 = (r : Int) :=
      ⟨s / 64, s % 64, by omega, by omega, by rw [Int.tdiv_eq_ediv_of_nonneg (by omega)]; omega, by omega, by rw [Int.tmod_eq_emod_of_nonneg (by omega)]; omega, by omega⟩
    have hqw : IntKind.i64.wrap (q : Int) = (q : Int) := IntWalk.i64_in _ (by omega)
    have Hx := Lib.hid hx
    clear hx hi
    rcases Nat.lt_or_ge q n with hqn | hqn
    · have hqi : (q : Int) < (n : Int) := by omega
      have hql : q < xs.length := by rw [Hx.out.1]; exact hqn
      have hg := List.getElem?_eq_getElem hql
      have hyB : xs[q] < B64 := Hx.out.2.2.2.1 _ (List.getElem_mem hql)
      obtain ⟨b, o, rfl, hb, hcx⟩ := Hx.out.2.2.2.2.at (uvs_get hg)
      generalize xs[q] = y at *
      have HB := Lib.hid (bitOf_word Hx.out.2.2.2.1 hg hqr hr)
      obtain ⟨z, hz⟩ : ∃ z, y / 2 ^ r = z := ⟨_, rfl⟩
      have hzB : z < B64 := by rw [← hz]; exact Nat.lt_of_le_of_lt (Nat.div_le_self _ _) hyB
      have hz1 : (y : Int) / 2 ^ r = (z : Int) := by rw [← hz]; simp
      rw [hz] at HB
      have hzw : IntKind.u64.wrap (z : Int) = (z : Int) := by rw [IntKind.wrap_u64]; have : B64 = 18446744073709551616 := rfl; omega
      have hm := and_one z hzB
      obtain ⟨d, hd⟩ : ∃ d, z % 2 = d := ⟨_, rfl⟩
      rw [hd] at hm HB
      have hd2 : d = 0 ∨ d = 1 := by omega
      clear hz hd hzB hyB hg hql hqr
      go_enter Try.func39, Try.ntmps39
      go_wp2
      go_ret
      rw [HB.out]
      refine ⟨?_, Below.refl _ _⟩
      rcases hd2 with rfl | rfl <;> rfl
    · have hqi : ¬ (q : Int) < (n : Int) := by omega
      have HB := Lib.hid (bitOf_out Hx.out.2.2.2.1 Hx.out.1 hqr hqn)
      clear hqr
      go_enter Try.func39, Try.ntmps39
      go_wp2
      go_ret
      rw [HB.out]
      exact ⟨rfl, Below.refl _ _⟩
  · have hb : bitOf (V xs) i = false := by simp [bitOf, h0]
    rw [hb]
    clear hx hi hb
    go_enter Try.func39, Try.ntmps39
    go_wp2
    go_ret
    exact ⟨rfl, Below.refl _ _⟩
end Go.Proofs.Ytalcikmngglplaa

namespace Go.Proofs.Ytalcikmngglplaa
open Go.RowKit Go.Shelf
set_option linter.unusedVariables false
set_option linter.unusedSimpArgs false
set_option maxRecDepth 10000

/-- x with the bit of 2^i as it is said -/
def setOf (x i : Nat) (b : Bool) : Nat := if bitOf x (i : Int) = b then x else if b then x + 2 ^ i else x - 2 ^ i
set_option maxHeartbeats 400000 in
theorem SetBit_arg (A : Option Addr) (n c : Nat) (i : Int) (b : Bool) (w : World) (hn : n ≤ 4096) (hi : i < 0 ∨ 262144 ≤ i) :
    Calls Try.prog 38 #[.slice A n c, .int .i64 i, .bool b] w fun e w' => e = .returned (.tuple #[.slice none 0 0, .int .i64 1]) ∧ Below w.heap.size w w' := by
  have Hk := Lib.hid (chkS_one (A := A) (c := c) hn)
  have hcs : i < 0 ∨ (¬ i < 0 ∧ 262144 ≤ i) := by omega
  clear hi
  rcases hcs with h1 | ⟨h1, h2⟩
  all_goals
    go_enter Try.func38, Try.ntmps38
    go_wp2_with (fail)
    refine (checkSizes_one A _ c _ _ w rfl).mono ?_
    rintro e w1 ⟨rfl, hb1⟩
    rw [Hk.out]
    go_wp2_with (fail)
    go_ret2
    exact ⟨rfl, hb1⟩
/-- a word's bit is cleared, or set -/
theorem bit_split (y r : Nat) : ∃ h l d, y = h * (2 * 2 ^ r) + d * 2 ^ r + l ∧ l < 2 ^ r ∧ d ≤ 1 ∧ y / 2 ^ r % 2 = d := by
  refine ⟨y / 2 ^ r / 2, y % 2 ^ r, y / 2 ^ r % 2, ?_, Nat.mod_lt _ (Nat.pow_pos (by decide)), by omega, rfl⟩
  have h1 := Nat.div_add_mod y (2 ^ r)
  have h2 := Nat.div_add_mod (y / 2 ^ r) 2
  generalize y / 2 ^ r / 2 = a at *
  generalize y / 2 ^ r % 2 = b at *
  generalize y % 2 ^ r = l at *
  generalize y / 2 ^ r = q at *
  generalize 2 ^ r = p at *
  subst h2
  rw [← h1]
  grind
theorem two_bit (h d k : Nat) (hd : d ≤ 1) : (2 * h + d).testBit (k + 1) = h.testBit k := by
  rw [Nat.testBit_succ]
  congr 1
  omega
/-- the bit of 2^r cleared -/
theorem bit_clear {y r h l d : Nat} (hy : y < 2 ^ 64) (he : y = h * (2 * 2 ^ r) + d * 2 ^ r + l) (hl : l < 2 ^ r) (hd : d ≤ 1) (hr : r ≤ 63) : y &&& (2 ^ 64 - (2 ^ r + 1)) = h * (2 * 2 ^ r) + l := by
  have e1 : y = 2 ^ r * (2 * h + d) + l := by rw [he]; generalize 2 ^ r = p; grind
  have e2 : h * (2 * 2 ^ r) + l = 2 ^ r * (2 * h + 0) + l := by generalize 2 ^ r = p; grind
  have hle : h * (2 * 2 ^ r) + l ≤ y := by rw [he]; omega
  have hp : 2 ^ r < 2 ^ 64 := Nat.pow_lt_pow_right (by decide) (by omega)
  refine Nat.eq_of_testBit_eq fun j => ?_
  rw [Nat.testBit_and, Nat.testBit_two_pow_sub_succ hp, Nat.testBit_two_pow]
  rcases Nat.lt_or_ge j 64 with hj | hj
  · rw [e2, e1, Nat.testBit_two_pow_mul_add _ hl, Nat.testBit_two_pow_mul_add _ hl]
    rcases Nat.lt_trichotomy j r with h1 | h1 | h1
    · simp [h1, hj, show ¬ r = j by omega]
    · subst h1
      simp
    · obtain ⟨k, hk⟩ : ∃ k, j - r = k + 1 := ⟨j - r - 1, by omega⟩
      rw [if_neg (by omega), if_neg (by omega), hk, two_bit _ _ _ hd, two_bit _ _ _ (by omega)]
      simp [hj, show ¬ r = j by omega]
  · have h3 : 2 ^ 64 ≤ 2 ^ j := Nat.pow_le_pow_right (by decide) hj
    rw [Nat.testBit_lt_two_pow (Nat.lt_of_lt_of_le hy h3), Nat.testBit_lt_two_pow (Nat.lt_of_lt_of_le (Nat.lt_of_le_of_lt hle hy) h3)]
    rfl
/-- the bit of 2^r set where it was 0 -/
theorem bit_set {r h l : Nat} (hl : l < 2 ^ r) : (h * (2 * 2 ^ r) + l) ||| 2 ^ r = h * (2 * 2 ^ r) + 2 ^ r + l := by
  have e1 : h * (2 * 2 ^ r) + l = 2 ^ r * (2 * h + 0) + l := by generalize 2 ^ r = p; grind
  have e2 : h * (2 * 2 ^ r) + 2 ^ r + l = 2 ^ r * (2 * h + 1) + l := by generalize 2 ^ r = p; grind
  refine Nat.eq_of_testBit_eq fun j => ?_
  rw [Nat.testBit_or, Nat.testBit_two_pow, e1, e2, Nat.testBit_two_pow_mul_add _ hl, Nat.testBit_two_pow_mul_add _ hl]
  rcases Nat.lt_trichotomy j r with h1 | h1 | h1
  · simp [h1, show ¬ r = j by omega]
  · subst h1
    simp
  · obtain ⟨k, hk⟩ : ∃ k, j - r = k + 1 := ⟨j - r - 1, by omega⟩
    rw [if_neg (by omega), if_neg (by omega), hk, two_bit _ _ _ (by omega), two_bit _ _ _ (by omega)]
    simp [show ¬ r = j by omega]
theorem V_put : ∀ (zs : List Nat) (q y z : Nat), zs[q]? = some y → V (zs.set q z) + y * B64 ^ q = V zs + z * B64 ^ q
  | [], _, _, _, h => by simp at h
  | a :: t, 0, y, z, h => by
    simp at h
    subst h
    simp only [List.set_cons_zero, V, Nat.pow_zero, Nat.mul_one]
    omega
  | a :: t, q + 1, y, z, h => by
    have ih := V_put t q y z (by simpa using h)
    simp only [List.set_cons_succ, V, Nat.pow_succ]
    generalize B64 = b at *
    generalize b ^ q = p at *
    generalize V (t.set q z) = u at *
    generalize V t = v at *
    have e1 : y * (p * b) = b * (y * p) := by grind
    have e2 : z * (p * b) = b * (z * p) := by grind
    have e3 : b * u + b * (y * p) = b * v + b * (z * p) := by rw [← Nat.mul_add, ih, Nat.mul_add]
    rw [e1, e2]
    omega
/-- the words that SetBit stores, and the values of the rows then -/
theorem set_plan {zs : List Nat} (hw : Ws zs) {i q r y : Nat} (hy : zs[q]? = some y) (hi : i = 64 * q + r) (hr : r ≤ 63) :
    ∃ y0 y1 : Nat, y0 < B64 ∧ y1 < B64 ∧ bits BinOp.andNot IntKind.u64 (y : Int) ((2 ^ r : Nat) : Int) = (y0 : Int) ∧ bits BinOp.or IntKind.u64 (y0 : Int) ((2 ^ r : Nat) : Int) = (y1 : Int) ∧
      V (zs.set q y0) = setOf (V zs) i false ∧ V (zs.set q y1) = setOf (V zs) i true := by
  have hyB : y < B64 := hw y (List.mem_of_getElem? hy)
  have hp := pow_lt r hr
  obtain ⟨h, l, d, he, hl, hd, hb⟩ := bit_split y r
  have hB : B64 = 2 ^ r * (2 * 2 ^ (63 - r)) := by
    rw [← Nat.pow_succ', ← Nat.pow_add, show r + (63 - r + 1) = 64 by omega]; rfl
  have hh : h < 2 ^ (63 - r) := by
    rcases Nat.lt_or_ge h (2 ^ (63 - r)) with h1 | h1
    · exact h1
    · have h2 := Nat.mul_le_mul_right (2 * 2 ^ r) h1
      have h3 : 2 ^ (63 - r) * (2 * 2 ^ r) = B64 := by rw [hB]; generalize 2 ^ r = p; generalize 2 ^ (63 - r) = t; grind
      omega
  have h4 := Nat.mul_le_mul_right (2 * 2 ^ r) (show h + 1 ≤ 2 ^ (63 - r) from hh)
  have h3 : 2 ^ (63 - r) * (2 * 2 ^ r) = B64 := by rw [hB]; generalize 2 ^ r = p; generalize 2 ^ (63 - r) = t; grind
  rw [Nat.add_mul, Nat.one_mul, h3] at h4
  have hbit := bitOf_word hw hy hi hr
  rw [hb] at hbit
  have hpow : 2 ^ i = 2 ^ r * B64 ^ q := by rw [hi, Nat.pow_add, Nat.pow_mul, show (2 : Nat) ^ 64 = B64 from rfl, Nat.mul_comm]
  have v0 := V_put zs q y (h * (2 * 2 ^ r) + l) hy
  have v1 := V_put zs q y (h * (2 * 2 ^ r) + 2 ^ r + l) hy
  refine ⟨h * (2 * 2 ^ r) + l, h * (2 * 2 ^ r) + 2 ^ r + l, by omega, by omega, ?_, ?_, ?_, ?_⟩
  · rw [u64_andNot_nat _ _ hyB hp]
    have := bit_clear (y := y) hyB he hl hd hr
    rw [show (18446744073709551615 : Nat) - 2 ^ r = 2 ^ 64 - (2 ^ r + 1) by omega, this]
  · rw [bits_or_u64_nat _ _ (show _ < B64 by omega) hp, bit_set hl]
  all_goals
    unfold setOf
    rw [hbit, hpow]
    clear hbit hpow hh h4 h3 hB hb hy hi hw hyB hl hp
    generalize V (zs.set q (h * (2 * 2 ^ r) + l)) = a at *
    generalize V (zs.set q (h * (2 * 2 ^ r) + 2 ^ r + l)) = b at *
    generalize V zs = x at *
    generalize 2 ^ r = p at *
    generalize B64 ^ q = t at *
    subst he
    have hcs : d = 0 ∨ d = 1 := by omega
    rcases hcs with rfl | rfl
    all_goals
      simp only [Nat.add_mul, Nat.zero_mul, Nat.one_mul] at v0 v1
      simp
      omega
set_option maxHeartbeats 1000000 in
theorem SetBit_ok (A : Option Addr) (n c : Nat) (xs : List Nat) (i : Nat) (b : Bool) (w : World) (hn : n ≤ 4096) (hi4 : i < 262144) (hx : Sl w A n c xs) :
    Calls Try.prog 38 #[.slice A n c, .int .i64 i, .bool b] w fun e w' => ∃ v, e = .returned (.tuple #[v, .int .i64 0]) ∧ Nt w w' v (setOf (V xs) i b) ∧ Below w.heap.size w w' := by
  obtain ⟨i0, hi, hz0, hz1, hz2⟩ := info_parts Try.info37
  have Hx := Lib.hid hx
  have Hk := Lib.hid (chkS_one (A := A) (c := c) hn)
  obtain ⟨q, r, hqr, hr, hq1, hq2, hr1, hr2⟩ : ∃ q r : Nat, i = 64 * q + r ∧ r ≤ 63 ∧ (i : Int).tdiv 64 = (q : Int) ∧ (i : Int) / 64 = (q : Int) ∧ (i : Int).tmod 64 = (r : Int) ∧ (i : Int) % 64 = (r : Int) :=
    ⟨i / 64, i % 64, by omega, by omega, by rw [Int.tdiv_eq_ediv_of_nonneg (by omega)]; omega, by omega, by rw [Int.tmod_eq_emod_of_nonneg (by omega)]; omega, by omega⟩
  have hqw : IntKind.i64.wrap (q : Int) = (q : Int) := IntWalk.i64_in _ (by omega)
  have hq4 : q ≤ 4096 := by omega
  have hq1w : IntKind.i64.wrap ((q : Int) + 1) = ((q + 1 : Nat) : Int) := by rw [IntWalk.i64_in _ (by omega)]; omega
  have hi0 : ¬ (i : Int) < 0 := by omega
  have hi1 : decide ((262144 : Int) ≤ (i : Int)) = false := decide_eq_false (by omega)
  obtain ⟨N, hN, hN4, hqN⟩ : ∃ N : Nat, (n ≤ N ∧ q + 1 ≤ N ∧ (N = n ∨ N = q + 1)) ∧ N ≤ 4097 ∧ q < N := by
    rcases Nat.lt_or_ge n (q + 1) with h | h
    · exact ⟨q + 1, by omega, by omega, by omega⟩
    · exact ⟨n, by omega, by omega, by omega⟩
  have HN : Hid (Mx N n (q + 1)) := hN
  have hp := pow_lt r hr
  obtain ⟨p, hpp⟩ : ∃ p : Nat, 2 ^ r = p := ⟨_, rfl⟩
  have hw1 : IntKind.u64.wrap ((1 : Int) * 2 ^ r) = (p : Int) := by
    have := wrap_u64 1 r
    rw [Nat.one_mul, Nat.mod_eq_of_lt hp, hpp] at this
    exact this
  have hw2 : IntKind.u64.wrap ((2 : Int) ^ r) = (p : Int) := by rw [← hw1, Int.one_mul]
  have HQ := Lib.hid (And.intro hqr (And.intro hr hpp))
  clear hx hN hp hpp hqr hi4 hr
  go_enter Try.func38, Try.ntmps38
  go_wp2_with (fail)
  refine (checkSizes_one A _ c _ _ w rfl).mono ?_
  rintro e w1 ⟨rfl, hb1⟩
  rw [Hk.out]
  go_wp2_with (fail)
  refine (row_ok A n c (q + 1) N xs w1 (by omega) HN.out (Hx.out.below hb1)).mono ?_
  rintro e w2 ⟨A2, c2, rfl, hs2, hb2⟩
  have Hl := Lib.hid (And.intro (show (uvs (pad xs (q + 1))).length = N by rw [uvs_length]; exact hs2.1) (And.intro hs2 (hb1.trans (hb2.mono hb1.size))))
  have hsz := Hl.out.2.2.size
  clear hb1 hb2 hs2
  go_wp2_with (at_builtin; refine wpList_append_rd _ rfl (.const (.slice none 0 0)) (.tmp 27) 23 rfl w.heap.size 37 i0 (.int .u64 0) Try.underlying23 hi hz0 hz1 hz2 rfl _ 0 [] rfl (World.ownsRow_nil _ _ _ _) w2.heap.size A2 N c2 (uvs (pad xs (q + 1))) rfl Hl.out.1 Hl.out.2.1.2.2.2.2 (uvs_one _) (by omega) (by omega) ?_)
  intro v3 w3 hown hgrow hblk
  have hb3 : Below w.heap.size w w3 := Hl.out.2.2.grown hgrow hsz (by intro j hj; cases hj)
  obtain ⟨zs, hzs⟩ : ∃ zs, pad xs (q + 1) = zs := ⟨_, rfl⟩
  have hlen : zs.length = N := by rw [← hzs]; exact Hl.out.2.1.1
  have hws : Ws zs := by rw [← hzs]; exact Hl.out.2.1.2.2.2.1
  have hVz : V zs = V xs := by rw [← hzs, V_pad]
  simp only [List.nil_append, Nat.zero_add, hzs] at hown
  obtain ⟨y, hy⟩ : ∃ y, zs[q]? = some y := ⟨zs[q]'(by rw [hlen]; exact hqN), List.getElem?_eq_getElem _⟩
  obtain ⟨y0, y1, hy0, hy1, ha, ho, hv0, hv1⟩ := set_plan hws hy HQ.out.1 HQ.out.2.1
  rw [HQ.out.2.2] at ha ho
  rw [hVz] at hv0 hv1
  obtain ⟨g, cap, rfl, hg0, hglt⟩ := hown.form (by omega)
  have hc := (hown.cellAt q (by omega)).trans (uvs_get hy)
  have hf := hown.frozenAt q
  obtain ⟨hst, hgr⟩ := World.ownsRow.stored (w := w3) hown q (.int .u64 (y0 : Int))
  have hqi1 : (q : Int) < (N : Int) := by omega
  have hmix : Try.prog.follows Departure.mixedOrders = true := by kernel_rfl
  have HW := Lib.hid (And.intro hst (And.intro hgr (And.intro hb3 (And.intro hg0 (And.intro hws (And.intro hlen (And.intro hy0 (And.intro hy1 (And.intro hv0 hv1)))))))))
  clear hown hgrow hblk hb3 hst hgr hg0 Hl hsz hws hlen hVz hy0 hy1 hv0 hv1 hzs hy
  cases b
  · go_wp2_with (fail)
    obtain ⟨us, hus⟩ : ∃ us, zs.set q y0 = us := ⟨_, rfl⟩
    have hul : us.length = N := by rw [← hus, List.length_set]; exact HW.out.2.2.2.2.2.1
    have hnw : Nw w (w3.setCell ⟨g, q, none⟩ (.int .u64 (y0 : Int))) (.slice (some ⟨g, 0, none⟩) N cap) N us :=
      ⟨hul, by rw [← hus]; exact Ws_put HW.out.2.2.2.2.1 HW.out.2.2.2.2.2.2.1, by rw [← hus, uvs_set]; exact HW.out.1⟩
    have hb4 : Below w.heap.size w (w3.setCell ⟨g, q, none⟩ (.int .u64 (y0 : Int))) := HW.out.2.2.1.grown HW.out.2.1 HW.out.2.2.1.size (by intro j hj; injection hj with hj; rw [← hj]; exact HW.out.2.2.2.1)
    obtain ⟨A', c', he, hs4⟩ := hnw.sl
    injection he with e1 e2 e3
    subst e1 e3
    have H3 := Lib.hid (And.intro hs4 (And.intro hnw (And.intro (show V us = setOf (V xs) i false by rw [← hus]; exact HW.out.2.2.2.2.2.2.2.2.1) hb4)))
    clear hs4 hnw hb4 hul hus HW hc hf
    go_wp2_with (fail)
    refine (used_ok _ _ _ us _ (by omega) H3.out.1).mono ?_
    rintro e w5 ⟨j, rfl, hj, hH, rfl⟩
    have H4 := Lib.hid (And.intro hj hH.out)
    clear hj hH
    go_wp2_with (fail)
    go_ret2
    exact ⟨_, rfl, ⟨j, us.take j, H3.out.2.1.tk H4.out.1, H4.out.2.2, by rw [H4.out.2.1]; exact H3.out.2.2.1⟩, H3.out.2.2.2⟩
  · go_wp2_with (fail)
    have hb1 : Below w.heap.size w (w3.setCell ⟨g, q, none⟩ (.int .u64 (y0 : Int))) := HW.out.2.2.1.grown HW.out.2.1 HW.out.2.2.1.size (by intro j hj; injection hj with hj; rw [← hj]; exact HW.out.2.2.2.1)
    obtain ⟨hst2, hgr2⟩ := World.ownsRow.stored (w := w3.setCell ⟨g, q, none⟩ (.int .u64 (y0 : Int))) HW.out.1 q (.int .u64 (y1 : Int))
    rw [List.set_set] at hst2
    obtain ⟨us, hus⟩ : ∃ us, zs.set q y1 = us := ⟨_, rfl⟩
    have hul : us.length = N := by rw [← hus, List.length_set]; exact HW.out.2.2.2.2.2.1
    have hnw : Nw w ((w3.setCell ⟨g, q, none⟩ (.int .u64 (y0 : Int))).setCell ⟨g, q, none⟩ (.int .u64 (y1 : Int))) (.slice (some ⟨g, 0, none⟩) N cap) N us :=
      ⟨hul, by rw [← hus]; exact Ws_put HW.out.2.2.2.2.1 HW.out.2.2.2.2.2.2.2.1, by rw [← hus, uvs_set]; exact hst2⟩
    have hb4 : Below w.heap.size w ((w3.setCell ⟨g, q, none⟩ (.int .u64 (y0 : Int))).setCell ⟨g, q, none⟩ (.int .u64 (y1 : Int))) := hb1.grown hgr2 hb1.size (by intro j hj; injection hj with hj; rw [← hj]; exact HW.out.2.2.2.1)
    obtain ⟨A', c', he, hs4⟩ := hnw.sl
    injection he with e1 e2 e3
    subst e1 e3
    have H3 := Lib.hid (And.intro hs4 (And.intro hnw (And.intro (show V us = setOf (V xs) i true by rw [← hus]; exact HW.out.2.2.2.2.2.2.2.2.2) hb4)))
    clear hs4 hnw hb4 hul hus HW hc hf hb1 hst2 hgr2
    go_wp2_with (fail)
    refine (used_ok _ _ _ us _ (by omega) H3.out.1).mono ?_
    rintro e w5 ⟨j, rfl, hj, hH, rfl⟩
    have H4 := Lib.hid (And.intro hj hH.out)
    clear hj hH
    go_wp2_with (fail)
    go_ret2
    exact ⟨_, rfl, ⟨j, us.take j, H3.out.2.1.tk H4.out.1, H4.out.2.2, by rw [H4.out.2.1]; exact H3.out.2.2.1⟩, H3.out.2.2.2⟩
end Go.Proofs.Ytalcikmngglplaa

namespace Go.Proofs.Ytalcikmngglplaa
open Go.RowKit Go.Shelf
set_option linter.unusedVariables false
set_option maxRecDepth 10000

theorem bitOf_le {x i : Nat} (h : bitOf x (i : Int) = true) : 2 ^ i ≤ x := by
  rw [bitOf_nat] at h
  rcases Nat.lt_or_ge x (2 ^ i) with h1 | h1
  · rw [Nat.div_eq_of_lt h1] at h; simp at h
  · exact h1
theorem B64_pw (i : Nat) : B64 ^ i = 2 ^ (64 * i) := by rw [Nat.pow_mul]; rfl
theorem pow_Big {i : Nat} (h : i < 262144) : 1 * 2 ^ i < Big := by
  rw [Nat.one_mul]
  rw [show Big = 2 ^ (64 * Most) from B64_pw Most]
  exact Nat.pow_lt_pow_right (by decide) h
set_option maxHeartbeats 1000000 in
theorem R2SetBit_ok (A : Option Addr) (n c : Nat) (xs : List Nat) (i : Nat) (b : Bool) (w : World) (hn : n ≤ 4096) (hi : i < 262144) (hx : Sl w A n c xs) :
    Calls Try.prog 41 #[.slice A n c, .int .i64 i, .bool b] w fun e w' => Rv w w' e (setOf (V xs) i b) := by
  have Hx := Lib.hid hx
  have HP := Lib.hid (pow_Big hi)
  have HL := Lib.hid (fun h => bitOf_le (x := V xs) (i := i) h)
  have HI := Lib.hid hi
  clear hx hi
  go_enter Try.func41, Try.ntmps41
  go_wp2_with (fail)
  refine (RFromWord_ok 1 w (by decide)).mono ?_
  rintro e w1 hR1
  obtain ⟨A1, n1, c1, zs1, rfl, h1⟩ := hR1.open (Big_of (k := 1) (by decide) (by omega))
  have H1 := Lib.hid h1
  clear h1 hR1
  go_wp2_with (fail)
  refine (R2Left_ok A1 n1 c1 zs1 i w1 H1.out.2.2.2.1 (by have := HI.out; omega) H1.out.1).mono ?_
  rintro e w2 hR2
  rw [H1.out.2.2.1] at hR2
  obtain ⟨A2, n2, c2, zs2, rfl, h2⟩ := hR2.open HP.out
  have H2 := Lib.hid (And.intro (h2.from H1.out.bel) (Hx.out.below (h2.from H1.out.bel).bel))
  clear h2 hR2 H1
  cases b
  · go_wp2_with (fail)
    refine (R2Bit_ok A n c xs i w2 (by omega) (by have := HI.out; omega) H2.out.2).mono ?_
    rintro e w3 ⟨rfl, hb3⟩
    have H3 := Lib.hid (H2.out.1.keep hb3)
    have HX := Lib.hid (H2.out.2.below hb3)
    clear hb3 H2
    obtain ⟨d, hd⟩ : ∃ d, bitOf (V xs) (i : Int) = d := ⟨_, rfl⟩
    have HD := Lib.hid hd
    rw [hd]
    clear hd
    cases d
    · go_wp2_with (fail)
      refine (RTrim_ok A n c xs w3 hn HX.out).mono ?_
      rintro e w4 hR
      obtain ⟨v, rfl, h7, hb7⟩ := hR.from H3.out.bel
      rw [show V xs = setOf (V xs) i false by unfold setOf; rw [if_pos HD.out]] at h7
      have H7 := Lib.hid (And.intro h7 hb7)
      clear h7 hb7 hR
      go_wp2_with (fail)
      go_ret
      exact ⟨v, rfl, H7.out.1, H7.out.2⟩
    · go_wp2_with (fail)
      refine (RNSub_ok A A2 n n2 c c2 xs zs2 w3 hn H3.out.2.2.2.1 HX.out H3.out.1 (by rw [H3.out.2.2.1, Nat.one_mul]; exact HL.out HD.out)).mono ?_
      rintro e w4 hR
      obtain ⟨v, rfl, h7, hb7⟩ := hR.from H3.out.bel
      rw [show V xs - V zs2 = setOf (V xs) i false by unfold setOf; rw [HD.out, H3.out.2.2.1, Nat.one_mul]; simp] at h7
      have H7 := Lib.hid (And.intro h7 hb7)
      clear h7 hb7 hR
      go_wp2_with (fail)
      go_ret
      exact ⟨v, rfl, H7.out.1, H7.out.2⟩
  · go_wp2_with (fail)
    refine (R2Bit_ok A n c xs i w2 (by omega) (by have := HI.out; omega) H2.out.2).mono ?_
    rintro e w3 ⟨rfl, hb3⟩
    have H3 := Lib.hid (H2.out.1.keep hb3)
    have HX := Lib.hid (H2.out.2.below hb3)
    clear hb3 H2
    obtain ⟨d, hd⟩ : ∃ d, bitOf (V xs) (i : Int) = d := ⟨_, rfl⟩
    have HD := Lib.hid hd
    rw [hd]
    clear hd
    cases d
    · go_wp2_with (fail)
      refine (RNAdd_ok A A2 n n2 c c2 xs zs2 w3 hn H3.out.2.2.2.1 HX.out H3.out.1).mono ?_
      rintro e w4 hR
      obtain ⟨v, rfl, h7, hb7⟩ := hR.from H3.out.bel
      rw [show V xs + V zs2 = setOf (V xs) i true by unfold setOf; rw [HD.out, H3.out.2.2.1, Nat.one_mul]; simp] at h7
      have H7 := Lib.hid (And.intro h7 hb7)
      clear h7 hb7 hR
      go_wp2_with (fail)
      go_ret
      exact ⟨v, rfl, H7.out.1, H7.out.2⟩
    · go_wp2_with (fail)
      refine (RTrim_ok A n c xs w3 hn HX.out).mono ?_
      rintro e w4 hR
      obtain ⟨v, rfl, h7, hb7⟩ := hR.from H3.out.bel
      rw [show V xs = setOf (V xs) i true by unfold setOf; rw [if_pos HD.out]] at h7
      have H7 := Lib.hid (And.intro h7 hb7)
      clear h7 hb7 hR
      go_wp2_with (fail)
      go_ret
      exact ⟨v, rfl, H7.out.1, H7.out.2⟩
end Go.Proofs.Ytalcikmngglplaa

namespace Go.Proofs.Ytalcikmngglplaa
open Go.RowKit Go.Shelf
set_option linter.unusedVariables false
set_option maxRecDepth 10000

/-- a slice of numbers, the rows xss -/
def Nl (w : World) (A : Option Addr) (m c : Nat) (ls : List (Option Addr × Nat × Nat)) (xss : List (List Nat)) : Prop :=
  ls.length = m ∧ Rd w w.heap.size A (svs ls) ∧ xss.length = m ∧ ∀ (i : Nat) (s : Option Addr × Nat × Nat) (xs : List Nat), ls[i]? = some s → xss[i]? = some xs → Sl w s.1 s.2.1 s.2.2 xs
theorem Nl.below {w w' : World} {A : Option Addr} {m c : Nat} {ls : List (Option Addr × Nat × Nat)} {xss : List (List Nat)} (h : Nl w A m c ls xss) (hb : Below w.heap.size w w') : Nl w' A m c ls xss :=
  ⟨h.1, (h.2.1.below hb).more hb.size, h.2.2.1, fun i s xs h1 h2 => (h.2.2.2 i s xs h1 h2).below hb⟩
/-- the sum of the first numbers -/
def total (xss : List (List Nat)) : Nat := (xss.map V).sum
theorem total_succ (xss : List (List Nat)) (k : Nat) (h : k < xss.length) : total (xss.take (k + 1)) = total (xss.take k) + V xss[k] := by
  simp only [total]
  rw [List.take_succ_eq_append_getElem h, List.map_append, List.sum_append]; simp
theorem sum_le_of_append (l r : List Nat) : l.sum ≤ (l ++ r).sum := by rw [List.sum_append]; omega
theorem total_le (xss : List (List Nat)) (k : Nat) : total (xss.take k) ≤ total xss := by
  have h := sum_le_of_append ((xss.take k).map V) ((xss.drop k).map V)
  rw [← List.map_append, List.take_append_drop] at h
  exact h

set_option maxHeartbeats 400000 in
theorem checkList_ok (ls : List (Option Addr × Nat × Nat)) (A : Option Addr) (m c : Nat) (w : World) (hl : ls.length = m) (hm : m ≤ 1000) (hr : Rd w w.heap.size A (svs ls)) :
    Calls Try.prog 87 #[.slice A m c] w fun e w' => e = .returned (.int .i64 (chkS ls)) ∧ w = w' := by
  have Hr := Lib.hid (And.intro hl hr)
  have hmi : ¬ (1000 : Int) < (m : Int) := by omega
  clear hl hr
  go_enter Try.func87, Try.ntmps87
  go_wp2_with (fail)
  refine (checkSizes_any ls A m c w Hr.out.1 (by omega) Hr.out.2).mono ?_
  rintro e w1 ⟨rfl, rfl⟩
  go_wp2_with (fail)
  go_ret
  exact ⟨rfl, rfl⟩
set_option maxHeartbeats 400000 in
theorem checkList_many (A : Option Addr) (m c : Nat) (w : World) (hm : 1000 < m) :
    Calls Try.prog 87 #[.slice A m c] w fun e w' => e = .returned (.int .i64 1) ∧ w = w' := by
  have hmi : (1000 : Int) < (m : Int) := by omega
  go_enter Try.func87, Try.ntmps87
  go_wp2_with (fail)
  go_ret
  exact ⟨rfl, rfl⟩
set_option maxHeartbeats 400000 in
theorem Sum_err {A : Option Addr} {m c : Nat} {E : Int} {w : World} (hE : (E == 0) = false)
    (H : Calls Try.prog 87 #[.slice A m c] w fun e w' => e = .returned (.int .i64 E) ∧ w = w') :
    Calls Try.prog 47 #[.slice A m c] w fun e w' => e = .returned (.tuple #[.slice none 0 0, .int .i64 E]) ∧ w = w' := by
  have Hc := Lib.hid H
  have hE2 : (E != 0) = true := by rw [bne, hE]; rfl
  clear H
  go_enter Try.func47, Try.ntmps47
  go_wp2_with (fail)
  refine Hc.out.mono ?_
  rintro e w1 ⟨rfl, rfl⟩
  go_wp2_with (fail)
  go_ret2
  exact ⟨rfl, rfl⟩
set_option maxHeartbeats 400000 in
theorem Product_err {A : Option Addr} {m c : Nat} {E : Int} {w : World} (hE : (E == 0) = false)
    (H : Calls Try.prog 87 #[.slice A m c] w fun e w' => e = .returned (.int .i64 E) ∧ w = w') :
    Calls Try.prog 48 #[.slice A m c] w fun e w' => e = .returned (.tuple #[.slice none 0 0, .int .i64 E]) ∧ w = w' := by
  have Hc := Lib.hid H
  have hE2 : (E != 0) = true := by rw [bne, hE]; rfl
  clear H
  go_enter Try.func48, Try.ntmps48
  go_wp2_with (fail)
  refine Hc.out.mono ?_
  rintro e w1 ⟨rfl, rfl⟩
  go_wp2_with (fail)
  go_ret2
  exact ⟨rfl, rfl⟩

theorem chkS_each {ls : List (Option Addr × Nat × Nat)} (h : chkS ls = 0) (k : Nat) (hk : k < ls.length) : ls[k].2.1 ≤ 4096 := by
  rcases Nat.lt_or_ge 4096 ls[k].2.1 with h1 | h1
  · have := anyS_get (fun s => decide (4096 < s.2.1)) ls k hk (by simpa using h1)
    simp [chkS, this] at h
  · exact h1
set_option maxHeartbeats 1000000 in
theorem joinAdd_ok (ls : List (Option Addr × Nat × Nat)) (A : Option Addr) (m c : Nat) (xss : List (List Nat)) (w : World) (hm : m ≤ 1000) (hk : chkS ls = 0) (hx : Nl w A m c ls xss) :
    Calls Try.prog 88 #[.func (.func 15) #[] #[], .slice none 0 0, .slice A m c] w fun e w' => Rs w w' e (total xss) := by
  have Hx := Lib.hid hx
  have Hk := Lib.hid hk
  clear hx hk
  go_enter Try.func88, Try.ntmps88
  go_wp2
  go_loopw [1, 9, 10, 11, 14] (fun zv _ _ _ iv wr => ∃ (k : Nat) (Az : Option Addr) (nz cz : Nat) (zs : List Nat), k ≤ m ∧ iv = .int .i64 k ∧ zv = .slice Az nz cz ∧ Hid (Nu w wr Az nz cz zs (total (xss.take k)))) (fun _ _ _ _ iv _ => m - (intOf iv).toNat)
  case atStart => exact ⟨0, none, 0, 0, [], Nat.zero_le _, rfl, rfl, ⟨rfl, by omega, by omega, Ws_nil, Rd.nil⟩, Cn_nil, rfl, by omega, Nt.nil _ _, Below.refl _ _⟩
  case round =>
    obtain ⟨k, Az, nz, cz, zs, hk, rfl, rfl, hH⟩ := hrel
    by_cases hlt : k < m
    · have hkl : k < ls.length := by rw [Hx.out.1]; exact hlt
      have hkx : k < xss.length := by rw [Hx.out.2.2.1]; exact hlt
      obtain ⟨b, o, rfl, _, hcx⟩ := (Hx.out.below hH.out.bel).2.1.at (svs_get (List.getElem?_eq_getElem hkl))
      have Hs := Lib.hid (And.intro ((Hx.out.below hH.out.bel).2.2.2 k _ _ (List.getElem?_eq_getElem hkl) (List.getElem?_eq_getElem hkx)) (And.intro (chkS_each Hk.out k hkl) (And.intro (total_succ xss k hkx) (total_le xss (k + 1)))))
      generalize ls[k] = z at *
      generalize xss[k] = xs at *
      obtain ⟨za, zn, zc⟩ := z
      have hki : (k : Int) < m := by omega
      clear hkl hkx
      go_wp2_with (fail)
      refine (NAdd_ok Az za nz zn cz zc zs xs wr hH.out.2.2.2.1 Hs.out.2.1 hH.out.1 Hs.out.1).mono ?_
      rintro e w1 hR
      obtain ⟨h1, hb1⟩ := hR.from hH.out.bel
      rw [hH.out.2.2.1, ← Hs.out.2.2.1] at h1
      rcases h1 with ⟨v, rfl, h2, h3⟩ | ⟨rfl, h3⟩
      · obtain ⟨A1, n1, c1, us, rfl, hN⟩ := Nu.of h2 hb1 h3
        have HN := Lib.hid hN
        clear hN h2 h3 hR hb1 hH Hs
        go_wp2_with (fail)
        go_roundw
        case rel => exact ⟨k + 1, A1, n1, c1, us, by omega, by go_num, rfl, HN⟩
        case measure => simp [intOf]; omega
      · have H3 := Lib.hid (And.intro (Nat.le_trans h3 Hs.out.2.2.2) hb1)
        clear h3 hb1 hR hH Hs
        go_wp2_with (fail)
        go_ret2
        exact ⟨.inr ⟨rfl, H3.out.1⟩, H3.out.2⟩
    · have hki : ¬ (k : Int) < m := by omega
      have hkm : k = m := by omega
      go_wp2_with (fail)
      go_ret2
      have h := hH.out
      rw [List.take_of_length_le (by rw [Hx.out.2.2.1]; omega)] at h
      exact ⟨.inl ⟨_, rfl, h.2.2.2.2.1, by rw [← h.2.2.1]; exact Big_of h.1.lt h.2.2.2.1⟩, h.bel⟩
set_option maxHeartbeats 1000000 in
theorem Sum_ok (ls : List (Option Addr × Nat × Nat)) (A : Option Addr) (m c : Nat) (xss : List (List Nat)) (w : World) (hm : m ≤ 1000) (hk : chkS ls = 0) (hx : Nl w A m c ls xss) :
    Calls Try.prog 47 #[.slice A m c] w fun e w' => Rs w w' e (total xss) := by
  have Hx := Lib.hid hx
  have Hk := Lib.hid hk
  clear hx hk
  go_enter Try.func47, Try.ntmps47
  go_wp2_with (fail)
  refine (checkList_ok ls A m c w Hx.out.1 hm Hx.out.2.1).mono ?_
  rintro e w1 ⟨rfl, rfl⟩
  rw [Hk.out]
  go_wp2_with (fail)
  refine (joinAdd_ok ls A m c xss w hm Hk.out Hx.out).mono ?_
  rintro e w1 ⟨h1, hb1⟩
  rcases h1 with ⟨v, rfl, h2, h3⟩ | ⟨rfl, h3⟩
  · have H := Lib.hid (And.intro h2 (And.intro h3 hb1))
    clear h2 h3 hb1
    go_wp2_with (fail)
    go_ret2
    exact ⟨.inl ⟨v, rfl, H.out.1, H.out.2.1⟩, H.out.2.2⟩
  · have H := Lib.hid (And.intro h3 hb1)
    clear h3 hb1
    go_wp2_with (fail)
    go_ret2
    exact ⟨.inr ⟨rfl, H.out.1⟩, H.out.2⟩
end Go.Proofs.Ytalcikmngglplaa

namespace Go.Proofs.Ytalcikmngglplaa
open Go.RowKit Go.Shelf
set_option linter.unusedVariables false
set_option maxRecDepth 10000

/-- the product of numbers -/
def prodl : List (List Nat) → Nat
  | [] => 1
  | xs :: l => V xs * prodl l
theorem prodl_append (l r : List (List Nat)) : prodl (l ++ r) = prodl l * prodl r := by
  induction l with
  | nil => simp [prodl]
  | cons x l ih => simp only [List.cons_append, prodl, ih, Nat.mul_assoc]
theorem prodl_succ (xss : List (List Nat)) (k : Nat) (h : k < xss.length) : prodl (xss.take (k + 1)) = prodl (xss.take k) * V xss[k] := by
  rw [List.take_succ_eq_append_getElem h, prodl_append]
  simp [prodl]
theorem prodl_pos (l : List (List Nat)) (h : ∀ xs ∈ l, 0 < V xs) : 0 < prodl l := by
  induction l with
  | nil => decide
  | cons x l ih => exact Nat.mul_pos (h x (List.mem_cons_self)) (ih fun xs hx => h xs (List.mem_cons_of_mem _ hx))
theorem prodl_le (xss : List (List Nat)) (h : ∀ xs ∈ xss, 0 < V xs) (k : Nat) : prodl (xss.take k) ≤ prodl xss := by
  have h1 := prodl_append (xss.take k) (xss.drop k)
  rw [List.take_append_drop] at h1
  rw [h1]
  exact Nat.le_mul_of_pos_right _ (prodl_pos _ fun xs hx => h xs (List.mem_of_mem_drop hx))
theorem prodl_zero (l : List (List Nat)) {k : Nat} {xs : List Nat} (h : l[k]? = some xs) (h0 : V xs = 0) : prodl l = 0 := by
  induction l generalizing k with
  | nil => simp at h
  | cons x l ih =>
    cases k with
    | zero => simp at h; subst h; rw [prodl, h0, Nat.zero_mul]
    | succ k => simp at h; rw [prodl, ih h, Nat.mul_zero]

set_option maxHeartbeats 1000000 in
theorem joinMul_ok (ls : List (Option Addr × Nat × Nat)) (A : Option Addr) (m c : Nat) (xss : List (List Nat)) (A0 : Option Addr) (n0 c0 : Nat) (zs0 : List Nat) (w0 w : World) (hm : m ≤ 1000) (hk : chkS ls = 0) (hp : ∀ xs ∈ xss, 0 < V xs)
    (h0 : Nu w0 w A0 n0 c0 zs0 1) (hx : Nl w A m c ls xss) :
    Calls Try.prog 88 #[.func (.func 22) #[] #[], .slice A0 n0 c0, .slice A m c] w fun e w' => Rs w0 w' e (prodl xss) := by
  have Hx := Lib.hid hx
  have Hk := Lib.hid hk
  have Hp := Lib.hid hp
  have H0 := Lib.hid h0
  clear hx hk hp h0
  go_enter Try.func88, Try.ntmps88
  go_wp2
  go_loopw [1, 9, 10, 11, 14] (fun zv _ _ _ iv wr => ∃ (k : Nat) (Az : Option Addr) (nz cz : Nat) (zs : List Nat), k ≤ m ∧ iv = .int .i64 k ∧ zv = .slice Az nz cz ∧ Hid (Nu w0 wr Az nz cz zs (prodl (xss.take k)) ∧ Below w.heap.size w wr)) (fun _ _ _ _ iv _ => m - (intOf iv).toNat)
  case atStart => exact ⟨0, A0, n0, c0, zs0, Nat.zero_le _, rfl, rfl, H0.out, Below.refl _ _⟩
  case round =>
    obtain ⟨k, Az, nz, cz, zs, hk, rfl, rfl, hH⟩ := hrel
    by_cases hlt : k < m
    · have hkl : k < ls.length := by rw [Hx.out.1]; exact hlt
      have hkx : k < xss.length := by rw [Hx.out.2.2.1]; exact hlt
      obtain ⟨b, o, rfl, _, hcx⟩ := (Hx.out.below hH.out.2).2.1.at (svs_get (List.getElem?_eq_getElem hkl))
      have Hs := Lib.hid (And.intro ((Hx.out.below hH.out.2).2.2.2 k _ _ (List.getElem?_eq_getElem hkl) (List.getElem?_eq_getElem hkx)) (And.intro (chkS_each Hk.out k hkl) (And.intro (prodl_succ xss k hkx) (prodl_le xss Hp.out (k + 1)))))
      generalize ls[k] = z at *
      generalize xss[k] = xs at *
      obtain ⟨za, zn, zc⟩ := z
      have hki : (k : Int) < m := by omega
      clear hkl hkx
      go_wp2_with (fail)
      refine (NMul_ok Az za nz zn cz zc zs xs wr hH.out.1.2.2.2.1 Hs.out.2.1 hH.out.1.1 Hs.out.1).mono ?_
      rintro e w1 hR
      have hb2 := hR.2
      obtain ⟨h1, hb1⟩ := hR.from hH.out.1.bel
      rw [hH.out.1.2.2.1, ← Hs.out.2.2.1] at h1
      rcases h1 with ⟨v, rfl, h2, h3⟩ | ⟨rfl, h3⟩
      · obtain ⟨A1, n1, c1, us, rfl, hN⟩ := Nu.of h2 hb1 h3
        have HN := Lib.hid (And.intro hN (hH.out.2.trans (hb2.mono hH.out.2.size)))
        clear hN h2 h3 hR hb1 hH Hs hb2
        go_wp2_with (fail)
        go_roundw
        case rel => exact ⟨k + 1, A1, n1, c1, us, by omega, by go_num, rfl, HN⟩
        case measure => simp [intOf]; omega
      · have H3 := Lib.hid (And.intro (Nat.le_trans h3 Hs.out.2.2.2) hb1)
        clear h3 hb1 hR hH Hs hb2
        go_wp2_with (fail)
        go_ret2
        exact ⟨.inr ⟨rfl, H3.out.1⟩, H3.out.2⟩
    · have hki : ¬ (k : Int) < m := by omega
      have hkm : k = m := by omega
      go_wp2_with (fail)
      go_ret2
      have h := hH.out.1
      rw [List.take_of_length_le (by rw [Hx.out.2.2.1]; omega)] at h
      exact ⟨.inl ⟨_, rfl, h.2.2.2.2.1, by rw [← h.2.2.1]; exact Big_of h.1.lt h.2.2.2.1⟩, h.bel⟩
theorem mem_pos {xss : List (List Nat)} (h : ∀ k, k < xss.length → ∀ xs, xss[k]? = some xs → 0 < V xs) : ∀ xs ∈ xss, 0 < V xs := fun xs hx => by
  obtain ⟨k, hk⟩ := List.getElem?_of_mem hx
  refine h k ?_ xs hk
  rcases Nat.lt_or_ge k xss.length with h1 | h1
  · exact h1
  · rw [List.getElem?_eq_none h1] at hk; cases hk
theorem one_Big : 1 < Big := Big_of (k := 1) (by decide) (by omega)
set_option maxHeartbeats 1000000 in
theorem Product_ok (ls : List (Option Addr × Nat × Nat)) (A : Option Addr) (m c : Nat) (xss : List (List Nat)) (w : World) (hm : m ≤ 1000) (hk : chkS ls = 0) (hx : Nl w A m c ls xss) :
    Calls Try.prog 48 #[.slice A m c] w fun e w' => Rs w w' e (prodl xss) := by
  have Hx := Lib.hid hx
  have Hk := Lib.hid hk
  clear hx hk
  go_enter Try.func48, Try.ntmps48
  go_wp2_with (fail)
  refine (checkList_ok ls A m c w Hx.out.1 hm Hx.out.2.1).mono ?_
  rintro e w1 ⟨rfl, rfl⟩
  rw [Hk.out]
  go_wp2_with (fail)
  go_loop [14] (fun iv => ∃ k : Nat, k ≤ m ∧ iv = .int .i64 k ∧ Hid (∀ j, j < k → ∀ xs, xss[j]? = some xs → 0 < V xs)) (fun iv => m - (intOf iv).toNat)
  case atStart => exact ⟨0, Nat.zero_le _, rfl, fun j h => by omega⟩
  case round =>
    obtain ⟨k, hk, rfl, hH⟩ := hrel
    by_cases hlt : k < m
    · have hkl : k < ls.length := by rw [Hx.out.1]; exact hlt
      have hkx : k < xss.length := by rw [Hx.out.2.2.1]; exact hlt
      obtain ⟨b, o, rfl, _, hcx⟩ := Hx.out.2.1.at (svs_get (List.getElem?_eq_getElem hkl))
      have Hs := Lib.hid (And.intro (Hx.out.2.2.2 k _ _ (List.getElem?_eq_getElem hkl) (List.getElem?_eq_getElem hkx)) (And.intro (chkS_each Hk.out k hkl) (List.getElem?_eq_getElem hkx)))
      generalize ls[k] = z at *
      generalize xss[k] = xs at *
      obtain ⟨za, zn, zc⟩ := z
      have hki : (k : Int) < m := by omega
      clear hkl hkx
      go_wp2_with (fail)
      have hz4 := Hs.out.2.1
      refine (used_ok za zn zc xs w (by omega) Hs.out.1).mono ?_
      rintro e w2 ⟨q, rfl, hq, hU, rfl⟩
      clear hz4
      rcases Nat.eq_zero_or_pos q with rfl | h1
      · have HZ := Lib.hid (prodl_zero xss Hs.out.2.2 (by rw [← hU.out.1]; simp [V]))
        go_wp2_with (fail)
        go_ret2
        refine ⟨.inl ⟨_, rfl, ?_, ?_⟩, Below.refl _ _⟩
        · rw [HZ.out]; exact Nt.nil _ _
        · rw [HZ.out]; exact Nat.pow_pos B64_pos
      · have hq0 : ((q : Int) == 0) = false := by simp; omega
        have hpos : 0 < V xs := by
          obtain ⟨t, rfl⟩ : ∃ t, q = t + 1 := ⟨q - 1, by omega⟩
          have h2 := V_ge hU.out.2 (show (xs.take (t + 1)).length = t + 1 by rw [List.length_take, Hs.out.1.1]; omega)
          rw [hU.out.1] at h2
          exact Nat.lt_of_lt_of_le (Nat.pow_pos B64_pos) h2
        have HN : Hid (∀ j, j < k + 1 → ∀ ys, xss[j]? = some ys → 0 < V ys) := fun j hj ys hy => by
          rcases Nat.lt_or_ge j k with h3 | h3
          · exact hH.out j h3 ys hy
          · obtain rfl : j = k := by omega
            rw [Hs.out.2.2] at hy
            injection hy with hy
            rw [← hy]; exact hpos
        clear hpos hH hU
        go_wp2_with (fail)
        go_round
        case rel => exact ⟨k + 1, by omega, by go_num, HN⟩
        case measure => simp [intOf]; omega
    · have hki : ¬ (k : Int) < m := by omega
      have Hp := Lib.hid (mem_pos (xss := xss) fun j hj xs hxs => hH.out j (by rw [Hx.out.2.2.1] at hj; omega) xs hxs)
      clear hH
      go_wp2_with (fail)
      refine (NFromWord_ok 1 w (by decide)).mono ?_
      rintro e w3 hR
      obtain ⟨A1, n1, c1, zs1, rfl, h1⟩ := hR.open one_Big
      have H1 := Lib.hid (And.intro h1 (Hx.out.below h1.bel))
      clear h1 hR
      go_wp2_with (fail)
      refine (joinMul_ok ls A m c xss A1 n1 c1 zs1 w w3 hm Hk.out Hp.out H1.out.1 H1.out.2).mono ?_
      rintro e w4 ⟨h1, hb1⟩
      rcases h1 with ⟨v, rfl, h2, h3⟩ | ⟨rfl, h3⟩
      · have H := Lib.hid (And.intro h2 (And.intro h3 hb1))
        clear h2 h3 hb1
        go_wp2_with (fail)
        go_ret2
        exact ⟨.inl ⟨v, rfl, H.out.1, H.out.2.1⟩, H.out.2.2⟩
      · have H := Lib.hid (And.intro h3 hb1)
        clear h3 hb1
        go_wp2_with (fail)
        go_ret2
        exact ⟨.inr ⟨rfl, H.out.1⟩, H.out.2⟩
end Go.Proofs.Ytalcikmngglplaa

namespace Go.Proofs.Ytalcikmngglplaa
open Go.RowKit Go.Shelf
set_option linter.unusedVariables false
set_option maxRecDepth 10000

/-- append of one new block, elements of one cell and whatever number of bytes -/
theorem wpList_append_at {P : Program} (w : World) {ops : Array Oper} {rest : List Oper} {o : Oper} {a : Act} {Q : Exit → Act → World → Prop} (hgd : o.guard = none) (s x : Operand) (t : TypeId)
    (ho : o.op = .call { callee := .builtin .append, args := #[s, x], argTypes := #[t, t] })
    (base : Nat) (e : TypeId) (i : TypeInfo) (z : Value) (bytes : Nat) (ht : P.underlying t = some (.slice e)) (hi : P.info? e = some i) (hz : i.zero = some z)
    (hsize : i.size = 1) (hby : i.bytes = bytes) (hzs : z.cells.size = 1)
    (v : Value) (n : Nat) (xs : List Value) (hs : a.eval s = v) (hown : w.ownsRow base e 1 v n xs)
    (B : Nat) (A : Option Addr) (m c : Nat) (news : List Value) (hx : a.eval x = .slice A m c) (hm : news.length = m) (hr : Rd w B A news) (h0 : 0 < m) (h1 : ∀ u ∈ news, u.oneCell' = true)
    (h63 : n + m ≤ maxLen) (hbytes : (n + m) * bytes ≤ 140737488355328) (hbase : base ≤ w.heap.size)
    (h : ∀ v' w', w'.ownsRow base e 1 v' (n + m) (xs ++ news) → w.grownBy w' v.ownBlock → (v'.ownBlock = v.ownBlock ∨ v'.ownBlock = some w.heap.size) → wpList P ops Q rest (a.put o.dst v') w') : wpList P ops Q (o :: rest) a w := by
  refine wpList_plain hgd fun K hK => ?_
  obtain ⟨b, of, rfl, _, hc⟩ := hr (by rintro rfl; simp at hm; omega)
  obtain ⟨v', w', hrun, h2, h3, _, h5⟩ := run_append_own_at (P := P) w base t o.type e i z 1 bytes ht hi hz hsize hby hzs (by decide) v n xs hown ⟨b, of, none⟩ m c news (by omega) (fun j u hu => by rw [Addr.add_lit]; exact hc j u hu) h1 h63 hbytes hbase
  unfold Oper.wp execOp
  simp only [ho, resolve, invoke, builtin, Sem.run_bind, Sem.run_pure, Result.andThen_ok, List.map_toArray, List.map_cons, List.map_nil, hs, hx, hrun]
  exact hK _ _ (h v' w' h2 h3 h5)
theorem infoNat : (Try.prog.info? 23).map (fun i => (i.zero, i.size, i.bytes)) = some (some (.slice none 0 0), 1, 24) := by kernel_rfl
theorem Sl.grown {w w' : World} {row : Option Nat} {A : Option Addr} {n c : Nat} {xs : List Nat} (h : Sl w A n c xs) (hg : w.grownBy w' row) (hne : ∀ a, A = some a → some a.block ≠ row) : Sl w' A n c xs :=
  ⟨h.1, h.2.1, h.2.2.1, h.2.2.2.1, fun hx => by
    obtain ⟨b, o, e, hb, hc⟩ := h.2.2.2.2 hx
    exact ⟨b, o, e, Nat.lt_of_lt_of_le hb hg.size, fun j u hu => hg.cell (hc j u hu) (show some b ≠ row from hne ⟨b, o, none⟩ e)⟩⟩
theorem svs_append (a b : List (Option Addr × Nat × Nat)) : svs (a ++ b) = svs a ++ svs b := List.map_append
/-- what the list's loop keeps: v is the list so far -/
def LiI (w : World) (v : Value) (k most : Nat) (ls : List (Option Addr × Nat × Nat)) (xss : List (List Nat)) (W : World) : Prop :=
  ls.length = k ∧ xss.length = k ∧ (∀ (i : Nat) (s : Option Addr × Nat × Nat) (xs : List Nat), ls[i]? = some s → xss[i]? = some xs → Sl W s.1 s.2.1 s.2.2 xs ∧ s.2.1 ≤ most ∧ ∀ a, s.1 = some a → a.block < W.heap.size ∧ some a.block ≠ v.ownBlock) ∧ Below w.heap.size w W
theorem Nw.fresh {w w' : World} {A : Option Addr} {n c : Nat} {zs : List Nat} (h : Nw w w' (.slice A n c) n zs) : ∀ a, A = some a → w.heap.size ≤ a.block ∧ a.block < w'.heap.size := fun a e => by
  have := h.2.2.lt a.block (by rw [e]; rfl)
  exact this
/-- a list of at most 20 numbers of at most 8 words -/
def LiR (w' : World) (A : Option Addr) (m c : Nat) : Prop := ∃ ls xss, Nl w' A m c ls xss ∧ ∀ s ∈ ls, s.2.1 ≤ 8
set_option maxHeartbeats 2000000 in
theorem list_ok (A : Option Addr) (n c : Nat) (ls : List (Option Addr × Nat × Nat)) (xss : List (List Nat)) (w : World) (hn : n ≤ 9223372036854775807) (hx : Nl w A n c ls xss) :
    Calls Try.prog 46 #[.slice A n c, .int .i64 20, .int .i64 8] w fun e w' => ∃ A' m c', e = .returned (.slice A' m c') ∧ m ≤ 20 ∧ LiR w' A' m c' ∧ Below w.heap.size w w' := by
  obtain ⟨i0, hi, hz0, hz1, hz2⟩ := info_parts infoNat
  have Hx := Lib.hid hx
  clear hx
  go_enter Try.func46, Try.ntmps46
  go_wp2
  go_loopw [7, 8] (fun v i wr => ∃ (k : Nat) (ls' : List (Option Addr × Nat × Nat)) (xss' : List (List Nat)), k ≤ 20 ∧ k ≤ n ∧ i = .int .i64 k ∧ wr.ownsRow w.heap.size 23 1 v k (svs ls') ∧ Hid (LiI w v k 8 ls' xss' wr)) (fun _ i _ => 20 - (intOf i).toNat)
  case atStart => exact ⟨0, [], [], by omega, by omega, rfl, World.ownsRow_nil _ _ _ _, rfl, rfl, fun i s xs h => by simp at h, Below.refl _ _⟩
  case round =>
    obtain ⟨k, ls', xss', hk, hkn, rfl, hown, hH⟩ := hrel
    by_cases hlt : k < n ∧ k < 20
    · obtain ⟨hlt, hlt2⟩ := hlt
      have hki : (k : Int) < n := by omega
      have hki2 : (k : Int) < 20 := by omega
      have hkl : k < ls.length := by rw [Hx.out.1]; exact hlt
      have hkx : k < xss.length := by rw [Hx.out.2.2.1]; exact hlt
      obtain ⟨b, o, rfl, _, hcx⟩ := (Hx.out.below hH.out.2.2.2).2.1.at (svs_get (List.getElem?_eq_getElem hkl))
      have Hs := Lib.hid ((Hx.out.below hH.out.2.2.2).2.2.2 k _ _ (List.getElem?_eq_getElem hkl) (List.getElem?_eq_getElem hkx))
      generalize ls[k] = z at *
      generalize xss[k] = xs at *
      obtain ⟨za, zn, zc⟩ := z
      clear hkl hkx
      obtain ⟨A1, c1, rfl, _⟩ := own_form hown
      go_wp2_with (fail)
      refine (nfew_ok za zn zc 8 xs wr Hs.out (by omega)).mono ?_
      rintro e w1 ⟨v2, rfl, hN, hb1⟩
      obtain ⟨A2, c2, rfl, hs2⟩ := hN.sl
      have hfr := hN.fresh
      have hown1 := own_below hown hb1 (Nat.le_refl _)
      have hsz := Nat.le_trans hH.out.2.2.2.size hb1.size
      have hm8 : min 8 zn ≤ 8 := Nat.min_le_left _ _
      obtain ⟨q, hq⟩ : ∃ q, min 8 zn = q := ⟨_, rfl⟩
      rw [hq] at hN hs2 hm8 ⊢
      clear hq
      have H1 := Lib.hid (And.intro hs2 (And.intro hfr (And.intro hb1 hm8)))
      clear hs2 hfr hb1 hN
      go_wp2_with (at_builtin; refine wpList_append_at _ rfl _ _ 50 rfl w.heap.size 23 i0 (.slice none 0 0) 24 Try.underlying50 hi hz0 hz1 hz2 rfl (.slice A1 k c1) k _ rfl (hown1.alloc _) _ (some ⟨w1.heap.size, 0, none⟩) 1 1 [.slice A2 q c2] rfl rfl (Rd.one _ _ _) (by omega) (by simp [Value.oneCell']) (by unfold maxLen; omega) (by omega) (by simp; omega) ?_)
      intro v3 w3 hown3 hgrow hblk
      have hb3 : Below w.heap.size w w3 := ((hH.out.2.2.2.trans (H1.out.2.2.1.mono hH.out.2.2.2.size)).alloc hsz _).grown hgrow (by simp; omega) (fun j hj => (hown1.lt j hj).1)
      have hold : ∀ j, (Value.slice A1 k c1).ownBlock = some j → j < wr.heap.size := fun j hj => (hown.lt j hj).2
      have HN : Hid (LiI w v3 (k + 1) 8 (ls' ++ [(A2, q, c2)]) (xss' ++ [xs.take 8]) w3) := by
        obtain ⟨g1, g2, g3, g4⟩ := hH.out
        obtain ⟨f1, f2, f3, f4⟩ := H1.out
        refine ⟨by simp [g1], by simp [g2], fun i s ys e1 e2 => ?_, hb3⟩
        have hw1s : wr.heap.size ≤ w1.heap.size := f3.size
        have hw3s : w1.heap.size + 1 ≤ w3.heap.size := by have := hgrow.size; simpa using this
        have hal : ∀ {s : Option Addr × Nat × Nat} {ys : List Nat}, Sl w1 s.1 s.2.1 s.2.2 ys → Sl (w1.alloc (.cells #[.slice A2 q c2] 23)) s.1 s.2.1 s.2.2 ys := fun h => h.below ((Below.refl _ _).alloc (Nat.le_refl _) _)
        have hlow : ∀ b : Nat, b < w1.heap.size → some b ≠ (Value.slice A1 k c1).ownBlock → some b ≠ v3.ownBlock := fun b h1 h2 e => by
          rcases hblk with h | h
          · exact h2 (e.trans h)
          · rw [h] at e; injection e with e; omega
        rcases Nat.lt_or_ge i k with hik | hik
        · rw [List.getElem?_append_left (by omega)] at e1 e2
          obtain ⟨h1, h2, h3⟩ := g3 i s ys e1 e2
          refine ⟨(hal (h1.below f3)).grown hgrow fun a ea => (h3 a ea).2, h2, fun a ea => ?_⟩
          obtain ⟨h4, h5⟩ := h3 a ea
          exact ⟨by omega, hlow _ (by omega) h5⟩
        · have hik2 : i = k := by
            have := (List.getElem?_eq_some_iff.1 e1).1
            simp [g1] at this
            omega
          subst hik2
          rw [List.getElem?_append_right (by omega), g1, Nat.sub_self] at e1
          rw [List.getElem?_append_right (by omega), g2, Nat.sub_self] at e2
          simp at e1 e2
          subst e1 e2
          have hne : ∀ a, A2 = some a → some a.block ≠ (Value.slice A1 i c1).ownBlock := fun a ea e => by
            have := f2 a ea
            have := hold _ e.symm
            omega
          refine ⟨(hal (s := (A2, q, c2)) f1).grown hgrow hne, f4, fun a ea => ?_⟩
          have := f2 a ea
          exact ⟨by omega, hlow _ (by omega) (hne a ea)⟩
      have hown4 : w3.ownsRow w.heap.size 23 1 v3 (k + 1) (svs (ls' ++ [(A2, q, c2)])) := by rw [svs_append]; exact hown3
      clear hown hown1 hown3 hgrow hblk hb3 hold H1 hH hsz hm8 Hs
      go_wp2_with (fail)
      go_roundw
      case rel => exact ⟨k + 1, _, _, by omega, by omega, by go_num, hown4, HN⟩
      case measure => simp [intOf]; omega
    · have hcs : ¬ (k : Int) < n ∨ ((k : Int) < n ∧ ¬ (k : Int) < 20) := by omega
      obtain ⟨A1, c1, rfl, _, _, _, hrd⟩ := own_form hown
      have H1 := Lib.hid (And.intro hrd hH.out)
      clear hown hH hlt hrd
      rcases hcs with h1 | ⟨h1, h2⟩
      all_goals
        go_wp2_with (fail)
        go_ret
        obtain ⟨f1, g1, g2, g3, g4⟩ := H1.out
        refine ⟨A1, k, c1, rfl, hk, ⟨ls', xss', ⟨g1, f1, g2, fun i s xs e1 e2 => (g3 i s xs e1 e2).1⟩, fun s hs => ?_⟩, g4⟩
        obtain ⟨i, hi⟩ := List.getElem?_of_mem hs
        have hil := (List.getElem?_eq_some_iff.1 hi).1
        exact (g3 i s _ hi (List.getElem?_eq_getElem (show i < xss'.length by omega))).2.1
theorem Nl.lt {w : World} {A : Option Addr} {m c : Nat} {ls : List (Option Addr × Nat × Nat)} {xss : List (List Nat)} (hx : Nl w A m c ls xss) (h8 : ∀ s ∈ ls, s.2.1 ≤ 8) {i : Nat} (hi : i < m) : V (xss[i]'(by rw [hx.2.2.1]; exact hi)) < B64 ^ 8 := by
  have hil : i < ls.length := by rw [hx.1]; exact hi
  have hs := hx.2.2.2 i ls[i] _ (List.getElem?_eq_getElem hil) (List.getElem?_eq_getElem (by rw [hx.2.2.1]; exact hi))
  exact Nat.lt_of_lt_of_le hs.lt (Nat.pow_le_pow_right B64_pos (h8 _ (List.getElem_mem hil)))
theorem total_Big {w : World} {A : Option Addr} {m c : Nat} {ls : List (Option Addr × Nat × Nat)} {xss : List (List Nat)} (hx : Nl w A m c ls xss) (h8 : ∀ s ∈ ls, s.2.1 ≤ 8) (hm : m ≤ 20) {k : Nat} (hk : k ≤ m) : total (xss.take k) < Big := by
  have h : total (xss.take k) ≤ k * B64 ^ 8 := by
    induction k with
    | zero => simp [total]
    | succ k ih =>
      have hkx : k < xss.length := by rw [hx.2.2.1]; omega
      rw [total_succ xss k hkx, Nat.succ_mul]
      have := ih (by omega)
      have := hx.lt h8 (show k < m by omega)
      omega
  refine Big_of (k := 9) (Nat.lt_of_le_of_lt h ?_) (by omega)
  rw [show B64 ^ 9 = B64 ^ 8 * B64 from rfl, Nat.mul_comm]
  exact Nat.mul_lt_mul_of_pos_left (Nat.lt_of_le_of_lt (show k ≤ 20 by omega) (by decide)) (Nat.pow_pos B64_pos)
theorem prodl_Big {w : World} {A : Option Addr} {m c : Nat} {ls : List (Option Addr × Nat × Nat)} {xss : List (List Nat)} (hx : Nl w A m c ls xss) (h8 : ∀ s ∈ ls, s.2.1 ≤ 8) (hm : m ≤ 20) {k : Nat} (hk : k ≤ m) : prodl (xss.take k) < Big := by
  have h : prodl (xss.take k) < B64 ^ (8 * k + 1) := by
    induction k with
    | zero => exact (by decide : 1 < B64 ^ 1)
    | succ k ih =>
      have hkx : k < xss.length := by rw [hx.2.2.1]; omega
      rw [prodl_succ xss k hkx, show 8 * (k + 1) + 1 = 8 * k + 1 + 8 by omega, Nat.pow_add]
      exact Nat.mul_lt_mul'' (ih (by omega)) (hx.lt h8 (show k < m by omega))
  exact Big_of h (by omega)
set_option maxHeartbeats 1000000 in
theorem R2Sum_ok (A : Option Addr) (m c : Nat) (ls : List (Option Addr × Nat × Nat)) (xss : List (List Nat)) (w : World) (hm : m ≤ 20) (hx : Nl w A m c ls xss) (h8 : ∀ s ∈ ls, s.2.1 ≤ 8) :
    Calls Try.prog 49 #[.slice A m c] w fun e w' => Rv w w' e (total xss) := by
  have Hx := Lib.hid hx
  have H8 := Lib.hid h8
  clear hx h8
  go_enter Try.func49, Try.ntmps49
  go_wp2
  go_loopw [3, 4] (fun zv iv wr => ∃ (k : Nat) (Az : Option Addr) (nz cz : Nat) (zs : List Nat), k ≤ m ∧ iv = .int .i64 k ∧ zv = .slice Az nz cz ∧ Hid (Nu w wr Az nz cz zs (total (xss.take k)))) (fun _ iv _ => m - (intOf iv).toNat)
  case atStart => exact ⟨0, none, 0, 0, [], Nat.zero_le _, rfl, rfl, ⟨rfl, by omega, by omega, Ws_nil, Rd.nil⟩, Cn_nil, rfl, by omega, Nt.nil _ _, Below.refl _ _⟩
  case round =>
    obtain ⟨k, Az, nz, cz, zs, hk, rfl, rfl, hH⟩ := hrel
    by_cases hlt : k < m
    · have hkl : k < ls.length := by rw [Hx.out.1]; exact hlt
      have hkx : k < xss.length := by rw [Hx.out.2.2.1]; exact hlt
      obtain ⟨b, o, rfl, _, hcx⟩ := (Hx.out.below hH.out.bel).2.1.at (svs_get (List.getElem?_eq_getElem hkl))
      have Hs := Lib.hid (And.intro ((Hx.out.below hH.out.bel).2.2.2 k _ _ (List.getElem?_eq_getElem hkl) (List.getElem?_eq_getElem hkx)) (And.intro (H8.out _ (List.getElem_mem hkl)) (And.intro (total_succ xss k hkx) (total_Big Hx.out H8.out hm (show k + 1 ≤ m by omega)))))
      generalize ls[k] = z at *
      generalize xss[k] = xs at *
      obtain ⟨za, zn, zc⟩ := z
      have hki : (k : Int) < m := by omega
      have hz8 : zn ≤ 8 := Hs.out.2.1
      clear hkl hkx
      go_wp2_with (fail)
      refine (RNAdd_ok Az za nz zn cz zc zs xs wr hH.out.2.2.2.1 (by omega) hH.out.1 Hs.out.1).mono ?_
      rintro e w1 hR
      rw [hH.out.2.2.1, ← Hs.out.2.2.1] at hR
      obtain ⟨A1, n1, c1, us, rfl, hN⟩ := hR.open Hs.out.2.2.2
      have HN := Lib.hid (hN.from hH.out.bel)
      clear hN hR hH Hs hz8
      go_wp2_with (fail)
      go_roundw
      case rel => exact ⟨k + 1, A1, n1, c1, us, by omega, by go_num, rfl, HN⟩
      case measure => simp [intOf]; omega
    · have hki : ¬ (k : Int) < m := by omega
      have hkm : k = m := by omega
      have h := hH.out
      rw [hkm, List.take_of_length_le (by rw [Hx.out.2.2.1]; omega)] at h
      have H := Lib.hid h
      clear h hH
      go_wp2_with (fail)
      go_ret
      exact ⟨_, rfl, H.out.2.2.2.2.1, H.out.bel⟩
set_option maxHeartbeats 1000000 in
theorem R2Product_ok (A : Option Addr) (m c : Nat) (ls : List (Option Addr × Nat × Nat)) (xss : List (List Nat)) (w : World) (hm : m ≤ 20) (hx : Nl w A m c ls xss) (h8 : ∀ s ∈ ls, s.2.1 ≤ 8) :
    Calls Try.prog 50 #[.slice A m c] w fun e w' => Rv w w' e (prodl xss) := by
  have Hx := Lib.hid hx
  have H8 := Lib.hid h8
  clear hx h8
  go_enter Try.func50, Try.ntmps50
  go_wp2_with (fail)
  refine (RFromWord_ok 1 w (by decide)).mono ?_
  rintro e w1 hR1
  obtain ⟨A0, n0, c0, zs0, rfl, h1⟩ := hR1.open one_Big
  have H0 := Lib.hid h1
  clear h1 hR1
  go_wp2_with (fail)
  go_loopw [3, 4] (fun zv iv wr => ∃ (k : Nat) (Az : Option Addr) (nz cz : Nat) (zs : List Nat), k ≤ m ∧ iv = .int .i64 k ∧ zv = .slice Az nz cz ∧ Hid (Nu w wr Az nz cz zs (prodl (xss.take k)))) (fun _ iv _ => m - (intOf iv).toNat)
  case atStart => exact ⟨0, A0, n0, c0, zs0, Nat.zero_le _, rfl, rfl, H0.out⟩
  case round =>
    obtain ⟨k, Az, nz, cz, zs, hk, rfl, rfl, hH⟩ := hrel
    by_cases hlt : k < m
    · have hkl : k < ls.length := by rw [Hx.out.1]; exact hlt
      have hkx : k < xss.length := by rw [Hx.out.2.2.1]; exact hlt
      obtain ⟨b, o, rfl, _, hcx⟩ := (Hx.out.below hH.out.bel).2.1.at (svs_get (List.getElem?_eq_getElem hkl))
      have Hs := Lib.hid (And.intro ((Hx.out.below hH.out.bel).2.2.2 k _ _ (List.getElem?_eq_getElem hkl) (List.getElem?_eq_getElem hkx)) (And.intro (H8.out _ (List.getElem_mem hkl)) (And.intro (prodl_succ xss k hkx) (prodl_Big Hx.out H8.out hm (show k + 1 ≤ m by omega)))))
      generalize ls[k] = z at *
      generalize xss[k] = xs at *
      obtain ⟨za, zn, zc⟩ := z
      have hki : (k : Int) < m := by omega
      have hz8 : zn ≤ 8 := Hs.out.2.1
      clear hkl hkx
      go_wp2_with (fail)
      refine (RNMul_ok Az za nz zn cz zc zs xs wr hH.out.2.2.2.1 (by omega) hH.out.1 Hs.out.1).mono ?_
      rintro e w1 hR
      rw [hH.out.2.2.1, ← Hs.out.2.2.1] at hR
      obtain ⟨A1, n1, c1, us, rfl, hN⟩ := hR.open Hs.out.2.2.2
      have HN := Lib.hid (hN.from hH.out.bel)
      clear hN hR hH Hs hz8
      go_wp2_with (fail)
      go_roundw
      case rel => exact ⟨k + 1, A1, n1, c1, us, by omega, by go_num, rfl, HN⟩
      case measure => simp [intOf]; omega
    · have hki : ¬ (k : Int) < m := by omega
      have hkm : k = m := by omega
      have h := hH.out
      rw [hkm, List.take_of_length_le (by rw [Hx.out.2.2.1]; omega)] at h
      have H := Lib.hid h
      clear h hH
      go_wp2_with (fail)
      go_ret
      exact ⟨_, rfl, H.out.2.2.2.2.1, H.out.bel⟩
end Go.Proofs.Ytalcikmngglplaa
