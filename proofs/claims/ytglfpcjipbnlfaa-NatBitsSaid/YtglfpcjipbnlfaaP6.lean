/- Pieces of the proofs, together: NLow, NBit, NSet, RSet, Jn, Joint, NBig, RJoin, NJoin, NMany, NProd. -/
import Derived.Laws.BitsAllLaws
import Derived.Laws.Bits64
import Derived.Laws.Bits64b
import Derived.Maps.OwnOps
import Derived.WalkMore
import Derived.Deep.RegionHeld3
import Derived.Test.YtglfpcjipbnlfaaP4
import Derived.Test.YtglfpcjipbnlfaaP2
import Derived.Test.YtglfpcjipbnlfaaP1

namespace Go.Proofs.Ytglfpcjipbnlfaa
open Go.RowKit Go.Shelf
set_option linter.unusedVariables false
set_option linter.unusedSimpArgs false
set_option maxRecDepth 10000

theorem take_set (xs : List Nat) (q y z : Nat) (h : xs[q]? = some y) : (xs.take (q + 1)).set q z = xs.take q ++ [z] := by
  have hl : q < xs.length := by
    rcases Nat.lt_or_ge q xs.length with h1 | h1
    · exact h1
    · rw [List.getElem?_eq_none h1] at h; cases h
  rw [List.take_add_one, h]
  have : (xs.take q).length = q := by rw [List.length_take]; omega
  simp only [Option.toList_some]
  rw [List.set_append_right _ _ (by omega), this]
  simp
/-- what a row leaves by 2^s -/
theorem low_value {xs : List Nat} (hw : Ws xs) {q r s y : Nat} (hy : xs[q]? = some y) (hs : s = 64 * q + r) (hr : r ≤ 63) : V ((xs.take (q + 1)).set q (y % 2 ^ r)) = V xs % 2 ^ s := by
  have hl : q < xs.length := by
    rcases Nat.lt_or_ge q xs.length with h1 | h1
    · exact h1
    · rw [List.getElem?_eq_none h1] at hy; cases hy
  have hq : (xs.take q).length = q := by rw [List.length_take]; omega
  rw [take_set _ _ _ _ hy, V_snoc, hq, hs, Nat.pow_add, Nat.pow_mul, show (2 : Nat) ^ 64 = B64 from rfl, Nat.mod_mul, ← V_dropped hw (by omega), V_drop _ _ _ hy]
  have h1 := V_split xs q (by omega)
  have h2 := V_lt _ (Ws_take hw q)
  rw [hq] at h2
  have h3 : V xs % B64 ^ q = V (xs.take q) := by rw [h1, Nat.add_mul_mod_self_right, Nat.mod_eq_of_lt h2]
  have h4 : (y + B64 * V (xs.drop (q + 1))) % 2 ^ r = y % 2 ^ r := by
    have hB : B64 = 2 ^ r * 2 ^ (64 - r) := by
      rw [← Nat.pow_add, show r + (64 - r) = 64 by omega]; rfl
    rw [hB, Nat.mul_assoc, Nat.add_mul_mod_self_left]
  rw [h3, h4, Nat.mul_comm]
theorem low_all {xs : List Nat} (hw : Ws xs) {n q r s : Nat} (hn : xs.length = n) (hs : s = 64 * q + r) (h : n ≤ q) : V xs = V xs % 2 ^ s := by
  rw [Nat.mod_eq_of_lt]
  refine Nat.lt_of_lt_of_le (V_lt _ hw) ?_
  rw [hs, Nat.pow_add, Nat.pow_mul, show (2 : Nat) ^ 64 = B64 from rfl, hn]
  exact Nat.le_trans (Nat.pow_le_pow_right B64_pos h) (Nat.le_mul_of_pos_right _ (Nat.pow_pos (by decide)))
theorem mask_low {y r p : Nat} (hy : y < B64) (hr : r ≤ 63) (hp : p = 2 ^ r - 1) : bits BinOp.and IntKind.u64 (y : Int) (p : Int) = ((y % 2 ^ r : Nat) : Int) := by
  have h := pow_lt r hr
  rw [bits_and_u64_nat _ _ hy (by rw [hp]; exact Nat.lt_of_le_of_lt (Nat.sub_le _ _) h), hp, Nat.and_two_pow_sub_one_eq_mod]

theorem Ws_put {xs : List Nat} (h : Ws xs) {q z : Nat} (hz : z < B64) : Ws (xs.set q z) := fun x hx => by
  rcases List.mem_or_eq_of_mem_set hx with h1 | h1
  · exact h x h1
  · rw [h1]; exact hz
theorem uvs_set (xs : List Nat) (q z : Nat) : uvs (xs.set q z) = (uvs xs).set q (.int .u64 (z : Int)) := by simp [uvs, List.map_set]

set_option maxHeartbeats 1000000 in
theorem NLow_ok (A : Option Addr) (n c : Nat) (xs : List Nat) (s : Nat) (w : World) (hn : n ≤ 4096) (hs : s ≤ 262144) (hx : Sl w A n c xs) :
    Calls Try.prog 38 #[.slice A n c, .int .i64 s] w fun e w' => ∃ v, e = .returned (.tuple #[v, .int .i64 0]) ∧ Nt w w' v (V xs % 2 ^ s) ∧ Below w.heap.size w w' := by
  obtain ⟨i0, hi, hz0, hz1, hz2⟩ := info_parts Try.info24
  have Hx := Lib.hid hx
  obtain ⟨q, r, hqr, hr, hq1, hq2, hr1, hr2⟩ : ∃ q r : Nat, s = 64 * q + r ∧ r ≤ 63 ∧ (s : Int).tdiv 64 = (q : Int) ∧ (s : Int) / 64 = (q : Int) ∧ (s : Int).tmod 64 = (r : Int) ∧ (s : Int) % 64 = (r : Int) :=
    ⟨s / 64, s % 64, by omega, by omega, by rw [Int.tdiv_eq_ediv_of_nonneg (by omega)]; omega, by omega, by rw [Int.tmod_eq_emod_of_nonneg (by omega)]; omega, by omega⟩
  have hqw : IntKind.i64.wrap (q : Int) = (q : Int) := IntWalk.i64_in _ (by omega)
  have hnc := hx.2.1
  have HS := Lib.hid (And.intro hs (And.intro hqr hx.1))
  clear hx hs
  rcases Nat.lt_or_ge q n with hqn | hqn
  · have hqi : ¬ (n : Int) ≤ (q : Int) := by omega
    have hq4 : q ≤ 4096 := by omega
    have hq1w : IntKind.i64.wrap ((q : Int) + 1) = (q : Int) + 1 := IntWalk.i64_in _ (by omega)
    obtain ⟨y, hy⟩ : ∃ y, xs[q]? = some y := ⟨xs[q]'(by rw [Hx.out.1]; exact hqn), List.getElem?_eq_getElem _⟩
    have hyB := Hx.out.2.2.2.1 y (List.mem_of_getElem? hy)
    have hyt : (uvs (xs.take (q + 1)))[q]? = some (.int .u64 (y : Int)) := uvs_get (by rw [List.getElem?_take, if_pos (by omega)]; exact hy)
    have hp := pow_lt r hr
    obtain ⟨p, hpp⟩ : ∃ p : Nat, 2 ^ r = p + 1 := ⟨2 ^ r - 1, by have := Nat.pow_pos (n := r) (show 0 < 2 by decide); omega⟩
    have hpB : p + 1 < B64 := by rw [← hpp]; exact hp
    have hw1 : IntKind.u64.wrap ((1 : Int) * 2 ^ r) = (p : Int) + 1 := by
      have := wrap_u64 1 r
      rw [Nat.one_mul, Nat.mod_eq_of_lt hp, hpp] at this
      exact this
    have hw2 : IntKind.u64.wrap ((2 : Int) ^ r) = (p : Int) + 1 := by rw [← hw1, Int.one_mul]
    have hw3 : IntKind.u64.wrap (p : Int) = (p : Int) := by rw [IntKind.wrap_u64]; have : B64 = 18446744073709551616 := rfl; omega
    obtain ⟨z, hz⟩ : ∃ z, y % 2 ^ r = z := ⟨_, rfl⟩
    have hmask : bits BinOp.and IntKind.u64 (y : Int) (p : Int) = (z : Int) := by rw [← hz]; exact mask_low hyB hr (by omega)
    have hzB : z < B64 := by rw [← hz]; exact Nat.lt_of_le_of_lt (Nat.mod_le _ _) hyB
    have hval := low_value Hx.out.2.2.2.1 hy hqr hr
    rw [hz] at hval
    have HV := Lib.hid (And.intro hval (And.intro hzB hyt))
    clear hval hzB hyt hz hyB hy hp hpp hpB hqr hr
    go_enter Try.func38, Try.ntmps38
    go_wp2_with (fail)
    refine (checkShift_ok A n _ s w hn HS.out.1).mono ?_
    rintro e w1 ⟨rfl, hb1⟩
    have Hl := Lib.hid (And.intro (show (uvs (xs.take (q + 1))).length = q + 1 by rw [uvs_length, List.length_take, Hx.out.1]; omega) (And.intro ((Hx.out.below hb1).tk (k := q + 1) (by omega)).2.2.2.2 hb1))
    have hsz := hb1.size
    clear hb1
    go_wp2_with (at_builtin; refine wpList_append_rd _ rfl (.const (.slice none 0 0)) (.tmp 26) 23 rfl w.heap.size 24 i0 (.int .u64 0) Try.underlying23 hi hz0 hz1 hz2 rfl _ 0 [] rfl (World.ownsRow_nil _ _ _ _) w1.heap.size A (q + 1) c (uvs (xs.take (q + 1))) rfl Hl.out.1 Hl.out.2.1 (uvs_one _) (by omega) (by omega) ?_)
    intro v2 w2 hown hgrow hblk
    have hb2 : Below w.heap.size w w2 := Hl.out.2.2.grown hgrow hsz (by intro j hj; cases hj)
    obtain ⟨g, cap, rfl, hg0, hglt⟩ := hown.form (by omega)
    have hc := (hown.cellAt q (by omega)).trans HV.out.2.2
    have hf := hown.frozenAt q
    obtain ⟨hst, hgr⟩ := World.ownsRow.stored (w := w2.drew) hown q (.int .u64 (z : Int))
    have HW := Lib.hid (And.intro hst (And.intro hgr (And.intro hb2 hg0)))
    have hmix : Try.prog.follows Departure.mixedOrders = true := by kernel_rfl
    have hqi1 : (q : Int) < (q : Int) + 1 := by omega
    clear hown hgrow hblk hb2 hst hgr hg0 Hl hsz
    go_wp2
    refine wp_region_L 10 (fun w' => w'.cell? ⟨g, q, none⟩ = some (.int .u64 (y : Int))) hmix ?_
    have HS0 := Lib.hid (show (fun w' : World => w'.cell? ⟨g, q, none⟩ = some (.int .u64 (y : Int))) w2.drew from hc)
    refine wpAnyL_take (i := 0) (v := ?_) rfl rfl (by kernel_rfl) (by kernel_rfl) (by kernel_rfl) (by kernel_rfl) (by kernel_rfl) (fun _ _ _ h => h) HS0.out (Or.inl ⟨by rfl, ?_⟩) ?_
    rotate_left
    · rintro w q0; go_simp; try with_reducible rfl
    try simp only [Act.put, List.setIfInBounds_toArray, List.set_cons_zero, List.set_cons_succ]
    refine wpAnyL_take (i := 1) (v := ?_) rfl rfl (by kernel_rfl) (by kernel_rfl) (by kernel_rfl) (by kernel_rfl) (by kernel_rfl) (fun _ _ _ h => h) HS0.out (Or.inl ⟨by rfl, ?_⟩) ?_
    rotate_left
    · rintro w q0; go_simp; try with_reducible rfl
    try simp only [Act.put, List.setIfInBounds_toArray, List.set_cons_zero, List.set_cons_succ]
    refine wpAnyL_take (i := 2) (v := ?_) rfl rfl (by kernel_rfl) (by kernel_rfl) (by kernel_rfl) (by kernel_rfl) (by kernel_rfl) (fun _ _ _ h => h) HS0.out (Or.inl ⟨by rfl, ?_⟩) ?_
    rotate_left
    · rintro w q0; go_simp; try with_reducible rfl
    try simp only [Act.put, List.setIfInBounds_toArray, List.set_cons_zero, List.set_cons_succ]
    refine wpAnyL_take (i := 3) (v := ?_) rfl rfl (by kernel_rfl) (by kernel_rfl) (by kernel_rfl) (by kernel_rfl) (by kernel_rfl) (fun _ _ _ h => h) HS0.out (Or.inl ⟨by rfl, ?_⟩) ?_
    rotate_left
    · rintro w q0; go_simp; try with_reducible rfl
    try simp only [Act.put, List.setIfInBounds_toArray, List.set_cons_zero, List.set_cons_succ]
    refine wpAnyL_take (i := 4) (v := ?_) rfl rfl (by kernel_rfl) (by kernel_rfl) (by kernel_rfl) (by kernel_rfl) (by kernel_rfl) (fun _ _ _ h => h) HS0.out (Or.inl ⟨by rfl, ?_⟩) ?_
    rotate_left
    · rintro w q0; go_simp; try with_reducible rfl
    try simp only [Act.put, List.setIfInBounds_toArray, List.set_cons_zero, List.set_cons_succ]
    refine wpAnyL_take (i := 5) (v := ?_) rfl rfl (by kernel_rfl) (by kernel_rfl) (by kernel_rfl) (by kernel_rfl) (by kernel_rfl) (fun _ _ _ h => h) HS0.out (Or.inl ⟨by rfl, ?_⟩) ?_
    rotate_left
    · rintro w q0; go_simp; try with_reducible rfl
    try simp only [Act.put, List.setIfInBounds_toArray, List.set_cons_zero, List.set_cons_succ]
    refine wpAnyL_take (i := 6) (v := ?_) rfl rfl (by kernel_rfl) (by kernel_rfl) (by kernel_rfl) (by kernel_rfl) (by kernel_rfl) (fun _ _ _ h => h) HS0.out (Or.inl ⟨by rfl, ?_⟩) ?_
    rotate_left
    · rintro w q0; go_simp; try with_reducible rfl
    try simp only [Act.put, List.setIfInBounds_toArray, List.set_cons_zero, List.set_cons_succ]
    refine wpAnyL_take (i := 7) (v := ?_) rfl rfl (by kernel_rfl) (by kernel_rfl) (by kernel_rfl) (by kernel_rfl) (by kernel_rfl) (fun _ _ _ h => h) HS0.out (Or.inl ⟨by rfl, ?_⟩) ?_
    rotate_left
    · rintro w q0; go_simp; try with_reducible rfl
    try simp only [Act.put, List.setIfInBounds_toArray, List.set_cons_zero, List.set_cons_succ]
    refine wpAnyL_take (i := 8) (v := ?_) rfl rfl (by kernel_rfl) (by kernel_rfl) (by kernel_rfl) (by kernel_rfl) (by kernel_rfl) (fun _ _ _ h => h) HS0.out (Or.inl ⟨by rfl, ?_⟩) ?_
    rotate_left
    · rintro w q0; go_simp; try with_reducible rfl
    try simp only [Act.put, List.setIfInBounds_toArray, List.set_cons_zero, List.set_cons_succ]
    refine wpAnyL_take (i := 9) (v := ?_) rfl rfl (by kernel_rfl) (by kernel_rfl) (by kernel_rfl) (by kernel_rfl) (by kernel_rfl) (fun _ _ _ h => h) HS0.out (Or.inl ⟨by rfl, ?_⟩) ?_
    rotate_left
    · rintro w q0; go_simp; try with_reducible rfl
    try simp only [Act.put, List.setIfInBounds_toArray, List.set_cons_zero, List.set_cons_succ]
    refine wpAnyL_one (i := 10) rfl (by kernel_rfl) (fun K hK => ?_)
    go_simp
    refine hK.out _ _ (fun h => absurd rfl h) ?_
    clear hK K
    try simp only [Act.put, List.setIfInBounds_toArray, List.set_cons_zero, List.set_cons_succ]
    refine wpAnyL_done (by kernel_rfl) ?_ _
    obtain ⟨us, hus⟩ : ∃ us, (xs.take (q + 1)).set q z = us := ⟨_, rfl⟩
    have hul : us.length = q + 1 := by rw [← hus, List.length_set, List.length_take, Hx.out.1]; omega
    have hnw : Nw w (w2.setCell ⟨g, q, none⟩ (.int .u64 (z : Int))).drew (.slice (some ⟨g, 0, none⟩) (q + 1) cap) (q + 1) us :=
      ⟨hul, by rw [← hus]; exact Ws_put (Ws_take Hx.out.2.2.2.1 _) HV.out.2.1, by rw [← hus, uvs_set]; exact HW.out.1⟩
    have hb3 : Below w.heap.size w (w2.setCell ⟨g, q, none⟩ (.int .u64 (z : Int))).drew := by
      have hb2 := HW.out.2.2.1
      have hgr := HW.out.2.1
      exact below_drewN (hb2.grown (w' := w2.setCell ⟨g, q, none⟩ (.int .u64 (z : Int))) (row := some g) ⟨hgr.os, hgr.tape, hgr.output, hgr.size, hgr.block⟩ hb2.size (by intro j hj; injection hj with hj; rw [← hj]; exact HW.out.2.2.2)) 1
    obtain ⟨A', c', he, hs3⟩ := hnw.sl
    injection he with e1 e2 e3
    subst e1 e3
    have H3 := Lib.hid (And.intro hs3 (And.intro hnw (And.intro (show V us = V xs % 2 ^ s by rw [← hus]; exact HV.out.1) hb3)))
    clear hs3 hnw hb3 hul hus HS0 HW hc hf
    go_wp2_with (fail)
    refine (used_ok _ _ _ us _ (by omega) H3.out.1).mono ?_
    rintro e w4 ⟨j, rfl, hj, hH, rfl⟩
    have H4 := Lib.hid (And.intro hj hH.out)
    clear hj hH
    go_wp2_with (fail)
    go_ret2
    exact ⟨_, rfl, ⟨j, us.take j, H3.out.2.1.tk H4.out.1, H4.out.2.2, by rw [H4.out.2.1]; exact H3.out.2.2.1⟩, H3.out.2.2.2⟩
  · have hqi : (n : Int) ≤ (q : Int) := by omega
    have HV := Lib.hid (low_all Hx.out.2.2.2.1 Hx.out.1 hqr hqn)
    clear hqr
    go_enter Try.func38, Try.ntmps38
    go_wp2_with (fail)
    refine (checkShift_ok A n _ s w hn HS.out.1).mono ?_
    rintro e w1 ⟨rfl, hb1⟩
    have H1 := Lib.hid (And.intro (Hx.out.below hb1) hb1)
    clear hb1
    go_wp2_with (fail)
    refine (NTrim_ok A n c xs w1 (by omega) H1.out.1).mono ?_
    rintro e w2 hR
    obtain ⟨v2, rfl, h2, hb2⟩ := hR.from H1.out.2
    rw [HV.out] at h2
    have H2 := Lib.hid (And.intro h2 hb2)
    clear h2 hb2 hR
    go_wp2_with (fail)
    go_ret2
    exact ⟨v2, rfl, H2.out.1, H2.out.2⟩
end Go.Proofs.Ytglfpcjipbnlfaa

namespace Go.Proofs.Ytglfpcjipbnlfaa
open Go.RowKit Go.Shelf
set_option linter.unusedVariables false
set_option maxRecDepth 10000

/-- the bit of 2^i -/
def bitOf (x : Nat) (i : Int) : Bool := decide (0 ≤ i) && decide (x / 2 ^ i.toNat % 2 = 1)
theorem bitOf_nat (x i : Nat) : bitOf x (i : Int) = decide (x / 2 ^ i % 2 = 1) := by simp [bitOf]
theorem bitOf_word {xs : List Nat} (hw : Ws xs) {i q r y : Nat} (hy : xs[q]? = some y) (hi : i = 64 * q + r) (hr : r ≤ 63) : bitOf (V xs) (i : Int) = decide (y / 2 ^ r % 2 = 1) := by
  have hl : q < xs.length := by
    rcases Nat.lt_or_ge q xs.length with h1 | h1
    · exact h1
    · rw [List.getElem?_eq_none h1] at hy; cases hy
  rw [bitOf_nat, hi, Nat.pow_add, Nat.pow_mul, show (2 : Nat) ^ 64 = B64 from rfl, ← Nat.div_div_eq_div_mul, ← V_dropped hw (by omega), V_drop _ _ _ hy]
  have hB : B64 = 2 ^ r * (2 * 2 ^ (63 - r)) := by
    rw [← Nat.pow_succ', ← Nat.pow_add, show r + (63 - r + 1) = 64 by omega]; rfl
  rw [hB, Nat.mul_assoc, Nat.add_mul_div_left _ _ (Nat.pow_pos (by decide)), Nat.mul_assoc, Nat.add_mul_mod_self_left]
theorem bitOf_out {xs : List Nat} (hw : Ws xs) {n i q r : Nat} (hn : xs.length = n) (hi : i = 64 * q + r) (h : n ≤ q) : bitOf (V xs) (i : Int) = false := by
  rw [bitOf_nat]
  have h1 : V xs < 2 ^ i := by
    refine Nat.lt_of_lt_of_le (V_lt _ hw) ?_
    rw [hi, Nat.pow_add, Nat.pow_mul, show (2 : Nat) ^ 64 = B64 from rfl, hn]
    exact Nat.le_trans (Nat.pow_le_pow_right B64_pos h) (Nat.le_mul_of_pos_right _ (Nat.pow_pos (by decide)))
  rw [Nat.div_eq_of_lt h1]
  rfl
theorem and_one (z : Nat) (hz : z < B64) : bits BinOp.and IntKind.u64 (z : Int) 1 = ((z % 2 : Nat) : Int) := by
  have := bits_and_u64_nat z 1 hz (by decide)
  rw [show z &&& 1 = z % 2 from Nat.and_two_pow_sub_one_eq_mod z 1] at this
  exact this

set_option maxHeartbeats 1000000 in
theorem NBit_ok (A : Option Addr) (n c : Nat) (xs : List Nat) (i : Int) (w : World) (hn : n ≤ 100000) (hi : i ≤ 9223372036854775807) (hx : Sl w A n c xs) :
    Calls Try.prog 19 #[.slice A n c, .int .i64 i] w fun e w' => e = .returned (.bool (bitOf (V xs) i)) ∧ Below w.heap.size w w' := by
  by_cases h0 : 0 ≤ i
  · obtain ⟨s, rfl⟩ := Int.eq_ofNat_of_zero_le h0
    obtain ⟨q, r, hqr, hr, hq1, hq2, hr1, hr2⟩ : ∃ q r : Nat, s = 64 * q + r ∧ r ≤ 63 ∧ (s : Int).tdiv 64 = (q : Int) ∧ (s : Int) / 64 = (q : Int) ∧ (s : Int).tmod 64 = (r : Int) ∧ (s : Int) % 64 = (r : Int) :=
      ⟨s / 64, s % 64, by omega, by omega, by rw [Int.tdiv_eq_ediv_of_nonneg (by omega)]; omega, by omega, by rw [Int.tmod_eq_emod_of_nonneg (by omega)]; omega, by omega⟩
    have hqw : IntKind.i64.wrap (q : Int) = (q : Int) := IntWalk.i64_in _ (by omega)
    have Hx := Lib.hid hx
    clear hx hi
    rcases Nat.lt_or_ge q n with hqn | hqn
    · have hqi : (q : Int) < (n : Int) := by omega
      have hql : q < xs.length := by rw [Hx.out.1]; exact hqn
      have hg := List.getElem?_eq_getElem hql
      have hyB : xs[q] < B64 := Hx.out.2.2.2.1 _ (List.getElem_mem hql)
      obtain ⟨b, o, rfl, hb, hcx⟩ := Hx.out.2.2.2.2.at (uvs_get hg)
      generalize xs[q] = y at *
      have HB := Lib.hid (bitOf_word Hx.out.2.2.2.1 hg hqr hr)
      obtain ⟨z, hz⟩ : ∃ z, y / 2 ^ r = z := ⟨_, rfl⟩
      have hzB : z < B64 := by rw [← hz]; exact Nat.lt_of_le_of_lt (Nat.div_le_self _ _) hyB
      have hz1 : (y : Int) / 2 ^ r = (z : Int) := by rw [← hz]; simp
      rw [hz] at HB
      have hzw : IntKind.u64.wrap (z : Int) = (z : Int) := by rw [IntKind.wrap_u64]; have : B64 = 18446744073709551616 := rfl; omega
      have hm := and_one z hzB
      obtain ⟨d, hd⟩ : ∃ d, z % 2 = d := ⟨_, rfl⟩
      rw [hd] at hm HB
      have hd2 : d = 0 ∨ d = 1 := by omega
      clear hz hd hzB hyB hg hql hqr
      go_enter Try.func19, Try.ntmps19
      go_wp2
      go_ret
      rw [HB.out]
      refine ⟨?_, Below.refl _ _⟩
      rcases hd2 with rfl | rfl <;> rfl
    · have hqi : ¬ (q : Int) < (n : Int) := by omega
      have HB := Lib.hid (bitOf_out Hx.out.2.2.2.1 Hx.out.1 hqr hqn)
      clear hqr
      go_enter Try.func19, Try.ntmps19
      go_wp2
      go_ret
      rw [HB.out]
      exact ⟨rfl, Below.refl _ _⟩
  · have hb : bitOf (V xs) i = false := by simp [bitOf, h0]
    rw [hb]
    clear hx hi hb
    go_enter Try.func19, Try.ntmps19
    go_wp2
    go_ret
    exact ⟨rfl, Below.refl _ _⟩
set_option maxHeartbeats 1000000 in
theorem R2Bit_ok (A : Option Addr) (n c : Nat) (xs : List Nat) (i : Int) (w : World) (hn : n ≤ 100000) (hi : i ≤ 9223372036854775807) (hx : Sl w A n c xs) :
    Calls Try.prog 20 #[.slice A n c, .int .i64 i] w fun e w' => e = .returned (.bool (bitOf (V xs) i)) ∧ Below w.heap.size w w' := by
  by_cases h0 : 0 ≤ i
  · obtain ⟨s, rfl⟩ := Int.eq_ofNat_of_zero_le h0
    obtain ⟨q, r, hqr, hr, hq1, hq2, hr1, hr2⟩ : ∃ q r : Nat, s = 64 * q + r ∧ r ≤ 63 ∧ (s : Int).tdiv 64 = (q : Int) ∧ (s : Int) / 64 = (q : Int) ∧ (s : Int).tmod 64 = (r : Int) ∧ (s : Int) % 64 = (r : Int) :=
      ⟨s / 64, s % 64, by omega, by omega, by rw [Int.tdiv_eq_ediv_of_nonneg (by omega)]; omega, by omega, by rw [Int.tmod_eq_emod_of_nonneg (by omega)]; omega, by omega⟩
    have hqw : IntKind.i64.wrap (q : Int) = (q : Int) := IntWalk.i64_in _ (by omega)
    have Hx := Lib.hid hx
    clear hx hi
    rcases Nat.lt_or_ge q n with hqn | hqn
    · have hqi : (q : Int) < (n : Int) := by omega
      have hql : q < xs.length := by rw [Hx.out.1]; exact hqn
      have hg := List.getElem?_eq_getElem hql
      have hyB : xs[q] < B64 := Hx.out.2.2.2.1 _ (List.getElem_mem hql)
      obtain ⟨b, o, rfl, hb, hcx⟩ := Hx.out.2.2.2.2.at (uvs_get hg)
      generalize xs[q] = y at *
      have HB := Lib.hid (bitOf_word Hx.out.2.2.2.1 hg hqr hr)
      obtain ⟨z, hz⟩ : ∃ z, y / 2 ^ r = z := ⟨_, rfl⟩
      have hzB : z < B64 := by rw [← hz]; exact Nat.lt_of_le_of_lt (Nat.div_le_self _ _) hyB
      have hz1 : (y : Int) / 2 ^ r = (z : Int) := by rw [← hz]; simp
      rw [hz] at HB
      have hzw : IntKind.u64.wrap (z : Int) = (z : Int) := by rw [IntKind.wrap_u64]; have : B64 = 18446744073709551616 := rfl; omega
      obtain ⟨d, hd⟩ : ∃ d, z % 2 = d := ⟨_, rfl⟩
      rw [hd] at HB
      have hm1 : (z : Int).tmod 2 = (d : Int) := by rw [Int.tmod_eq_emod_of_nonneg (by omega), ← hd]; omega
      have hm2 : (z : Int) % 2 = (d : Int) := by rw [← hd]; omega
      have hdw : IntKind.u64.wrap (d : Int) = (d : Int) := by rw [IntKind.wrap_u64]; omega
      have hd2 : d = 0 ∨ d = 1 := by omega
      clear hz hd hzB hyB hg hql hqr
      go_enter Try.func20, Try.ntmps20
      go_wp2
      go_ret
      rw [HB.out]
      refine ⟨?_, Below.refl _ _⟩
      rcases hd2 with rfl | rfl <;> rfl
    · have hqi : ¬ (q : Int) < (n : Int) := by omega
      have HB := Lib.hid (bitOf_out Hx.out.2.2.2.1 Hx.out.1 hqr hqn)
      clear hqr
      go_enter Try.func20, Try.ntmps20
      go_wp2
      go_ret
      rw [HB.out]
      exact ⟨rfl, Below.refl _ _⟩
  · have hb : bitOf (V xs) i = false := by simp [bitOf, h0]
    rw [hb]
    clear hx hi hb
    go_enter Try.func20, Try.ntmps20
    go_wp2
    go_ret
    exact ⟨rfl, Below.refl _ _⟩
end Go.Proofs.Ytglfpcjipbnlfaa

namespace Go.Proofs.Ytglfpcjipbnlfaa
open Go.RowKit Go.Shelf
set_option linter.unusedVariables false
set_option linter.unusedSimpArgs false
set_option maxRecDepth 10000

/-- x with the bit of 2^i as it is said -/
def setOf (x i : Nat) (b : Bool) : Nat := if bitOf x (i : Int) = b then x else if b then x + 2 ^ i else x - 2 ^ i
set_option maxHeartbeats 400000 in
theorem SetBit_arg (A : Option Addr) (n c : Nat) (i : Int) (b : Bool) (w : World) (hn : n ≤ 4096) (hi : i < 0 ∨ 262144 ≤ i) :
    Calls Try.prog 18 #[.slice A n c, .int .i64 i, .bool b] w fun e w' => e = .returned (.tuple #[.slice none 0 0, .int .i64 1]) ∧ Below w.heap.size w w' := by
  have Hk := Lib.hid (chkS_one (A := A) (c := c) hn)
  have hcs : i < 0 ∨ (¬ i < 0 ∧ 262144 ≤ i) := by omega
  clear hi
  rcases hcs with h1 | ⟨h1, h2⟩
  all_goals
    go_enter Try.func18, Try.ntmps18
    go_wp2_with (fail)
    refine (checkSizes_one A _ c _ _ w rfl).mono ?_
    rintro e w1 ⟨rfl, hb1⟩
    rw [Hk.out]
    go_wp2_with (fail)
    go_ret2
    exact ⟨rfl, hb1⟩
/-- a word's bit is cleared, or set -/
theorem bit_split (y r : Nat) : ∃ h l d, y = h * (2 * 2 ^ r) + d * 2 ^ r + l ∧ l < 2 ^ r ∧ d ≤ 1 ∧ y / 2 ^ r % 2 = d := by
  refine ⟨y / 2 ^ r / 2, y % 2 ^ r, y / 2 ^ r % 2, ?_, Nat.mod_lt _ (Nat.pow_pos (by decide)), by omega, rfl⟩
  have h1 := Nat.div_add_mod y (2 ^ r)
  have h2 := Nat.div_add_mod (y / 2 ^ r) 2
  generalize y / 2 ^ r / 2 = a at *
  generalize y / 2 ^ r % 2 = b at *
  generalize y % 2 ^ r = l at *
  generalize y / 2 ^ r = q at *
  generalize 2 ^ r = p at *
  subst h2
  rw [← h1]
  grind
theorem two_bit (h d k : Nat) (hd : d ≤ 1) : (2 * h + d).testBit (k + 1) = h.testBit k := by
  rw [Nat.testBit_succ]
  congr 1
  omega
/-- the bit of 2^r cleared -/
theorem bit_clear {y r h l d : Nat} (hy : y < 2 ^ 64) (he : y = h * (2 * 2 ^ r) + d * 2 ^ r + l) (hl : l < 2 ^ r) (hd : d ≤ 1) (hr : r ≤ 63) : y &&& (2 ^ 64 - (2 ^ r + 1)) = h * (2 * 2 ^ r) + l := by
  have e1 : y = 2 ^ r * (2 * h + d) + l := by rw [he]; generalize 2 ^ r = p; grind
  have e2 : h * (2 * 2 ^ r) + l = 2 ^ r * (2 * h + 0) + l := by generalize 2 ^ r = p; grind
  have hle : h * (2 * 2 ^ r) + l ≤ y := by rw [he]; omega
  have hp : 2 ^ r < 2 ^ 64 := Nat.pow_lt_pow_right (by decide) (by omega)
  refine Nat.eq_of_testBit_eq fun j => ?_
  rw [Nat.testBit_and, Nat.testBit_two_pow_sub_succ hp, Nat.testBit_two_pow]
  rcases Nat.lt_or_ge j 64 with hj | hj
  · rw [e2, e1, Nat.testBit_two_pow_mul_add _ hl, Nat.testBit_two_pow_mul_add _ hl]
    rcases Nat.lt_trichotomy j r with h1 | h1 | h1
    · simp [h1, hj, show ¬ r = j by omega]
    · subst h1
      simp
    · obtain ⟨k, hk⟩ : ∃ k, j - r = k + 1 := ⟨j - r - 1, by omega⟩
      rw [if_neg (by omega), if_neg (by omega), hk, two_bit _ _ _ hd, two_bit _ _ _ (by omega)]
      simp [hj, show ¬ r = j by omega]
  · have h3 : 2 ^ 64 ≤ 2 ^ j := Nat.pow_le_pow_right (by decide) hj
    rw [Nat.testBit_lt_two_pow (Nat.lt_of_lt_of_le hy h3), Nat.testBit_lt_two_pow (Nat.lt_of_lt_of_le (Nat.lt_of_le_of_lt hle hy) h3)]
    rfl
/-- the bit of 2^r set where it was 0 -/
theorem bit_set {r h l : Nat} (hl : l < 2 ^ r) : (h * (2 * 2 ^ r) + l) ||| 2 ^ r = h * (2 * 2 ^ r) + 2 ^ r + l := by
  have e1 : h * (2 * 2 ^ r) + l = 2 ^ r * (2 * h + 0) + l := by generalize 2 ^ r = p; grind
  have e2 : h * (2 * 2 ^ r) + 2 ^ r + l = 2 ^ r * (2 * h + 1) + l := by generalize 2 ^ r = p; grind
  refine Nat.eq_of_testBit_eq fun j => ?_
  rw [Nat.testBit_or, Nat.testBit_two_pow, e1, e2, Nat.testBit_two_pow_mul_add _ hl, Nat.testBit_two_pow_mul_add _ hl]
  rcases Nat.lt_trichotomy j r with h1 | h1 | h1
  · simp [h1, show ¬ r = j by omega]
  · subst h1
    simp
  · obtain ⟨k, hk⟩ : ∃ k, j - r = k + 1 := ⟨j - r - 1, by omega⟩
    rw [if_neg (by omega), if_neg (by omega), hk, two_bit _ _ _ (by omega), two_bit _ _ _ (by omega)]
    simp [show ¬ r = j by omega]
theorem V_put : ∀ (zs : List Nat) (q y z : Nat), zs[q]? = some y → V (zs.set q z) + y * B64 ^ q = V zs + z * B64 ^ q
  | [], _, _, _, h => by simp at h
  | a :: t, 0, y, z, h => by
    simp at h
    subst h
    simp only [List.set_cons_zero, V, Nat.pow_zero, Nat.mul_one]
    omega
  | a :: t, q + 1, y, z, h => by
    have ih := V_put t q y z (by simpa using h)
    simp only [List.set_cons_succ, V, Nat.pow_succ]
    generalize B64 = b at *
    generalize b ^ q = p at *
    generalize V (t.set q z) = u at *
    generalize V t = v at *
    have e1 : y * (p * b) = b * (y * p) := by grind
    have e2 : z * (p * b) = b * (z * p) := by grind
    have e3 : b * u + b * (y * p) = b * v + b * (z * p) := by rw [← Nat.mul_add, ih, Nat.mul_add]
    rw [e1, e2]
    omega
/-- the words that SetBit stores, and the values of the rows then -/
theorem set_plan {zs : List Nat} (hw : Ws zs) {i q r y : Nat} (hy : zs[q]? = some y) (hi : i = 64 * q + r) (hr : r ≤ 63) :
    ∃ y0 y1 : Nat, y0 < B64 ∧ y1 < B64 ∧ bits BinOp.andNot IntKind.u64 (y : Int) ((2 ^ r : Nat) : Int) = (y0 : Int) ∧ bits BinOp.or IntKind.u64 (y0 : Int) ((2 ^ r : Nat) : Int) = (y1 : Int) ∧
      V (zs.set q y0) = setOf (V zs) i false ∧ V (zs.set q y1) = setOf (V zs) i true := by
  have hyB : y < B64 := hw y (List.mem_of_getElem? hy)
  have hp := pow_lt r hr
  obtain ⟨h, l, d, he, hl, hd, hb⟩ := bit_split y r
  have hB : B64 = 2 ^ r * (2 * 2 ^ (63 - r)) := by
    rw [← Nat.pow_succ', ← Nat.pow_add, show r + (63 - r + 1) = 64 by omega]; rfl
  have hh : h < 2 ^ (63 - r) := by
    rcases Nat.lt_or_ge h (2 ^ (63 - r)) with h1 | h1
    · exact h1
    · have h2 := Nat.mul_le_mul_right (2 * 2 ^ r) h1
      have h3 : 2 ^ (63 - r) * (2 * 2 ^ r) = B64 := by rw [hB]; generalize 2 ^ r = p; generalize 2 ^ (63 - r) = t; grind
      omega
  have h4 := Nat.mul_le_mul_right (2 * 2 ^ r) (show h + 1 ≤ 2 ^ (63 - r) from hh)
  have h3 : 2 ^ (63 - r) * (2 * 2 ^ r) = B64 := by rw [hB]; generalize 2 ^ r = p; generalize 2 ^ (63 - r) = t; grind
  rw [Nat.add_mul, Nat.one_mul, h3] at h4
  have hbit := bitOf_word hw hy hi hr
  rw [hb] at hbit
  have hpow : 2 ^ i = 2 ^ r * B64 ^ q := by rw [hi, Nat.pow_add, Nat.pow_mul, show (2 : Nat) ^ 64 = B64 from rfl, Nat.mul_comm]
  have v0 := V_put zs q y (h * (2 * 2 ^ r) + l) hy
  have v1 := V_put zs q y (h * (2 * 2 ^ r) + 2 ^ r + l) hy
  refine ⟨h * (2 * 2 ^ r) + l, h * (2 * 2 ^ r) + 2 ^ r + l, by omega, by omega, ?_, ?_, ?_, ?_⟩
  · rw [u64_andNot_nat _ _ hyB hp]
    have := bit_clear (y := y) hyB he hl hd hr
    rw [show (18446744073709551615 : Nat) - 2 ^ r = 2 ^ 64 - (2 ^ r + 1) by omega, this]
  · rw [bits_or_u64_nat _ _ (show _ < B64 by omega) hp, bit_set hl]
  all_goals
    unfold setOf
    rw [hbit, hpow]
    clear hbit hpow hh h4 h3 hB hb hy hi hw hyB hl hp
    generalize V (zs.set q (h * (2 * 2 ^ r) + l)) = a at *
    generalize V (zs.set q (h * (2 * 2 ^ r) + 2 ^ r + l)) = b at *
    generalize V zs = x at *
    generalize 2 ^ r = p at *
    generalize B64 ^ q = t at *
    subst he
    have hcs : d = 0 ∨ d = 1 := by omega
    rcases hcs with rfl | rfl
    all_goals
      simp only [Nat.add_mul, Nat.zero_mul, Nat.one_mul] at v0 v1
      simp
      omega
set_option maxHeartbeats 1000000 in
theorem SetBit_ok (A : Option Addr) (n c : Nat) (xs : List Nat) (i : Nat) (b : Bool) (w : World) (hn : n ≤ 4096) (hi4 : i < 262144) (hx : Sl w A n c xs) :
    Calls Try.prog 18 #[.slice A n c, .int .i64 i, .bool b] w fun e w' => ∃ v, e = .returned (.tuple #[v, .int .i64 0]) ∧ Nt w w' v (setOf (V xs) i b) ∧ Below w.heap.size w w' := by
  obtain ⟨i0, hi, hz0, hz1, hz2⟩ := info_parts Try.info24
  have Hx := Lib.hid hx
  have Hk := Lib.hid (chkS_one (A := A) (c := c) hn)
  obtain ⟨q, r, hqr, hr, hq1, hq2, hr1, hr2⟩ : ∃ q r : Nat, i = 64 * q + r ∧ r ≤ 63 ∧ (i : Int).tdiv 64 = (q : Int) ∧ (i : Int) / 64 = (q : Int) ∧ (i : Int).tmod 64 = (r : Int) ∧ (i : Int) % 64 = (r : Int) :=
    ⟨i / 64, i % 64, by omega, by omega, by rw [Int.tdiv_eq_ediv_of_nonneg (by omega)]; omega, by omega, by rw [Int.tmod_eq_emod_of_nonneg (by omega)]; omega, by omega⟩
  have hqw : IntKind.i64.wrap (q : Int) = (q : Int) := IntWalk.i64_in _ (by omega)
  have hq4 : q ≤ 4096 := by omega
  have hq1w : IntKind.i64.wrap ((q : Int) + 1) = ((q + 1 : Nat) : Int) := by rw [IntWalk.i64_in _ (by omega)]; omega
  have hi0 : ¬ (i : Int) < 0 := by omega
  have hi1 : decide ((262144 : Int) ≤ (i : Int)) = false := decide_eq_false (by omega)
  obtain ⟨N, hN, hN4, hqN⟩ : ∃ N : Nat, (n ≤ N ∧ q + 1 ≤ N ∧ (N = n ∨ N = q + 1)) ∧ N ≤ 4097 ∧ q < N := by
    rcases Nat.lt_or_ge n (q + 1) with h | h
    · exact ⟨q + 1, by omega, by omega, by omega⟩
    · exact ⟨n, by omega, by omega, by omega⟩
  have HN : Hid (Mx N n (q + 1)) := hN
  have hp := pow_lt r hr
  obtain ⟨p, hpp⟩ : ∃ p : Nat, 2 ^ r = p := ⟨_, rfl⟩
  have hw1 : IntKind.u64.wrap ((1 : Int) * 2 ^ r) = (p : Int) := by
    have := wrap_u64 1 r
    rw [Nat.one_mul, Nat.mod_eq_of_lt hp, hpp] at this
    exact this
  have hw2 : IntKind.u64.wrap ((2 : Int) ^ r) = (p : Int) := by rw [← hw1, Int.one_mul]
  have HQ := Lib.hid (And.intro hqr (And.intro hr hpp))
  clear hx hN hp hpp hqr hi4 hr
  go_enter Try.func18, Try.ntmps18
  go_wp2_with (fail)
  refine (checkSizes_one A _ c _ _ w rfl).mono ?_
  rintro e w1 ⟨rfl, hb1⟩
  rw [Hk.out]
  go_wp2_with (fail)
  refine (row_ok A n c (q + 1) N xs w1 (by omega) HN.out (Hx.out.below hb1)).mono ?_
  rintro e w2 ⟨A2, c2, rfl, hs2, hb2⟩
  have Hl := Lib.hid (And.intro (show (uvs (pad xs (q + 1))).length = N by rw [uvs_length]; exact hs2.1) (And.intro hs2 (hb1.trans (hb2.mono hb1.size))))
  have hsz := Hl.out.2.2.size
  clear hb1 hb2 hs2
  go_wp2_with (at_builtin; refine wpList_append_rd _ rfl (.const (.slice none 0 0)) (.tmp 27) 23 rfl w.heap.size 24 i0 (.int .u64 0) Try.underlying23 hi hz0 hz1 hz2 rfl _ 0 [] rfl (World.ownsRow_nil _ _ _ _) w2.heap.size A2 N c2 (uvs (pad xs (q + 1))) rfl Hl.out.1 Hl.out.2.1.2.2.2.2 (uvs_one _) (by omega) (by omega) ?_)
  intro v3 w3 hown hgrow hblk
  have hb3 : Below w.heap.size w w3 := Hl.out.2.2.grown hgrow hsz (by intro j hj; cases hj)
  obtain ⟨zs, hzs⟩ : ∃ zs, pad xs (q + 1) = zs := ⟨_, rfl⟩
  have hlen : zs.length = N := by rw [← hzs]; exact Hl.out.2.1.1
  have hws : Ws zs := by rw [← hzs]; exact Hl.out.2.1.2.2.2.1
  have hVz : V zs = V xs := by rw [← hzs, V_pad]
  simp only [List.nil_append, Nat.zero_add, hzs] at hown
  obtain ⟨y, hy⟩ : ∃ y, zs[q]? = some y := ⟨zs[q]'(by rw [hlen]; exact hqN), List.getElem?_eq_getElem _⟩
  obtain ⟨y0, y1, hy0, hy1, ha, ho, hv0, hv1⟩ := set_plan hws hy HQ.out.1 HQ.out.2.1
  rw [HQ.out.2.2] at ha ho
  rw [hVz] at hv0 hv1
  obtain ⟨g, cap, rfl, hg0, hglt⟩ := hown.form (by omega)
  have hc := (hown.cellAt q (by omega)).trans (uvs_get hy)
  have hf := hown.frozenAt q
  obtain ⟨hst, hgr⟩ := World.ownsRow.stored (w := w3) hown q (.int .u64 (y0 : Int))
  have hqi1 : (q : Int) < (N : Int) := by omega
  have hmix : Try.prog.follows Departure.mixedOrders = true := by kernel_rfl
  have HW := Lib.hid (And.intro hst (And.intro hgr (And.intro hb3 (And.intro hg0 (And.intro hws (And.intro hlen (And.intro hy0 (And.intro hy1 (And.intro hv0 hv1)))))))))
  clear hown hgrow hblk hb3 hst hgr hg0 Hl hsz hws hlen hVz hy0 hy1 hv0 hv1 hzs hy
  cases b
  · go_wp2_with (fail)
    obtain ⟨us, hus⟩ : ∃ us, zs.set q y0 = us := ⟨_, rfl⟩
    have hul : us.length = N := by rw [← hus, List.length_set]; exact HW.out.2.2.2.2.2.1
    have hnw : Nw w (w3.setCell ⟨g, q, none⟩ (.int .u64 (y0 : Int))) (.slice (some ⟨g, 0, none⟩) N cap) N us :=
      ⟨hul, by rw [← hus]; exact Ws_put HW.out.2.2.2.2.1 HW.out.2.2.2.2.2.2.1, by rw [← hus, uvs_set]; exact HW.out.1⟩
    have hb4 : Below w.heap.size w (w3.setCell ⟨g, q, none⟩ (.int .u64 (y0 : Int))) := HW.out.2.2.1.grown HW.out.2.1 HW.out.2.2.1.size (by intro j hj; injection hj with hj; rw [← hj]; exact HW.out.2.2.2.1)
    obtain ⟨A', c', he, hs4⟩ := hnw.sl
    injection he with e1 e2 e3
    subst e1 e3
    have H3 := Lib.hid (And.intro hs4 (And.intro hnw (And.intro (show V us = setOf (V xs) i false by rw [← hus]; exact HW.out.2.2.2.2.2.2.2.2.1) hb4)))
    clear hs4 hnw hb4 hul hus HW hc hf
    go_wp2_with (fail)
    refine (used_ok _ _ _ us _ (by omega) H3.out.1).mono ?_
    rintro e w5 ⟨j, rfl, hj, hH, rfl⟩
    have H4 := Lib.hid (And.intro hj hH.out)
    clear hj hH
    go_wp2_with (fail)
    go_ret2
    exact ⟨_, rfl, ⟨j, us.take j, H3.out.2.1.tk H4.out.1, H4.out.2.2, by rw [H4.out.2.1]; exact H3.out.2.2.1⟩, H3.out.2.2.2⟩
  · go_wp2_with (fail)
    have hb1 : Below w.heap.size w (w3.setCell ⟨g, q, none⟩ (.int .u64 (y0 : Int))) := HW.out.2.2.1.grown HW.out.2.1 HW.out.2.2.1.size (by intro j hj; injection hj with hj; rw [← hj]; exact HW.out.2.2.2.1)
    obtain ⟨hst2, hgr2⟩ := World.ownsRow.stored (w := w3.setCell ⟨g, q, none⟩ (.int .u64 (y0 : Int))) HW.out.1 q (.int .u64 (y1 : Int))
    rw [List.set_set] at hst2
    obtain ⟨us, hus⟩ : ∃ us, zs.set q y1 = us := ⟨_, rfl⟩
    have hul : us.length = N := by rw [← hus, List.length_set]; exact HW.out.2.2.2.2.2.1
    have hnw : Nw w ((w3.setCell ⟨g, q, none⟩ (.int .u64 (y0 : Int))).setCell ⟨g, q, none⟩ (.int .u64 (y1 : Int))) (.slice (some ⟨g, 0, none⟩) N cap) N us :=
      ⟨hul, by rw [← hus]; exact Ws_put HW.out.2.2.2.2.1 HW.out.2.2.2.2.2.2.2.1, by rw [← hus, uvs_set]; exact hst2⟩
    have hb4 : Below w.heap.size w ((w3.setCell ⟨g, q, none⟩ (.int .u64 (y0 : Int))).setCell ⟨g, q, none⟩ (.int .u64 (y1 : Int))) := hb1.grown hgr2 hb1.size (by intro j hj; injection hj with hj; rw [← hj]; exact HW.out.2.2.2.1)
    obtain ⟨A', c', he, hs4⟩ := hnw.sl
    injection he with e1 e2 e3
    subst e1 e3
    have H3 := Lib.hid (And.intro hs4 (And.intro hnw (And.intro (show V us = setOf (V xs) i true by rw [← hus]; exact HW.out.2.2.2.2.2.2.2.2.2) hb4)))
    clear hs4 hnw hb4 hul hus HW hc hf hb1 hst2 hgr2
    go_wp2_with (fail)
    refine (used_ok _ _ _ us _ (by omega) H3.out.1).mono ?_
    rintro e w5 ⟨j, rfl, hj, hH, rfl⟩
    have H4 := Lib.hid (And.intro hj hH.out)
    clear hj hH
    go_wp2_with (fail)
    go_ret2
    exact ⟨_, rfl, ⟨j, us.take j, H3.out.2.1.tk H4.out.1, H4.out.2.2, by rw [H4.out.2.1]; exact H3.out.2.2.1⟩, H3.out.2.2.2⟩
end Go.Proofs.Ytglfpcjipbnlfaa

namespace Go.Proofs.Ytglfpcjipbnlfaa
open Go.RowKit Go.Shelf
set_option linter.unusedVariables false
set_option maxRecDepth 10000

theorem bitOf_le {x i : Nat} (h : bitOf x (i : Int) = true) : 2 ^ i ≤ x := by
  rw [bitOf_nat] at h
  rcases Nat.lt_or_ge x (2 ^ i) with h1 | h1
  · rw [Nat.div_eq_of_lt h1] at h; simp at h
  · exact h1
theorem B64_pw (i : Nat) : B64 ^ i = 2 ^ (64 * i) := by rw [Nat.pow_mul]; rfl
theorem pow_Big {i : Nat} (h : i < 262144) : 1 * 2 ^ i < Big := by
  rw [Nat.one_mul]
  rw [show Big = 2 ^ (64 * Most) from B64_pw Most]
  exact Nat.pow_lt_pow_right (by decide) h
set_option maxHeartbeats 1000000 in
theorem R2SetBit_ok (A : Option Addr) (n c : Nat) (xs : List Nat) (i : Nat) (b : Bool) (w : World) (hn : n ≤ 4096) (hi : i < 262144) (hx : Sl w A n c xs) :
    Calls Try.prog 21 #[.slice A n c, .int .i64 i, .bool b] w fun e w' => Rv w w' e (setOf (V xs) i b) := by
  have Hx := Lib.hid hx
  have HP := Lib.hid (pow_Big hi)
  have HL := Lib.hid (fun h => bitOf_le (x := V xs) (i := i) h)
  have HI := Lib.hid hi
  clear hx hi
  go_enter Try.func21, Try.ntmps21
  go_wp2_with (fail)
  refine (RFromWord_ok 1 w (by decide)).mono ?_
  rintro e w1 hR1
  obtain ⟨A1, n1, c1, zs1, rfl, h1⟩ := hR1.open (Big_of (k := 1) (by decide) (by omega))
  have H1 := Lib.hid h1
  clear h1 hR1
  go_wp2_with (fail)
  refine (R2Left_ok A1 n1 c1 zs1 i w1 H1.out.2.2.2.1 (by have := HI.out; omega) H1.out.1).mono ?_
  rintro e w2 hR2
  rw [H1.out.2.2.1] at hR2
  obtain ⟨A2, n2, c2, zs2, rfl, h2⟩ := hR2.open HP.out
  have H2 := Lib.hid (And.intro (h2.from H1.out.bel) (Hx.out.below (h2.from H1.out.bel).bel))
  clear h2 hR2 H1
  cases b
  · go_wp2_with (fail)
    refine (R2Bit_ok A n c xs i w2 (by omega) (by have := HI.out; omega) H2.out.2).mono ?_
    rintro e w3 ⟨rfl, hb3⟩
    have H3 := Lib.hid (H2.out.1.keep hb3)
    have HX := Lib.hid (H2.out.2.below hb3)
    clear hb3 H2
    obtain ⟨d, hd⟩ : ∃ d, bitOf (V xs) (i : Int) = d := ⟨_, rfl⟩
    have HD := Lib.hid hd
    rw [hd]
    clear hd
    cases d
    · go_wp2_with (fail)
      refine (RTrim_ok A n c xs w3 hn HX.out).mono ?_
      rintro e w4 hR
      obtain ⟨v, rfl, h7, hb7⟩ := hR.from H3.out.bel
      rw [show V xs = setOf (V xs) i false by unfold setOf; rw [if_pos HD.out]] at h7
      have H7 := Lib.hid (And.intro h7 hb7)
      clear h7 hb7 hR
      go_wp2_with (fail)
      go_ret
      exact ⟨v, rfl, H7.out.1, H7.out.2⟩
    · go_wp2_with (fail)
      refine (RNSub_ok A A2 n n2 c c2 xs zs2 w3 hn H3.out.2.2.2.1 HX.out H3.out.1 (by rw [H3.out.2.2.1, Nat.one_mul]; exact HL.out HD.out)).mono ?_
      rintro e w4 hR
      obtain ⟨v, rfl, h7, hb7⟩ := hR.from H3.out.bel
      rw [show V xs - V zs2 = setOf (V xs) i false by unfold setOf; rw [HD.out, H3.out.2.2.1, Nat.one_mul]; simp] at h7
      have H7 := Lib.hid (And.intro h7 hb7)
      clear h7 hb7 hR
      go_wp2_with (fail)
      go_ret
      exact ⟨v, rfl, H7.out.1, H7.out.2⟩
  · go_wp2_with (fail)
    refine (R2Bit_ok A n c xs i w2 (by omega) (by have := HI.out; omega) H2.out.2).mono ?_
    rintro e w3 ⟨rfl, hb3⟩
    have H3 := Lib.hid (H2.out.1.keep hb3)
    have HX := Lib.hid (H2.out.2.below hb3)
    clear hb3 H2
    obtain ⟨d, hd⟩ : ∃ d, bitOf (V xs) (i : Int) = d := ⟨_, rfl⟩
    have HD := Lib.hid hd
    rw [hd]
    clear hd
    cases d
    · go_wp2_with (fail)
      refine (RNAdd_ok A A2 n n2 c c2 xs zs2 w3 hn H3.out.2.2.2.1 HX.out H3.out.1).mono ?_
      rintro e w4 hR
      obtain ⟨v, rfl, h7, hb7⟩ := hR.from H3.out.bel
      rw [show V xs + V zs2 = setOf (V xs) i true by unfold setOf; rw [HD.out, H3.out.2.2.1, Nat.one_mul]; simp] at h7
      have H7 := Lib.hid (And.intro h7 hb7)
      clear h7 hb7 hR
      go_wp2_with (fail)
      go_ret
      exact ⟨v, rfl, H7.out.1, H7.out.2⟩
    · go_wp2_with (fail)
      refine (RTrim_ok A n c xs w3 hn HX.out).mono ?_
      rintro e w4 hR
      obtain ⟨v, rfl, h7, hb7⟩ := hR.from H3.out.bel
      rw [show V xs = setOf (V xs) i true by unfold setOf; rw [if_pos HD.out]] at h7
      have H7 := Lib.hid (And.intro h7 hb7)
      clear h7 hb7 hR
      go_wp2_with (fail)
      go_ret
      exact ⟨v, rfl, H7.out.1, H7.out.2⟩
end Go.Proofs.Ytglfpcjipbnlfaa

namespace Go.Proofs.Ytglfpcjipbnlfaa
open Go.RowKit
set_option linter.unusedVariables false

/-- the word that joins two, by the sign -/
def jf (s : Int) (a b : Nat) : Nat := if s = 38 then a &&& b else if s = 124 then a ||| b else a ^^^ b
theorem jf_lt (s : Int) {a b : Nat} (ha : a < B64) (hb : b < B64) : jf s a b < B64 := by
  unfold jf
  have h : B64 = 2 ^ 64 := rfl
  rw [h] at ha hb ⊢
  split
  · exact Nat.and_lt_two_pow _ hb
  · split
    · exact Nat.or_lt_two_pow ha hb
    · exact Nat.xor_lt_two_pow ha hb
theorem jf_zero (s : Int) : jf s 0 0 = 0 := by unfold jf; simp
/-- a word, 0 beyond the end -/
def gd (xs : List Nat) (k : Nat) : Nat := xs.getD k 0
/-- the first k words of both rows, joined -/
def jl (s : Int) (xs ys : List Nat) : Nat → List Nat
  | 0 => []
  | k + 1 => jl s xs ys k ++ [jf s (gd xs k) (gd ys k)]
theorem jl_len (s : Int) (xs ys : List Nat) : ∀ k, (jl s xs ys k).length = k
  | 0 => rfl
  | k + 1 => by rw [jl, List.length_append, jl_len s xs ys k]; rfl
theorem getD_ws {xs : List Nat} (h : Ws xs) (k : Nat) : gd xs k < B64 := by
  unfold gd
  rw [List.getD_eq_getElem?_getD]
  cases hk : xs[k]? with
  | none => decide
  | some x => exact h x (List.mem_of_getElem? hk)
theorem jl_ws (s : Int) {xs ys : List Nat} (hx : Ws xs) (hy : Ws ys) : ∀ k, Ws (jl s xs ys k)
  | 0 => fun _ h => by cases h
  | k + 1 => by
    intro x h
    rw [jl, List.mem_append] at h
    rcases h with h | h
    · exact jl_ws s hx hy k x h
    · rw [List.mem_singleton] at h
      rw [h]
      exact jf_lt s (getD_ws hx k) (getD_ws hy k)
theorem nat_bits (a b : Nat) : (a &&& b) + (a ||| b) = a + b ∧ (a ^^^ b) + (a &&& b) = a ||| b := by
  have key : ∀ n a b : Nat, a < 2 ^ n → b < 2 ^ n → (a &&& b) + (a ||| b) = a + b ∧ (a ^^^ b) + (a &&& b) = a ||| b := by
    intro n
    induction n with
    | zero => intro a b ha hb; have : a = 0 := by omega
              have : b = 0 := by omega
              subst_vars; decide
    | succ n ih =>
      intro a b ha hb
      have h := ih (a / 2) (b / 2) (by omega) (by omega)
      have e1 := Nat.and_div_two (a := a) (b := b)
      have e2 := Nat.or_div_two (a := a) (b := b)
      have e3 := Nat.xor_div_two (a := a) (b := b)
      have m1 := Nat.and_mod_two_pow (a := a) (b := b) (n := 1)
      have m2 := Nat.or_mod_two_pow (a := a) (b := b) (n := 1)
      have m3 := Nat.xor_mod_two_pow (a := a) (b := b) (n := 1)
      rw [Nat.pow_one] at m1 m2 m3
      rw [← e1, ← e2, ← e3] at h
      have ha2 : a % 2 = 0 ∨ a % 2 = 1 := by omega
      have hb2 : b % 2 = 0 ∨ b % 2 = 1 := by omega
      rcases ha2 with h1 | h1 <;> rcases hb2 with h2 | h2 <;> rw [h1, h2] at m1 m2 m3 <;> simp only [show (0 &&& 0 : Nat) = 0 from rfl, show (0 &&& 1 : Nat) = 0 from rfl, show (1 &&& 0 : Nat) = 0 from rfl, show (1 &&& 1 : Nat) = 1 from rfl, show (0 ||| 0 : Nat) = 0 from rfl, show (0 ||| 1 : Nat) = 1 from rfl, show (1 ||| 0 : Nat) = 1 from rfl, show (1 ||| 1 : Nat) = 1 from rfl, show (0 ^^^ 0 : Nat) = 0 from rfl, show (0 ^^^ 1 : Nat) = 1 from rfl, show (1 ^^^ 0 : Nat) = 1 from rfl, show (1 ^^^ 1 : Nat) = 0 from rfl] at m1 m2 m3 <;> clear ih e1 e2 e3 <;> generalize a / 2 &&& b / 2 = p at * <;> omega
  exact (key (a + b) a b (Nat.lt_of_le_of_lt (Nat.le_add_right a b) Nat.lt_two_pow_self) (Nat.lt_of_le_of_lt (Nat.le_add_left b a) Nat.lt_two_pow_self))
theorem V_take_more (xs : List Nat) (k : Nat) : V (xs.take (k + 1)) = V (xs.take k) + gd xs k * B64 ^ k := by
  unfold gd
  by_cases h : k < xs.length
  · rw [V_take_succ xs k h, List.getD_eq_getElem?_getD, List.getElem?_eq_getElem h, Option.getD_some]
  · rw [List.take_of_length_le (by omega), List.take_of_length_le (by omega), getD_out (by omega), Nat.zero_mul, Nat.add_zero]
theorem jl_sum (xs ys : List Nat) : ∀ k, V (jl 38 xs ys k) + V (jl 124 xs ys k) = V (xs.take k) + V (ys.take k) ∧ V (jl 94 xs ys k) + V (jl 38 xs ys k) = V (jl 124 xs ys k)
  | 0 => by simp [jl, V]
  | k + 1 => by
    obtain ⟨h1, h2⟩ := jl_sum xs ys k
    rw [jl, jl, jl, V_snoc, V_snoc, V_snoc, jl_len, jl_len, jl_len, V_take_more, V_take_more]
    obtain ⟨e1, e2⟩ := nat_bits (gd xs k) (gd ys k)
    have f1 : jf 38 (gd xs k) (gd ys k) = gd xs k &&& gd ys k := rfl
    have f2 : jf 124 (gd xs k) (gd ys k) = gd xs k ||| gd ys k := rfl
    have f3 : jf 94 (gd xs k) (gd ys k) = gd xs k ^^^ gd ys k := rfl
    rw [f1, f2, f3]
    generalize gd xs k = x at *
    generalize gd ys k = y at *
    generalize x &&& y = p at *
    generalize x ||| y = q at *
    generalize x ^^^ y = r at *
    generalize B64 ^ k = t
    constructor
    · have := congrArg (· * t) e1
      simp only [Nat.add_mul] at this
      omega
    · have := congrArg (· * t) e2
      simp only [Nat.add_mul] at this
      omega
end Go.Proofs.Ytglfpcjipbnlfaa

namespace Go.Proofs.Ytglfpcjipbnlfaa
open Go.RowKit Go.Shelf
set_option linter.unusedVariables false
set_option maxRecDepth 10000

/-- how a function reads: by its number -/
def fR (v : Value) : Option (DataW Unit × List MemPlace) := match v with
  | .func (.func k) a b => if a = #[] ∧ b = #[] then some (.lit (.int .i64 k), []) else none
  | .nilFunc => some (.lit (.int .i64 (-1)), [])
  | _ => none
theorem fR_inv {v : Value} {k : Nat} {p : List MemPlace} (h : fR v = some (.lit (.int .i64 (k : Int)), p)) : v = .func (.func k) #[] #[] := by
  unfold fR at h
  split at h
  · split at h
    · rename_i hc
      obtain ⟨rfl, rfl⟩ := hc
      simp at h
      obtain ⟨h1, _⟩ := h
      exact congrArg (fun k => Value.func (.func k) #[] #[]) (Int.ofNat.inj h1)
    · cases h
  · simp at h
  · cases h
theorem wpList_insert_own {H : Type} {P : Program} (w : World) {ops : Array Oper} {rest : List Oper} {o : Oper} {a : Act} {Q : Exit → Act → World → Prop}
    (hg : o.guard = none) (m x v : Operand) (t : TypeId) (hop : o.op = Op.insert t m x v)
    (k e : TypeId) (K : Maps.Keyed P k) (ht : P.underlying t = some (.map k e)) (R : Value → Option (DataW H × List MemPlace)) (b n : Nat) (D : DataW H)
    (hm : a.eval m = .map (some b)) (hown : w.ownsMap P k R b n D) (hn : n < maxLen) (key val : Value) (kl : Lit) (hx : a.eval x = key) (hv : a.eval v = val) (hkey : keyOf P k key = some kl)
    (d : DataW H) (ps : List MemPlace) (hval : R val = some (d, ps))
    (hK : ∀ w', w'.ownsMap P k R b (n + 1) (D.put kl d) → w.grownBy w' (some b) → wpList P ops Q rest (a.put o.dst undef) w') :
    wpList P ops Q (o :: rest) a w := by
  refine wpList_plain hg fun K' hK' => ?_
  obtain ⟨w', hrun, r1, r2⟩ := hown.update K ht hn hkey hval
  unfold Oper.wp
  simp [execOp, hop, hm, hx, hv, hrun, Result.andThen]
  exact hK' _ _ (hK w' r1 r2)
theorem wpList_lookup_own_fn {P : Program} (w : World) {ops : Array Oper} {rest : List Oper} {o : Oper} {a : Act} {Q : Exit → Act → World → Prop}
    (hg : o.guard = none) (m x : Operand) (t : TypeId) (hop : o.op = Op.lookup t m x false)
    (k e : TypeId) (K : Maps.Keyed P k) (ht : P.underlying t = some (.map k e)) (hz : (zeroValue e).run P w = .ok .nilFunc w) (b n : Nat) (D : DataW Unit)
    (hm : a.eval m = .map (some b)) (hown : w.ownsMap P k fR b n D) (key : Value) (kl : Lit) (hx : a.eval x = key) (hkey : keyOf P k key = some kl) (f : Nat) (hat : D.atKey kl (.lit (.int .i64 (-1))) = .lit (.int .i64 (f : Int)))
    (hK : wpList P ops Q rest (a.put o.dst (.func (.func f) #[] #[])) w) :
    wpList P ops Q (o :: rest) a w := by
  refine wpList_plain hg fun K' hK' => ?_
  obtain ⟨v, ps, hrun, hv⟩ := hown.lookup K ht hz (zd := .lit (.int .i64 (-1))) (zp := []) rfl hkey
  rw [hat] at hv
  obtain rfl := fR_inv hv
  unfold Oper.wp
  simp [execOp, hop, hm, hx, hrun, Result.andThen]
  exact hK' _ _ hK

def jmap : DataW Unit := (((DataW.map []).put (.int .u8 38) (.lit (.int .i64 117))).put (.int .u8 124) (.lit (.int .i64 118))).put (.int .u8 94) (.lit (.int .i64 119))
theorem jmap_at (s : Int) (f : Nat) (h : s = 38 ∧ f = 117 ∨ s = 124 ∧ f = 118 ∨ s = 94 ∧ f = 119) : jmap.atKey (.int .u8 s) (.lit (.int .i64 (-1))) = .lit (.int .i64 (f : Int)) := by
  rcases h with ⟨rfl, rfl⟩ | ⟨rfl, rfl⟩ | ⟨rfl, rfl⟩ <;> rfl
set_option maxHeartbeats 400000 in
theorem joint_ok (s : Int) (f : Nat) (w : World) (h : s = 38 ∧ f = 117 ∨ s = 124 ∧ f = 118 ∨ s = 94 ∧ f = 119) :
    Calls Try.prog 94 #[.int .u8 s] w fun e w' => e = .returned (.func (.func f) #[] #[]) ∧ Below w.heap.size w w' := by
  have hmm := @run_makeMap Try.prog
  have K : Maps.Keyed Try.prog 5 := Maps.int_keyed Try.underlying5
  have hks : keyOf Try.prog 5 (.int .u8 s) = some (.int .u8 s) := Maps.keyOf_int_mk Try.underlying5 (by rcases h with ⟨rfl, _⟩ | ⟨rfl, _⟩ | ⟨rfl, _⟩ <;> decide)
  have hat := Lib.hid (jmap_at s f h)
  clear h
  go_enter Try.func94, Try.ntmps94
  go_wp2_with (refine wpList_insert_own _ rfl (.tmp 3) _ _ 121 rfl 5 _ K Try.underlying121 fR w.heap.size 0 (.map []) rfl (World.ownsMap_made _ _ _ _) (by decide) (.int .u8 38) (.func (.func 117) #[] #[]) (.int .u8 38) rfl rfl (Maps.keyOf_int_mk Try.underlying5 (by decide)) (.lit (.int .i64 117)) [] rfl ?_)
  intro w1 hown1 hgrow1
  go_wp2_with (refine wpList_insert_own _ rfl (.tmp 3) _ _ 121 rfl 5 _ K Try.underlying121 fR w.heap.size 1 _ rfl hown1 (by decide) (.int .u8 124) (.func (.func 118) #[] #[]) (.int .u8 124) rfl rfl (Maps.keyOf_int_mk Try.underlying5 (by decide)) (.lit (.int .i64 118)) [] rfl ?_)
  intro w2 hown2 hgrow2
  go_wp2_with (refine wpList_insert_own _ rfl (.tmp 3) _ _ 121 rfl 5 _ K Try.underlying121 fR w.heap.size 2 _ rfl hown2 (by decide) (.int .u8 94) (.func (.func 119) #[] #[]) (.int .u8 94) rfl rfl (Maps.keyOf_int_mk Try.underlying5 (by decide)) (.lit (.int .i64 119)) [] rfl ?_)
  intro w3 hown3 hgrow3
  have hb : Below w.heap.size w w3 := by
    have h0 : Below w.heap.size w (w.alloc (.map #[] 0)) := (Below.refl _ _).alloc (Nat.le_refl _) _
    have h1 := h0.grown hgrow1 h0.size (by intro j hj; injection hj with hj; omega)
    have h2 := h1.grown hgrow2 h1.size (by intro j hj; injection hj with hj; omega)
    exact h2.grown hgrow3 h2.size (by intro j hj; injection hj with hj; omega)
  clear hgrow1 hgrow2 hgrow3 hown1 hown2
  go_wp2_with (refine wpList_lookup_own_fn _ rfl _ _ 121 rfl 5 102 K Try.underlying121 rfl w.heap.size 3 jmap rfl hown3 (.int .u8 s) (.int .u8 s) rfl hks f hat.out ?_)
  go_wp2
  go_ret
  exact ⟨rfl, hb⟩
end Go.Proofs.Ytglfpcjipbnlfaa

namespace Go.Proofs.Ytglfpcjipbnlfaa
open Go.RowKit Go.Shelf
set_option linter.unusedVariables false
set_option maxRecDepth 10000

set_option maxHeartbeats 400000 in
theorem NAdd_big (A A' : Option Addr) (n n' c c' : Nat) (w : World) (hn : 4096 < n ∨ 4096 < n') :
    Calls Try.prog 31 #[.slice A n c, .slice A' n' c'] w fun e w' => e = .returned (.tuple #[.slice none 0 0, .int .i64 2]) ∧ Below w.heap.size w w' := by
  have Hk := Lib.hid (chkS_two_big (A := A) (A' := A') (c := c) (c' := c') hn)
  go_enter Try.func31, Try.ntmps31
  go_wp2_with (fail)
  refine (checkSizes_two A A' _ _ c c' _ _ w rfl).mono ?_
  rintro e w1 ⟨rfl, hb1⟩
  rw [Hk.out]
  go_wp2_with (fail)
  go_ret2
  exact ⟨rfl, hb1⟩
set_option maxHeartbeats 400000 in
theorem NSub_big (A A' : Option Addr) (n n' c c' : Nat) (w : World) (hn : 4096 < n ∨ 4096 < n') :
    Calls Try.prog 32 #[.slice A n c, .slice A' n' c'] w fun e w' => e = .returned (.tuple #[.slice none 0 0, .int .i64 2]) ∧ Below w.heap.size w w' := by
  have Hk := Lib.hid (chkS_two_big (A := A) (A' := A') (c := c) (c' := c') hn)
  go_enter Try.func32, Try.ntmps32
  go_wp2_with (fail)
  refine (checkSizes_two A A' _ _ c c' _ _ w rfl).mono ?_
  rintro e w1 ⟨rfl, hb1⟩
  rw [Hk.out]
  go_wp2_with (fail)
  go_ret2
  exact ⟨rfl, hb1⟩
set_option maxHeartbeats 400000 in
theorem NMul_big (A A' : Option Addr) (n n' c c' : Nat) (w : World) (hn : 4096 < n ∨ 4096 < n') :
    Calls Try.prog 33 #[.slice A n c, .slice A' n' c'] w fun e w' => e = .returned (.tuple #[.slice none 0 0, .int .i64 2]) ∧ Below w.heap.size w w' := by
  have Hk := Lib.hid (chkS_two_big (A := A) (A' := A') (c := c) (c' := c') hn)
  go_enter Try.func33, Try.ntmps33
  go_wp2_with (fail)
  refine (checkSizes_two A A' _ _ c c' _ _ w rfl).mono ?_
  rintro e w1 ⟨rfl, hb1⟩
  rw [Hk.out]
  go_wp2_with (fail)
  go_ret2
  exact ⟨rfl, hb1⟩
set_option maxHeartbeats 400000 in
theorem NDivMod_big (A A' : Option Addr) (n n' c c' : Nat) (w : World) (hn : 4096 < n ∨ 4096 < n') :
    Calls Try.prog 11 #[.slice A n c, .slice A' n' c'] w fun e w' => e = .returned (.tuple #[.slice none 0 0, .slice none 0 0, .int .i64 2]) ∧ Below w.heap.size w w' := by
  have Hk := Lib.hid (chkS_two_big (A := A) (A' := A') (c := c) (c' := c') hn)
  go_enter Try.func11, Try.ntmps11
  go_wp2_with (fail)
  refine (checkSizes_two A A' _ _ c c' _ _ w rfl).mono ?_
  rintro e w1 ⟨rfl, hb1⟩
  rw [Hk.out]
  go_wp2_with (fail)
  go_ret3
  exact ⟨rfl, hb1⟩
set_option maxHeartbeats 400000 in
theorem NSquare_big (A : Option Addr) (n c : Nat) (w : World) (hn : 4096 < n) :
    Calls Try.prog 34 #[.slice A n c] w fun e w' => e = .returned (.tuple #[.slice none 0 0, .int .i64 2]) ∧ Below w.heap.size w w' := by
  have Hk := Lib.hid (chkS_one_big (A := A) (c := c) hn)
  go_enter Try.func34, Try.ntmps34
  go_wp2_with (fail)
  refine (checkSizes_one A _ c _ _ w rfl).mono ?_
  rintro e w1 ⟨rfl, hb1⟩
  rw [Hk.out]
  go_wp2_with (fail)
  go_ret2
  exact ⟨rfl, hb1⟩
set_option maxHeartbeats 400000 in
theorem NSetBit_big (A : Option Addr) (n c : Nat) (i : Int) (b : Bool) (w : World) (hn : 4096 < n) :
    Calls Try.prog 18 #[.slice A n c, .int .i64 i, .bool b] w fun e w' => e = .returned (.tuple #[.slice none 0 0, .int .i64 2]) ∧ Below w.heap.size w w' := by
  have Hk := Lib.hid (chkS_one_big (A := A) (c := c) hn)
  go_enter Try.func18, Try.ntmps18
  go_wp2_with (fail)
  refine (checkSizes_one A _ c _ _ w rfl).mono ?_
  rintro e w1 ⟨rfl, hb1⟩
  rw [Hk.out]
  go_wp2_with (fail)
  go_ret2
  exact ⟨rfl, hb1⟩
set_option maxHeartbeats 400000 in
theorem NPow_big (A : Option Addr) (n c : Nat) (k : Int) (w : World) (hn : 4096 < n) :
    Calls Try.prog 35 #[.slice A n c, .int .i64 k] w fun e w' => e = .returned (.tuple #[.slice none 0 0, .int .i64 2]) ∧ Below w.heap.size w w' := by
  have Hk := Lib.hid (chkS_one_big (A := A) (c := c) hn)
  go_enter Try.func35, Try.ntmps35
  go_wp2_with (fail)
  go_step3
  go_wp2_with (fail)
  refine (checkSizes_one A _ c _ _ w rfl).mono ?_
  rintro e w1 ⟨rfl, hb1⟩
  rw [Hk.out]
  go_wp2_with (fail)
  dsimp only [Exit.noGoto]
  go_ret2
  exact ⟨rfl, hb1⟩
set_option maxHeartbeats 400000 in
theorem joined_big (A A' : Option Addr) (n n' c c' : Nat) (sg : Int) (w : World) (hn : 4096 < n ∨ 4096 < n') :
    Calls Try.prog 61 #[.slice A n c, .int .u8 sg, .slice A' n' c'] w fun e w' => e = .returned (.tuple #[.slice none 0 0, .int .i64 2]) ∧ Below w.heap.size w w' := by
  have Hk := Lib.hid (chkS_two_big (A := A) (A' := A') (c := c) (c' := c') hn)
  go_enter Try.func61, Try.ntmps61
  go_wp2_with (fail)
  refine (checkSizes_two A A' _ _ c c' _ _ w rfl).mono ?_
  rintro e w1 ⟨rfl, hb1⟩
  rw [Hk.out]
  go_wp2_with (fail)
  go_ret2
  exact ⟨rfl, hb1⟩
theorem NAnd_big (A A' : Option Addr) (n n' c c' : Nat) (w : World) (hn : 4096 < n ∨ 4096 < n') :
    Calls Try.prog 22 #[.slice A n c, .slice A' n' c'] w fun e w' => e = .returned (.tuple #[.slice none 0 0, .int .i64 2]) ∧ Below w.heap.size w w' := by
  have Hn := Lib.hid hn
  clear hn
  go_enter Try.func22, Try.ntmps22
  go_wp2_with (fail)
  refine (joined_big A A' _ _ c c' _ w Hn.out).mono ?_
  rintro e w1 ⟨rfl, hb1⟩
  go_wp2_with (fail)
  go_ret2
  exact ⟨rfl, hb1⟩
theorem NOr_big (A A' : Option Addr) (n n' c c' : Nat) (w : World) (hn : 4096 < n ∨ 4096 < n') :
    Calls Try.prog 23 #[.slice A n c, .slice A' n' c'] w fun e w' => e = .returned (.tuple #[.slice none 0 0, .int .i64 2]) ∧ Below w.heap.size w w' := by
  have Hn := Lib.hid hn
  clear hn
  go_enter Try.func23, Try.ntmps23
  go_wp2_with (fail)
  refine (joined_big A A' _ _ c c' _ w Hn.out).mono ?_
  rintro e w1 ⟨rfl, hb1⟩
  go_wp2_with (fail)
  go_ret2
  exact ⟨rfl, hb1⟩
theorem NXor_big (A A' : Option Addr) (n n' c c' : Nat) (w : World) (hn : 4096 < n ∨ 4096 < n') :
    Calls Try.prog 24 #[.slice A n c, .slice A' n' c'] w fun e w' => e = .returned (.tuple #[.slice none 0 0, .int .i64 2]) ∧ Below w.heap.size w w' := by
  have Hn := Lib.hid hn
  clear hn
  go_enter Try.func24, Try.ntmps24
  go_wp2_with (fail)
  refine (joined_big A A' _ _ c c' _ w Hn.out).mono ?_
  rintro e w1 ⟨rfl, hb1⟩
  go_wp2_with (fail)
  go_ret2
  exact ⟨rfl, hb1⟩
end Go.Proofs.Ytglfpcjipbnlfaa

namespace Go.Proofs.Ytglfpcjipbnlfaa
open Go.RowKit Go.Shelf
set_option linter.unusedVariables false
set_option maxRecDepth 10000

set_option maxHeartbeats 400000 in
theorem word_ok (A : Option Addr) (n c : Nat) (xs : List Nat) (i : Nat) (w : World) (hx : Sl w A n c xs) :
    Calls Try.prog 62 #[.slice A n c, .int .i64 i] w fun e w' => e = .returned (.int .u64 ((gd xs i : Nat) : Int)) ∧ w = w' := by
  have Hx := Lib.hid hx
  clear hx
  rcases Nat.lt_or_ge i n with h | h
  · have hg := List.getElem?_eq_getElem (show i < xs.length by rw [Hx.out.1]; exact h)
    obtain ⟨b, o, rfl, hb, hcx⟩ := Hx.out.2.2.2.2.at (uvs_get hg)
    have HV := Lib.hid (show gd xs i = xs[i]'(by rw [Hx.out.1]; exact h) by rw [gd, List.getD_eq_getElem?_getD, hg, Option.getD_some])
    generalize xs[i]'(by rw [Hx.out.1]; exact h) = x at *
    have hi : (i : Int) < n := by omega
    clear hg
    go_enter Try.func62, Try.ntmps62
    go_wp2
    go_ret
    rw [HV.out]
    exact ⟨rfl, rfl⟩
  · have hi : ¬ (i : Int) < n := by omega
    have HV := Lib.hid (show gd xs i = 0 from getD_out (xs := xs) (i := i) (by rw [Hx.out.1]; exact h))
    go_enter Try.func62, Try.ntmps62
    go_wp2
    go_ret
    rw [HV.out]
    exact ⟨rfl, rfl⟩
/-- what the loop keeps -/
def JoI (w : World) (s : Int) (xs ys : List Nat) (k : Nat) (zs : List Nat) (W : World) : Prop := zs = jl s xs ys k ∧ Below w.heap.size w W
theorem jf_and {a b : Nat} (ha : a < B64) (hb : b < B64) : bits BinOp.and IntKind.u64 (a : Int) (b : Int) = ((jf 38 a b : Nat) : Int) := bits_and_u64_nat a b ha hb
theorem jf_or {a b : Nat} (ha : a < B64) (hb : b < B64) : bits BinOp.or IntKind.u64 (a : Int) (b : Int) = ((jf 124 a b : Nat) : Int) := bits_or_u64_nat a b ha hb
theorem jf_xor {a b : Nat} (ha : a < B64) (hb : b < B64) : bits BinOp.xor IntKind.u64 (a : Int) (b : Int) = ((jf 94 a b : Nat) : Int) := bits_xor_u64_nat a b ha hb
set_option maxHeartbeats 2000000 in
theorem R2Joined_ok (A A' : Option Addr) (n n' c c' : Nat) (xs ys : List Nat) (hw s : Int) (N : Nat) (w : World) (hn : n ≤ 4096) (hn' : n' ≤ 4096) (hN : n ≤ N ∧ n' ≤ N ∧ (N = n ∨ N = n')) (hs : hw = 0 ∧ s = 38 ∨ hw = 1 ∧ s = 124 ∨ hw = 2 ∧ s = 94) (hx : Sl w A n c xs) (hy : Sl w A' n' c' ys) :
    Calls Try.prog 25 #[.slice A n c, .slice A' n' c', .int .i64 hw] w fun e w' => Rv w w' e (V (jl s xs ys N)) := by
  obtain ⟨i0, hi, hz0, hz1, hz2⟩ := info_parts Try.info24
  have Hx := Lib.hid hx
  have Hy := Lib.hid hy
  have HN := Lib.hid hN
  have hN4 : N ≤ 4096 := by omega
  clear hx hy hN
  obtain ⟨S, hS⟩ : ∃ S : Int, S = s := ⟨_, rfl⟩
  have HS := Lib.hid hS
  rw [← hS]
  clear hS
  rcases hs with ⟨rfl, rfl⟩ | ⟨rfl, rfl⟩ | ⟨rfl, rfl⟩
  all_goals
    go_enter Try.func25, Try.ntmps25
    go_wp2
    go_loopw [7, 8] (fun v i wr => ∃ (k : Nat) (zs : List Nat), k ≤ N ∧ i = .int .i64 k ∧ wr.ownsRow w.heap.size 24 1 v k (uvs zs) ∧ Hid (JoI w S xs ys k zs wr)) (fun _ i _ => N - (intOf i).toNat)
    case atStart => exact ⟨0, [], by omega, rfl, World.ownsRow_nil _ _ _ _, rfl, Below.refl _ _⟩
    case round =>
      obtain ⟨k, zs, hk, rfl, hown, hH⟩ := hrel
      rcases Nat.lt_or_ge k N with hlt | hge
      · have hcs : (k : Int) < n ∨ ¬ (k : Int) < n ∧ (k : Int) < n' := by have := HN.out; omega
        have hxk : gd xs k < B64 := getD_ws Hx.out.2.2.2.1 k
        have hyk : gd ys k < B64 := getD_ws Hy.out.2.2.2.1 k
        have Hb := Lib.hid (And.intro (jf_and hxk hyk) (And.intro (jf_or hxk hyk) (jf_xor hxk hyk)))
        have hsz := hH.out.2.size
        have HX := Lib.hid (Hx.out.below hH.out.2)
        have HY := Lib.hid (Hy.out.below hH.out.2)
        obtain ⟨A1, c1, rfl, _⟩ := own_form hown
        clear hxk hyk
        rcases hcs with hki | ⟨hki, hki2⟩
        all_goals
          go_wp2_with (fail)
          refine (word_ok A n c xs k wr HX.out).mono ?_
          rintro e w1 ⟨rfl, rfl⟩
          go_wp2_with (fail)
          refine (word_ok A' n' c' ys k wr HY.out).mono ?_
          rintro e w1 ⟨rfl, rfl⟩
          obtain ⟨h1, h2, h3⟩ := Hb.out
          first | rw [← HS.out] at h1 | rw [← HS.out] at h2 | rw [← HS.out] at h3
          go_wp2_with (at_builtin; refine wpList_append_rd _ rfl _ _ 22 rfl w.heap.size 24 i0 (.int .u64 0) Try.underlying22 hi hz0 hz1 hz2 rfl (.slice A1 k c1) k _ rfl (hown.alloc _) _ (some ⟨wr.heap.size, 0, none⟩) 1 1 [.int .u64 ((jf S (gd xs k) (gd ys k) : Nat) : Int)] rfl rfl (Rd.one _ _ _) (by simp [Value.oneCell']) (by omega) (by simp; omega) ?_)
          intro v1 w1 hown1 hgrow hblk
          have hb1 : Below w.heap.size w w1 := (hH.out.2.alloc hsz _).grown hgrow (by simp; omega) (fun j hj => (hown.lt j hj).1)
          have HN2 : Hid (JoI w S xs ys (k + 1) (jl S xs ys (k + 1)) w1) := ⟨rfl, hb1⟩
          have hown2 : w1.ownsRow w.heap.size 24 1 v1 (k + 1) (uvs (jl S xs ys (k + 1))) := by rw [jl, uvs_append, ← hH.out.1]; exact hown1
          clear h1 h2 h3 hb1 hH hown hown1 hgrow hblk hsz Hb HX HY
          go_wp2
          go_roundw
          case rel => exact ⟨k + 1, _, by omega, by go_num, hown2, HN2⟩
          case measure => simp [intOf]; omega
      · have hkN : k = N := by omega
        subst hkN
        have hk1 : ¬ (k : Int) < n := by have := HN.out; omega
        have hk2 : ¬ (k : Int) < n' := by have := HN.out; omega
        have hnw : Nw w wr u7 k zs := ⟨by rw [hH.out.1, jl_len], by rw [hH.out.1]; exact jl_ws S Hx.out.2.2.2.1 Hy.out.2.2.2.1 k, hown⟩
        obtain ⟨A5, c5, he, hs5⟩ := hnw.sl
        subst he
        have H5 := Lib.hid (And.intro hs5 (And.intro (show V zs = V (jl S xs ys k) by rw [hH.out.1]) hH.out.2))
        clear hs5 hnw hown hH
        go_wp2_with (fail)
        refine (RTrim_ok A5 k c5 zs wr (by omega) H5.out.1).mono ?_
        rintro e w6 hR
        obtain ⟨v, rfl, h7, hb7⟩ := hR.from H5.out.2.2
        rw [H5.out.2.1] at h7
        have H7 := Lib.hid (And.intro h7 hb7)
        clear h7 hb7 hR
        go_wp2_with (fail)
        go_ret
        exact ⟨v, rfl, H7.out.1, H7.out.2⟩
end Go.Proofs.Ytglfpcjipbnlfaa

namespace Go.Proofs.Ytglfpcjipbnlfaa
open Go.RowKit Go.Shelf
set_option linter.unusedVariables false
set_option maxRecDepth 10000

/-- the sign of a way to join, and its function -/
def Jw (s : Int) (f : Nat) : Prop := s = 38 ∧ f = 117 ∨ s = 124 ∧ f = 118 ∨ s = 94 ∧ f = 119
set_option maxHeartbeats 400000 in
theorem jointf_ok (s : Int) (f : Nat) (h : Jw s f) (a b : Nat) (ha : a < B64) (hb : b < B64) (w : World) :
    Calls Try.prog f #[.int .u64 a, .int .u64 b] w fun e w' => e = .returned (.int .u64 ((jf s a b : Nat) : Int)) ∧ w = w' := by
  have h1 := jf_and ha hb
  have h2 := jf_or ha hb
  have h3 := jf_xor ha hb
  rcases h with ⟨rfl, rfl⟩ | ⟨rfl, rfl⟩ | ⟨rfl, rfl⟩
  · go_enter Try.func117, Try.ntmps117
    go_wp2
    go_ret
    exact ⟨rfl, rfl⟩
  · go_enter Try.func118, Try.ntmps118
    go_wp2
    go_ret
    exact ⟨rfl, rfl⟩
  · go_enter Try.func119, Try.ntmps119
    go_wp2
    go_ret
    exact ⟨rfl, rfl⟩
theorem jointf_in (s : Int) (f : Nat) (h : Jw s f) : ∀ args W, Sem.run Try.prog (callFunc f args) W = .ok (Next.enter f args) W := by
  rcases h with ⟨_, rfl⟩ | ⟨_, rfl⟩ | ⟨_, rfl⟩
  · exact fun args W => run_callFunc_enter Try.func117 (by kernel_rfl) (by kernel_rfl) args W
  · exact fun args W => run_callFunc_enter Try.func118 (by kernel_rfl) (by kernel_rfl) args W
  · exact fun args W => run_callFunc_enter Try.func119 (by kernel_rfl) (by kernel_rfl) args W
/-- the words that are joined, and those that are not yet -/
def jz (s : Int) (xs ys : List Nat) (N k : Nat) : List Nat := jl s xs ys k ++ List.replicate (N - k) 0
theorem jz_zero (s : Int) (xs ys : List Nat) (N : Nat) : jz s xs ys N 0 = List.replicate N 0 := by simp [jz, jl]
theorem jz_full (s : Int) (xs ys : List Nat) (N : Nat) : jz s xs ys N N = jl s xs ys N := by simp [jz]
theorem jz_len (s : Int) (xs ys : List Nat) {N k : Nat} (h : k ≤ N) : (jz s xs ys N k).length = N := by simp [jz, jl_len]; omega
theorem jz_step (s : Int) (xs ys : List Nat) {N k : Nat} (h : k < N) : (jz s xs ys N k).set k (jf s (gd xs k) (gd ys k)) = jz s xs ys N (k + 1) := by
  obtain ⟨m, rfl⟩ : ∃ m, N = k + 1 + m := ⟨N - (k + 1), by omega⟩
  rw [jz, jz, List.set_append_right _ _ (by rw [jl_len]; omega), jl_len, Nat.sub_self, show k + 1 + m - k = m + 1 by omega, show k + 1 + m - (k + 1) = m by omega, List.replicate_succ, List.set_cons_zero, jl, List.append_assoc]
  rfl
theorem pad_getD (xs : List Nat) (n k : Nat) : gd (pad xs n) k = gd xs k := by
  unfold pad gd
  rw [List.getD_eq_getElem?_getD, List.getD_eq_getElem?_getD]
  rcases Nat.lt_or_ge k xs.length with h | h
  · rw [List.getElem?_append_left h]
  · rw [List.getElem?_append_right h, List.getElem?_eq_none h, List.getElem?_replicate]
    split <;> rfl
theorem jl_pad (s : Int) (xs ys : List Nat) (n : Nat) : ∀ k, jl s (pad xs n) (pad ys n) k = jl s xs ys k
  | 0 => rfl
  | k + 1 => by rw [jl, jl, jl_pad s xs ys n k, pad_getD, pad_getD]
/-- what the loop keeps -/
def JnI (w w0 : World) (g N : Nat) (s : Int) (xs ys : List Nat) (k : Nat) (W : World) : Prop := RowAt W g (jz s xs ys N k) ∧ w0.grownBy W (some g) ∧ Below w.heap.size w W
set_option maxHeartbeats 4000000 in
theorem joined_ok (A A' : Option Addr) (n n' c c' : Nat) (xs ys : List Nat) (s : Int) (f N : Nat) (w : World) (hn : n ≤ 4096) (hn' : n' ≤ 4096) (hN : Mx N n n') (hs : Jw s f) (hx : Sl w A n c xs) (hy : Sl w A' n' c' ys) :
    Calls Try.prog 61 #[.slice A n c, .int .u8 s, .slice A' n' c'] w fun e w' => ∃ v, e = .returned (.tuple #[v, .int .i64 0]) ∧ Nt w w' v (V (jl s xs ys N)) ∧ Below w.heap.size w w' := by
  obtain ⟨i0, hi, hz0, hz1, hz2⟩ := info_parts Try.info24
  have Hx := Lib.hid (And.intro hx hy)
  have Hk := Lib.hid (chkS_two (A := A) (A' := A') (c := c) (c' := c') hn hn')
  have hent := jointf_in s f hs
  have HJ := Lib.hid (fun a b ha hb w => jointf_ok s f hs a b ha hb w)
  have Hs := Lib.hid hs
  unfold Mx at hN
  have HM : Hid (Mx N n N ∧ Mx N n' N) := ⟨⟨by omega, by omega, by omega⟩, ⟨by omega, by omega, by omega⟩⟩
  have hN4 : N ≤ 4096 := by omega
  have hcase : ((n : Int) < n' ∧ N = n') ∨ (¬ (n : Int) < n' ∧ N = n) := by omega
  clear hx hy hs hN
  rcases hcase with ⟨hnn, hNe⟩ | ⟨hnn, hNe⟩
  all_goals
    subst hNe
    go_enter Try.func61, Try.ntmps61
    go_wp2_with (fail)
    refine (checkSizes_two A A' _ _ c c' _ _ w rfl).mono ?_
    rintro e w1 ⟨rfl, hb1⟩
    rw [Hk.out]
    go_wp2_with (fail)
    refine (row_ok A _ c N N xs w1 (by omega) HM.out.1 (Hx.out.1.below hb1)).mono ?_
    rintro e w2 ⟨A2, c2, rfl, hs2, hb2⟩
    have H2 := Lib.hid (And.intro hs2 (And.intro (Hx.out.2.below hb1 |>.below hb2) (hb1.trans (hb2.mono hb1.size))))
    clear hs2 hb2 hb1
    go_wp2_with (fail)
    refine (row_ok A' _ c' N N ys w2 (by omega) HM.out.2 H2.out.2.1).mono ?_
    rintro e w3 ⟨A3, c3, rfl, hs3, hb3⟩
    have H3 := Lib.hid (And.intro (H2.out.1.below hb3) (And.intro hs3 (H2.out.2.2.trans (hb3.mono H2.out.2.2.size))))
    clear hs3 hb3 H2
    go_wp2_with (fail)
    refine (joint_ok s f w3 Hs.out).mono ?_
    rintro e w4 ⟨rfl, hb4⟩
    have H4 := Lib.hid (And.intro (H3.out.1.below hb4) (And.intro (H3.out.2.1.below hb4) (H3.out.2.2.trans (hb4.mono H3.out.2.2.size))))
    clear hb4 H3
    go_wp2_with (at_make; refine wpList_make_full _ rfl _ _ 23 rfl w4.heap.size 24 i0 (.int .u64 0) 1 Try.underlying23 hi hz0 hz1 .i64 .i64 _ _ N rfl rfl rfl rfl (by rw [hz2]; omega) (by unfold maxLen; omega) (Nat.le_refl _) ?_)
    intro w5 hown hgrow
    have hb5 := below_of_grown hgrow (Nat.le_refl _)
    have hrow := RowAt_zeros (by simpa using hown)
    have HT : Hid (JnI w w5 w4.heap.size N s (pad xs N) (pad ys N) 0 w5) := ⟨by rw [jz_zero]; exact hrow, World.grownBy.refl _ _, H4.out.2.2.trans (hb5.mono H4.out.2.2.size)⟩
    have HX := Lib.hid (And.intro (H4.out.1.below hb5) (H4.out.2.1.below hb5))
    have hX2 : (∀ b o, A2 = some ⟨b, o, none⟩ → pad xs N ≠ [] → b < w4.heap.size) ∧ (∀ b o, A3 = some ⟨b, o, none⟩ → pad ys N ≠ [] → b < w4.heap.size) := ⟨fun b o e h => by
        obtain ⟨b', o', e', h', _⟩ := H4.out.1.2.2.2.2 (by intro h2; exact h (by have := congrArg List.length h2; rw [uvs_length] at this; exact List.eq_nil_of_length_eq_zero this))
        rw [e] at e'; injection e' with e'; injection e' with e1 _; omega, fun b o e h => by
        obtain ⟨b', o', e', h', _⟩ := H4.out.2.1.2.2.2.2 (by intro h2; exact h (by have := congrArg List.length h2; rw [uvs_length] at this; exact List.eq_nil_of_length_eq_zero this))
        rw [e] at e'; injection e' with e'; injection e' with e1 _; omega⟩
    have HL := Lib.hid hX2
    have hg0 : w.heap.size ≤ w4.heap.size := H4.out.2.2.size
    clear hown hgrow hb5 hrow hX2 H4
    generalize w4.heap.size = g at *
    go_wp2_with (fail)
    go_loopw [37] (fun iv wr => ∃ k : Nat, k ≤ N ∧ iv = .int .i64 k ∧ Hid (JnI w w5 g N s (pad xs N) (pad ys N) k wr)) (fun iv _ => N - (intOf iv).toNat)
    case atStart => exact ⟨0, Nat.zero_le _, rfl, HT.out⟩
    case round =>
      clear HT
      obtain ⟨k, hk, rfl, hH⟩ := hrel
      by_cases hlt : k < N
      · have hxl : k < (pad xs N).length := by rw [HX.out.1.1]; exact hlt
        have hyl : k < (pad ys N).length := by rw [HX.out.2.1]; exact hlt
        have hgx := List.getElem?_eq_getElem hxl
        have hgy := List.getElem?_eq_getElem hyl
        have hxB := HX.out.1.2.2.2.1 _ (List.getElem_mem hxl)
        have hyB := HX.out.2.2.2.2.1 _ (List.getElem_mem hyl)
        obtain ⟨b, o, rfl, _, hcx0⟩ := HX.out.1.2.2.2.2.at (uvs_get hgx)
        obtain ⟨b', o', rfl, _, hcy0⟩ := HX.out.2.2.2.2.2.at (uvs_get hgy)
        have hbl : b < g := HL.out.1 b o rfl (by intro h; rw [h] at hxl; simp at hxl)
        have hbl' : b' < g := HL.out.2 b' o' rfl (by intro h; rw [h] at hyl; simp at hyl)
        have hst := jz_step s (pad xs N) (pad ys N) hlt
        rw [gd, gd, List.getD_eq_getElem?_getD, List.getD_eq_getElem?_getD, hgx, hgy, Option.getD_some, Option.getD_some] at hst
        generalize (pad xs N)[k] = x at *
        generalize (pad ys N)[k] = y at *
        have hcx : wr.cell? ⟨b, o + k, none⟩ = some (.int .u64 (x : Int)) := hH.out.2.1.cell hcx0 (by intro e; injection e with e; simp at e; omega)
        have hcy : wr.cell? ⟨b', o' + k, none⟩ = some (.int .u64 (y : Int)) := hH.out.2.1.cell hcy0 (by intro e; injection e with e; simp at e; omega)
        have hzl : k < (jz s (pad xs N) (pad ys N) N k).length := by rw [jz_len _ _ _ hk]; exact hlt
        have hcz := hH.out.1.cell (List.getElem?_eq_getElem hzl)
        have hfz := hH.out.1.frozen k
        generalize (jz s (pad xs N) (pad ys N) N k)[k] = z0 at *
        have Hc := Lib.hid (HJ.out x y hxB hyB)
        obtain ⟨z, hz⟩ : ∃ z, jf s x y = z := ⟨_, rfl⟩
        rw [hz] at Hc hst
        have HN : Hid (JnI w w5 g N s (pad xs N) (pad ys N) (k + 1) (wr.setCell ⟨g, k, none⟩ (.int .u64 (z : Int))).drew) :=
          ⟨by rw [← hst]; exact hH.out.1.set k z, grown_drew (grown_trans hH.out.2.1 (grown_set _ _ _ _)), (hH.out.2.2.setCell (p := ⟨g, k, none⟩) hg0 _).drew⟩
        have hki : (k : Int) < N := by omega
        have hkx : (wr.setCell ⟨g, k, none⟩ (.int .u64 (z : Int))).drew.cell? ⟨b, o + k, none⟩ = some (.int .u64 (x : Int)) := (World.cell?_setCell_other _ _ _ _ (fun e => by injection e with e; omega)).trans hcx
        have hky : (wr.setCell ⟨g, k, none⟩ (.int .u64 (z : Int))).drew.cell? ⟨b', o' + k, none⟩ = some (.int .u64 (y : Int)) := (World.cell?_setCell_other _ _ _ _ (fun e => by injection e with e; omega)).trans hcy
        clear hcx0 hcy0 hbl hbl' hst hz hzl hxB hyB hgx hgy hxl hyl hH
        go_wp2_with (fail)
        go_region_held3 (fun w' => w'.cell? ⟨b, o + k, none⟩ = some (.int .u64 (x : Int)) ∧ w'.cell? ⟨b', o' + k, none⟩ = some (.int .u64 (y : Int)))
          (first | exact ⟨hcx, hcy⟩ | exact ⟨hkx, hky⟩ | go_keep)
          (first | (refine (Hc.out _).mono ?_; rintro e w' ⟨rfl, rfl⟩))
        go_wp2_with (fail)
        go_roundw
        case rel => exact ⟨k + 1, by omega, by go_num, HN⟩
        case measure => simp [intOf]; omega
      · have hki : ¬ (k : Int) < N := by omega
        have hkN : k = N := by omega
        have H6 := hH.out
        unfold JnI at H6
        rw [hkN, jz_full, jl_pad] at H6
        have hws := jl_ws s (xs := xs) (ys := ys) (fun x hx => HX.out.1.2.2.2.1 x (List.mem_append_left _ hx)) (fun x hx => HX.out.2.2.2.2.1 x (List.mem_append_left _ hx)) N
        have hown := H6.1.own hg0 (by rw [jl_len]; omega)
        rw [jl_len] at hown
        have hnw : Nw w wr (.slice (some ⟨g, 0, none⟩) N N) N (jl s xs ys N) := ⟨jl_len _ _ _ _, hws, hown⟩
        obtain ⟨A5, c5, he, hs5⟩ := hnw.sl
        injection he with e1 e2 e3
        subst e1 e3
        have H7 := Lib.hid (And.intro hnw (And.intro hs5 H6.2.2))
        clear hnw hs5 hown hws H6 hH
        go_wp2_with (fail)
        refine (used_ok _ _ _ _ _ (by omega) H7.out.2.1).mono ?_
        rintro e w5 ⟨j, rfl, hj, hH, rfl⟩
        have H8 := Lib.hid (And.intro hj hH.out)
        clear hj hH
        go_wp2_with (fail)
        go_ret2
        exact ⟨_, rfl, ⟨j, _, H7.out.1.tk H8.out.1, H8.out.2.2, H8.out.2.1⟩, H7.out.2.2⟩
set_option maxHeartbeats 400000 in
theorem NAnd_ok (A A' : Option Addr) (n n' c c' : Nat) (xs ys : List Nat) (N : Nat) (w : World) (hn : n ≤ 4096) (hn' : n' ≤ 4096) (hN : Mx N n n') (hx : Sl w A n c xs) (hy : Sl w A' n' c' ys) :
    Calls Try.prog 22 #[.slice A n c, .slice A' n' c'] w fun e w' => ∃ v, e = .returned (.tuple #[v, .int .i64 0]) ∧ Nt w w' v (V (jl 38 xs ys N)) ∧ Below w.heap.size w w' := by
  have Hx := Lib.hid (And.intro hx (And.intro hy hN))
  clear hx hy hN
  go_enter Try.func22, Try.ntmps22
  go_wp2_with (fail)
  refine (joined_ok A A' n n' c c' xs ys 38 117 N w hn hn' Hx.out.2.2 (by unfold Jw; simp) Hx.out.1 Hx.out.2.1).mono ?_
  rintro e w1 ⟨v, rfl, h1⟩
  have H1 := Lib.hid h1
  clear h1
  go_wp2_with (fail)
  go_ret2
  exact ⟨v, rfl, H1.out⟩
set_option maxHeartbeats 400000 in
theorem NOr_ok (A A' : Option Addr) (n n' c c' : Nat) (xs ys : List Nat) (N : Nat) (w : World) (hn : n ≤ 4096) (hn' : n' ≤ 4096) (hN : Mx N n n') (hx : Sl w A n c xs) (hy : Sl w A' n' c' ys) :
    Calls Try.prog 23 #[.slice A n c, .slice A' n' c'] w fun e w' => ∃ v, e = .returned (.tuple #[v, .int .i64 0]) ∧ Nt w w' v (V (jl 124 xs ys N)) ∧ Below w.heap.size w w' := by
  have Hx := Lib.hid (And.intro hx (And.intro hy hN))
  clear hx hy hN
  go_enter Try.func23, Try.ntmps23
  go_wp2_with (fail)
  refine (joined_ok A A' n n' c c' xs ys 124 118 N w hn hn' Hx.out.2.2 (by unfold Jw; simp) Hx.out.1 Hx.out.2.1).mono ?_
  rintro e w1 ⟨v, rfl, h1⟩
  have H1 := Lib.hid h1
  clear h1
  go_wp2_with (fail)
  go_ret2
  exact ⟨v, rfl, H1.out⟩
set_option maxHeartbeats 400000 in
theorem NXor_ok (A A' : Option Addr) (n n' c c' : Nat) (xs ys : List Nat) (N : Nat) (w : World) (hn : n ≤ 4096) (hn' : n' ≤ 4096) (hN : Mx N n n') (hx : Sl w A n c xs) (hy : Sl w A' n' c' ys) :
    Calls Try.prog 24 #[.slice A n c, .slice A' n' c'] w fun e w' => ∃ v, e = .returned (.tuple #[v, .int .i64 0]) ∧ Nt w w' v (V (jl 94 xs ys N)) ∧ Below w.heap.size w w' := by
  have Hx := Lib.hid (And.intro hx (And.intro hy hN))
  clear hx hy hN
  go_enter Try.func24, Try.ntmps24
  go_wp2_with (fail)
  refine (joined_ok A A' n n' c c' xs ys 94 119 N w hn hn' Hx.out.2.2 (by unfold Jw; simp) Hx.out.1 Hx.out.2.1).mono ?_
  rintro e w1 ⟨v, rfl, h1⟩
  have H1 := Lib.hid h1
  clear h1
  go_wp2_with (fail)
  go_ret2
  exact ⟨v, rfl, H1.out⟩
end Go.Proofs.Ytglfpcjipbnlfaa

namespace Go.Proofs.Ytglfpcjipbnlfaa
open Go.RowKit Go.Shelf
set_option linter.unusedVariables false
set_option maxRecDepth 10000

/-- a slice of numbers, the rows xss -/
def Nl (w : World) (A : Option Addr) (m c : Nat) (ls : List (Option Addr × Nat × Nat)) (xss : List (List Nat)) : Prop :=
  ls.length = m ∧ Rd w w.heap.size A (svs ls) ∧ xss.length = m ∧ ∀ (i : Nat) (s : Option Addr × Nat × Nat) (xs : List Nat), ls[i]? = some s → xss[i]? = some xs → Sl w s.1 s.2.1 s.2.2 xs
theorem Nl.below {w w' : World} {A : Option Addr} {m c : Nat} {ls : List (Option Addr × Nat × Nat)} {xss : List (List Nat)} (h : Nl w A m c ls xss) (hb : Below w.heap.size w w') : Nl w' A m c ls xss :=
  ⟨h.1, (h.2.1.below hb).more hb.size, h.2.2.1, fun i s xs h1 h2 => (h.2.2.2 i s xs h1 h2).below hb⟩
/-- the sum of the first numbers -/
def total (xss : List (List Nat)) : Nat := (xss.map V).sum
theorem total_succ (xss : List (List Nat)) (k : Nat) (h : k < xss.length) : total (xss.take (k + 1)) = total (xss.take k) + V xss[k] := by
  simp only [total]
  rw [List.take_succ_eq_append_getElem h, List.map_append, List.sum_append]; simp
theorem sum_le_of_append (l r : List Nat) : l.sum ≤ (l ++ r).sum := by rw [List.sum_append]; omega
theorem total_le (xss : List (List Nat)) (k : Nat) : total (xss.take k) ≤ total xss := by
  have h := sum_le_of_append ((xss.take k).map V) ((xss.drop k).map V)
  rw [← List.map_append, List.take_append_drop] at h
  exact h

set_option maxHeartbeats 400000 in
theorem checkList_ok (ls : List (Option Addr × Nat × Nat)) (A : Option Addr) (m c : Nat) (w : World) (hl : ls.length = m) (hm : m ≤ 1000) (hr : Rd w w.heap.size A (svs ls)) :
    Calls Try.prog 63 #[.slice A m c] w fun e w' => e = .returned (.int .i64 (chkS ls)) ∧ w = w' := by
  have Hr := Lib.hid (And.intro hl hr)
  have hmi : ¬ (1000 : Int) < (m : Int) := by omega
  clear hl hr
  go_enter Try.func63, Try.ntmps63
  go_wp2_with (fail)
  refine (checkSizes_any ls A m c w Hr.out.1 (by omega) Hr.out.2).mono ?_
  rintro e w1 ⟨rfl, rfl⟩
  go_wp2_with (fail)
  go_ret
  exact ⟨rfl, rfl⟩
set_option maxHeartbeats 400000 in
theorem checkList_many (A : Option Addr) (m c : Nat) (w : World) (hm : 1000 < m) :
    Calls Try.prog 63 #[.slice A m c] w fun e w' => e = .returned (.int .i64 1) ∧ w = w' := by
  have hmi : (1000 : Int) < (m : Int) := by omega
  go_enter Try.func63, Try.ntmps63
  go_wp2_with (fail)
  go_ret
  exact ⟨rfl, rfl⟩
set_option maxHeartbeats 400000 in
theorem Sum_err {A : Option Addr} {m c : Nat} {E : Int} {w : World} (hE : (E == 0) = false)
    (H : Calls Try.prog 63 #[.slice A m c] w fun e w' => e = .returned (.int .i64 E) ∧ w = w') :
    Calls Try.prog 27 #[.slice A m c] w fun e w' => e = .returned (.tuple #[.slice none 0 0, .int .i64 E]) ∧ w = w' := by
  have Hc := Lib.hid H
  have hE2 : (E != 0) = true := by rw [bne, hE]; rfl
  clear H
  go_enter Try.func27, Try.ntmps27
  go_wp2_with (fail)
  refine Hc.out.mono ?_
  rintro e w1 ⟨rfl, rfl⟩
  go_wp2_with (fail)
  go_ret2
  exact ⟨rfl, rfl⟩
set_option maxHeartbeats 400000 in
theorem Product_err {A : Option Addr} {m c : Nat} {E : Int} {w : World} (hE : (E == 0) = false)
    (H : Calls Try.prog 63 #[.slice A m c] w fun e w' => e = .returned (.int .i64 E) ∧ w = w') :
    Calls Try.prog 28 #[.slice A m c] w fun e w' => e = .returned (.tuple #[.slice none 0 0, .int .i64 E]) ∧ w = w' := by
  have Hc := Lib.hid H
  have hE2 : (E != 0) = true := by rw [bne, hE]; rfl
  clear H
  go_enter Try.func28, Try.ntmps28
  go_wp2_with (fail)
  refine Hc.out.mono ?_
  rintro e w1 ⟨rfl, rfl⟩
  go_wp2_with (fail)
  go_ret2
  exact ⟨rfl, rfl⟩

theorem chkS_each {ls : List (Option Addr × Nat × Nat)} (h : chkS ls = 0) (k : Nat) (hk : k < ls.length) : ls[k].2.1 ≤ 4096 := by
  rcases Nat.lt_or_ge 4096 ls[k].2.1 with h1 | h1
  · have := anyS_get (fun s => decide (4096 < s.2.1)) ls k hk (by simpa using h1)
    simp [chkS, this] at h
  · exact h1
set_option maxHeartbeats 1000000 in
theorem joinAdd_ok (ls : List (Option Addr × Nat × Nat)) (A : Option Addr) (m c : Nat) (xss : List (List Nat)) (w : World) (hm : m ≤ 1000) (hk : chkS ls = 0) (hx : Nl w A m c ls xss) :
    Calls Try.prog 64 #[.func (.func 31) #[] #[], .slice none 0 0, .slice A m c] w fun e w' => Rs w w' e (total xss) := by
  have Hx := Lib.hid hx
  have Hk := Lib.hid hk
  clear hx hk
  go_enter Try.func64, Try.ntmps64
  go_wp2
  go_loopw [1, 9, 10, 11, 14] (fun zv _ _ _ iv wr => ∃ (k : Nat) (Az : Option Addr) (nz cz : Nat) (zs : List Nat), k ≤ m ∧ iv = .int .i64 k ∧ zv = .slice Az nz cz ∧ Hid (Nu w wr Az nz cz zs (total (xss.take k)))) (fun _ _ _ _ iv _ => m - (intOf iv).toNat)
  case atStart => exact ⟨0, none, 0, 0, [], Nat.zero_le _, rfl, rfl, ⟨rfl, by omega, by omega, Ws_nil, Rd.nil⟩, Cn_nil, rfl, by omega, Nt.nil _ _, Below.refl _ _⟩
  case round =>
    obtain ⟨k, Az, nz, cz, zs, hk, rfl, rfl, hH⟩ := hrel
    by_cases hlt : k < m
    · have hkl : k < ls.length := by rw [Hx.out.1]; exact hlt
      have hkx : k < xss.length := by rw [Hx.out.2.2.1]; exact hlt
      obtain ⟨b, o, rfl, _, hcx⟩ := (Hx.out.below hH.out.bel).2.1.at (svs_get (List.getElem?_eq_getElem hkl))
      have Hs := Lib.hid (And.intro ((Hx.out.below hH.out.bel).2.2.2 k _ _ (List.getElem?_eq_getElem hkl) (List.getElem?_eq_getElem hkx)) (And.intro (chkS_each Hk.out k hkl) (And.intro (total_succ xss k hkx) (total_le xss (k + 1)))))
      generalize ls[k] = z at *
      generalize xss[k] = xs at *
      obtain ⟨za, zn, zc⟩ := z
      have hki : (k : Int) < m := by omega
      clear hkl hkx
      go_wp2_with (fail)
      refine (NAdd_ok Az za nz zn cz zc zs xs wr hH.out.2.2.2.1 Hs.out.2.1 hH.out.1 Hs.out.1).mono ?_
      rintro e w1 hR
      obtain ⟨h1, hb1⟩ := hR.from hH.out.bel
      rw [hH.out.2.2.1, ← Hs.out.2.2.1] at h1
      rcases h1 with ⟨v, rfl, h2, h3⟩ | ⟨rfl, h3⟩
      · obtain ⟨A1, n1, c1, us, rfl, hN⟩ := Nu.of h2 hb1 h3
        have HN := Lib.hid hN
        clear hN h2 h3 hR hb1 hH Hs
        go_wp2_with (fail)
        go_roundw
        case rel => exact ⟨k + 1, A1, n1, c1, us, by omega, by go_num, rfl, HN⟩
        case measure => simp [intOf]; omega
      · have H3 := Lib.hid (And.intro (Nat.le_trans h3 Hs.out.2.2.2) hb1)
        clear h3 hb1 hR hH Hs
        go_wp2_with (fail)
        go_ret2
        exact ⟨.inr ⟨rfl, H3.out.1⟩, H3.out.2⟩
    · have hki : ¬ (k : Int) < m := by omega
      have hkm : k = m := by omega
      go_wp2_with (fail)
      go_ret2
      have h := hH.out
      rw [List.take_of_length_le (by rw [Hx.out.2.2.1]; omega)] at h
      exact ⟨.inl ⟨_, rfl, h.2.2.2.2.1, by rw [← h.2.2.1]; exact Big_of h.1.lt h.2.2.2.1⟩, h.bel⟩
set_option maxHeartbeats 1000000 in
theorem Sum_ok (ls : List (Option Addr × Nat × Nat)) (A : Option Addr) (m c : Nat) (xss : List (List Nat)) (w : World) (hm : m ≤ 1000) (hk : chkS ls = 0) (hx : Nl w A m c ls xss) :
    Calls Try.prog 27 #[.slice A m c] w fun e w' => Rs w w' e (total xss) := by
  have Hx := Lib.hid hx
  have Hk := Lib.hid hk
  clear hx hk
  go_enter Try.func27, Try.ntmps27
  go_wp2_with (fail)
  refine (checkList_ok ls A m c w Hx.out.1 hm Hx.out.2.1).mono ?_
  rintro e w1 ⟨rfl, rfl⟩
  rw [Hk.out]
  go_wp2_with (fail)
  refine (joinAdd_ok ls A m c xss w hm Hk.out Hx.out).mono ?_
  rintro e w1 ⟨h1, hb1⟩
  rcases h1 with ⟨v, rfl, h2, h3⟩ | ⟨rfl, h3⟩
  · have H := Lib.hid (And.intro h2 (And.intro h3 hb1))
    clear h2 h3 hb1
    go_wp2_with (fail)
    go_ret2
    exact ⟨.inl ⟨v, rfl, H.out.1, H.out.2.1⟩, H.out.2.2⟩
  · have H := Lib.hid (And.intro h3 hb1)
    clear h3 hb1
    go_wp2_with (fail)
    go_ret2
    exact ⟨.inr ⟨rfl, H.out.1⟩, H.out.2⟩
end Go.Proofs.Ytglfpcjipbnlfaa

namespace Go.Proofs.Ytglfpcjipbnlfaa
open Go.RowKit Go.Shelf
set_option linter.unusedVariables false
set_option maxRecDepth 10000

/-- the product of numbers -/
def prodl : List (List Nat) → Nat
  | [] => 1
  | xs :: l => V xs * prodl l
theorem prodl_append (l r : List (List Nat)) : prodl (l ++ r) = prodl l * prodl r := by
  induction l with
  | nil => simp [prodl]
  | cons x l ih => simp only [List.cons_append, prodl, ih, Nat.mul_assoc]
theorem prodl_succ (xss : List (List Nat)) (k : Nat) (h : k < xss.length) : prodl (xss.take (k + 1)) = prodl (xss.take k) * V xss[k] := by
  rw [List.take_succ_eq_append_getElem h, prodl_append]
  simp [prodl]
theorem prodl_pos (l : List (List Nat)) (h : ∀ xs ∈ l, 0 < V xs) : 0 < prodl l := by
  induction l with
  | nil => decide
  | cons x l ih => exact Nat.mul_pos (h x (List.mem_cons_self)) (ih fun xs hx => h xs (List.mem_cons_of_mem _ hx))
theorem prodl_le (xss : List (List Nat)) (h : ∀ xs ∈ xss, 0 < V xs) (k : Nat) : prodl (xss.take k) ≤ prodl xss := by
  have h1 := prodl_append (xss.take k) (xss.drop k)
  rw [List.take_append_drop] at h1
  rw [h1]
  exact Nat.le_mul_of_pos_right _ (prodl_pos _ fun xs hx => h xs (List.mem_of_mem_drop hx))
theorem prodl_zero (l : List (List Nat)) {k : Nat} {xs : List Nat} (h : l[k]? = some xs) (h0 : V xs = 0) : prodl l = 0 := by
  induction l generalizing k with
  | nil => simp at h
  | cons x l ih =>
    cases k with
    | zero => simp at h; subst h; rw [prodl, h0, Nat.zero_mul]
    | succ k => simp at h; rw [prodl, ih h, Nat.mul_zero]

set_option maxHeartbeats 1000000 in
theorem joinMul_ok (ls : List (Option Addr × Nat × Nat)) (A : Option Addr) (m c : Nat) (xss : List (List Nat)) (A0 : Option Addr) (n0 c0 : Nat) (zs0 : List Nat) (w0 w : World) (hm : m ≤ 1000) (hk : chkS ls = 0) (hp : ∀ xs ∈ xss, 0 < V xs)
    (h0 : Nu w0 w A0 n0 c0 zs0 1) (hx : Nl w A m c ls xss) :
    Calls Try.prog 64 #[.func (.func 33) #[] #[], .slice A0 n0 c0, .slice A m c] w fun e w' => Rs w0 w' e (prodl xss) := by
  have Hx := Lib.hid hx
  have Hk := Lib.hid hk
  have Hp := Lib.hid hp
  have H0 := Lib.hid h0
  clear hx hk hp h0
  go_enter Try.func64, Try.ntmps64
  go_wp2
  go_loopw [1, 9, 10, 11, 14] (fun zv _ _ _ iv wr => ∃ (k : Nat) (Az : Option Addr) (nz cz : Nat) (zs : List Nat), k ≤ m ∧ iv = .int .i64 k ∧ zv = .slice Az nz cz ∧ Hid (Nu w0 wr Az nz cz zs (prodl (xss.take k)) ∧ Below w.heap.size w wr)) (fun _ _ _ _ iv _ => m - (intOf iv).toNat)
  case atStart => exact ⟨0, A0, n0, c0, zs0, Nat.zero_le _, rfl, rfl, H0.out, Below.refl _ _⟩
  case round =>
    obtain ⟨k, Az, nz, cz, zs, hk, rfl, rfl, hH⟩ := hrel
    by_cases hlt : k < m
    · have hkl : k < ls.length := by rw [Hx.out.1]; exact hlt
      have hkx : k < xss.length := by rw [Hx.out.2.2.1]; exact hlt
      obtain ⟨b, o, rfl, _, hcx⟩ := (Hx.out.below hH.out.2).2.1.at (svs_get (List.getElem?_eq_getElem hkl))
      have Hs := Lib.hid (And.intro ((Hx.out.below hH.out.2).2.2.2 k _ _ (List.getElem?_eq_getElem hkl) (List.getElem?_eq_getElem hkx)) (And.intro (chkS_each Hk.out k hkl) (And.intro (prodl_succ xss k hkx) (prodl_le xss Hp.out (k + 1)))))
      generalize ls[k] = z at *
      generalize xss[k] = xs at *
      obtain ⟨za, zn, zc⟩ := z
      have hki : (k : Int) < m := by omega
      clear hkl hkx
      go_wp2_with (fail)
      refine (NMul_ok Az za nz zn cz zc zs xs wr hH.out.1.2.2.2.1 Hs.out.2.1 hH.out.1.1 Hs.out.1).mono ?_
      rintro e w1 hR
      have hb2 := hR.2
      obtain ⟨h1, hb1⟩ := hR.from hH.out.1.bel
      rw [hH.out.1.2.2.1, ← Hs.out.2.2.1] at h1
      rcases h1 with ⟨v, rfl, h2, h3⟩ | ⟨rfl, h3⟩
      · obtain ⟨A1, n1, c1, us, rfl, hN⟩ := Nu.of h2 hb1 h3
        have HN := Lib.hid (And.intro hN (hH.out.2.trans (hb2.mono hH.out.2.size)))
        clear hN h2 h3 hR hb1 hH Hs hb2
        go_wp2_with (fail)
        go_roundw
        case rel => exact ⟨k + 1, A1, n1, c1, us, by omega, by go_num, rfl, HN⟩
        case measure => simp [intOf]; omega
      · have H3 := Lib.hid (And.intro (Nat.le_trans h3 Hs.out.2.2.2) hb1)
        clear h3 hb1 hR hH Hs hb2
        go_wp2_with (fail)
        go_ret2
        exact ⟨.inr ⟨rfl, H3.out.1⟩, H3.out.2⟩
    · have hki : ¬ (k : Int) < m := by omega
      have hkm : k = m := by omega
      go_wp2_with (fail)
      go_ret2
      have h := hH.out.1
      rw [List.take_of_length_le (by rw [Hx.out.2.2.1]; omega)] at h
      exact ⟨.inl ⟨_, rfl, h.2.2.2.2.1, by rw [← h.2.2.1]; exact Big_of h.1.lt h.2.2.2.1⟩, h.bel⟩
theorem mem_pos {xss : List (List Nat)} (h : ∀ k, k < xss.length → ∀ xs, xss[k]? = some xs → 0 < V xs) : ∀ xs ∈ xss, 0 < V xs := fun xs hx => by
  obtain ⟨k, hk⟩ := List.getElem?_of_mem hx
  refine h k ?_ xs hk
  rcases Nat.lt_or_ge k xss.length with h1 | h1
  · exact h1
  · rw [List.getElem?_eq_none h1] at hk; cases hk
theorem one_Big : 1 < Big := Big_of (k := 1) (by decide) (by omega)
set_option maxHeartbeats 1000000 in
theorem Product_ok (ls : List (Option Addr × Nat × Nat)) (A : Option Addr) (m c : Nat) (xss : List (List Nat)) (w : World) (hm : m ≤ 1000) (hk : chkS ls = 0) (hx : Nl w A m c ls xss) :
    Calls Try.prog 28 #[.slice A m c] w fun e w' => Rs w w' e (prodl xss) := by
  have Hx := Lib.hid hx
  have Hk := Lib.hid hk
  clear hx hk
  go_enter Try.func28, Try.ntmps28
  go_wp2_with (fail)
  refine (checkList_ok ls A m c w Hx.out.1 hm Hx.out.2.1).mono ?_
  rintro e w1 ⟨rfl, rfl⟩
  rw [Hk.out]
  go_wp2_with (fail)
  go_loop [14] (fun iv => ∃ k : Nat, k ≤ m ∧ iv = .int .i64 k ∧ Hid (∀ j, j < k → ∀ xs, xss[j]? = some xs → 0 < V xs)) (fun iv => m - (intOf iv).toNat)
  case atStart => exact ⟨0, Nat.zero_le _, rfl, fun j h => by omega⟩
  case round =>
    obtain ⟨k, hk, rfl, hH⟩ := hrel
    by_cases hlt : k < m
    · have hkl : k < ls.length := by rw [Hx.out.1]; exact hlt
      have hkx : k < xss.length := by rw [Hx.out.2.2.1]; exact hlt
      obtain ⟨b, o, rfl, _, hcx⟩ := Hx.out.2.1.at (svs_get (List.getElem?_eq_getElem hkl))
      have Hs := Lib.hid (And.intro (Hx.out.2.2.2 k _ _ (List.getElem?_eq_getElem hkl) (List.getElem?_eq_getElem hkx)) (And.intro (chkS_each Hk.out k hkl) (List.getElem?_eq_getElem hkx)))
      generalize ls[k] = z at *
      generalize xss[k] = xs at *
      obtain ⟨za, zn, zc⟩ := z
      have hki : (k : Int) < m := by omega
      clear hkl hkx
      go_wp2_with (fail)
      have hz4 := Hs.out.2.1
      refine (used_ok za zn zc xs w (by omega) Hs.out.1).mono ?_
      rintro e w2 ⟨q, rfl, hq, hU, rfl⟩
      clear hz4
      rcases Nat.eq_zero_or_pos q with rfl | h1
      · have HZ := Lib.hid (prodl_zero xss Hs.out.2.2 (by rw [← hU.out.1]; simp [V]))
        go_wp2_with (fail)
        go_ret2
        refine ⟨.inl ⟨_, rfl, ?_, ?_⟩, Below.refl _ _⟩
        · rw [HZ.out]; exact Nt.nil _ _
        · rw [HZ.out]; exact Nat.pow_pos B64_pos
      · have hq0 : ((q : Int) == 0) = false := by simp; omega
        have hpos : 0 < V xs := by
          obtain ⟨t, rfl⟩ : ∃ t, q = t + 1 := ⟨q - 1, by omega⟩
          have h2 := V_ge hU.out.2 (show (xs.take (t + 1)).length = t + 1 by rw [List.length_take, Hs.out.1.1]; omega)
          rw [hU.out.1] at h2
          exact Nat.lt_of_lt_of_le (Nat.pow_pos B64_pos) h2
        have HN : Hid (∀ j, j < k + 1 → ∀ ys, xss[j]? = some ys → 0 < V ys) := fun j hj ys hy => by
          rcases Nat.lt_or_ge j k with h3 | h3
          · exact hH.out j h3 ys hy
          · obtain rfl : j = k := by omega
            rw [Hs.out.2.2] at hy
            injection hy with hy
            rw [← hy]; exact hpos
        clear hpos hH hU
        go_wp2_with (fail)
        go_round
        case rel => exact ⟨k + 1, by omega, by go_num, HN⟩
        case measure => simp [intOf]; omega
    · have hki : ¬ (k : Int) < m := by omega
      have Hp := Lib.hid (mem_pos (xss := xss) fun j hj xs hxs => hH.out j (by rw [Hx.out.2.2.1] at hj; omega) xs hxs)
      clear hH
      go_wp2_with (fail)
      refine (NFromWord_ok 1 w (by decide)).mono ?_
      rintro e w3 hR
      obtain ⟨A1, n1, c1, zs1, rfl, h1⟩ := hR.open one_Big
      have H1 := Lib.hid (And.intro h1 (Hx.out.below h1.bel))
      clear h1 hR
      go_wp2_with (fail)
      refine (joinMul_ok ls A m c xss A1 n1 c1 zs1 w w3 hm Hk.out Hp.out H1.out.1 H1.out.2).mono ?_
      rintro e w4 ⟨h1, hb1⟩
      rcases h1 with ⟨v, rfl, h2, h3⟩ | ⟨rfl, h3⟩
      · have H := Lib.hid (And.intro h2 (And.intro h3 hb1))
        clear h2 h3 hb1
        go_wp2_with (fail)
        go_ret2
        exact ⟨.inl ⟨v, rfl, H.out.1, H.out.2.1⟩, H.out.2.2⟩
      · have H := Lib.hid (And.intro h3 hb1)
        clear h3 hb1
        go_wp2_with (fail)
        go_ret2
        exact ⟨.inr ⟨rfl, H.out.1⟩, H.out.2⟩
end Go.Proofs.Ytglfpcjipbnlfaa
