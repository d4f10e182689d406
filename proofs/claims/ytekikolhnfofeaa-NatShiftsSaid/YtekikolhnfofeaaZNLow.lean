/- The contract of nat.Low. -/
import Derived.Test.YtekikolhnfofeaaP4
import Derived.Test.YtekikolhnfofeaaP2
namespace Go.Proofs.Ytekikolhnfofeaa
open Go.RowKit Go.Shelf
set_option linter.unusedVariables false
set_option linter.unusedSimpArgs false
set_option maxRecDepth 10000

theorem take_set (xs : List Nat) (q y z : Nat) (h : xs[q]? = some y) : (xs.take (q + 1)).set q z = xs.take q ++ [z] := by
  have hl : q < xs.length := by
    rcases Nat.lt_or_ge q xs.length with h1 | h1
    · exact h1
    · rw [List.getElem?_eq_none h1] at h; cases h
  rw [List.take_add_one, h]
  have : (xs.take q).length = q := by rw [List.length_take]; omega
  simp only [Option.toList_some]
  rw [List.set_append_right _ _ (by omega), this]
  simp
/-- what a row leaves by 2^s -/
theorem low_value {xs : List Nat} (hw : Ws xs) {q r s y : Nat} (hy : xs[q]? = some y) (hs : s = 64 * q + r) (hr : r ≤ 63) : V ((xs.take (q + 1)).set q (y % 2 ^ r)) = V xs % 2 ^ s := by
  have hl : q < xs.length := by
    rcases Nat.lt_or_ge q xs.length with h1 | h1
    · exact h1
    · rw [List.getElem?_eq_none h1] at hy; cases hy
  have hq : (xs.take q).length = q := by rw [List.length_take]; omega
  rw [take_set _ _ _ _ hy, V_snoc, hq, hs, Nat.pow_add, Nat.pow_mul, show (2 : Nat) ^ 64 = B64 from rfl, Nat.mod_mul, ← V_dropped hw (by omega), V_drop _ _ _ hy]
  have h1 := V_split xs q (by omega)
  have h2 := V_lt _ (Ws_take hw q)
  rw [hq] at h2
  have h3 : V xs % B64 ^ q = V (xs.take q) := by rw [h1, Nat.add_mul_mod_self_right, Nat.mod_eq_of_lt h2]
  have h4 : (y + B64 * V (xs.drop (q + 1))) % 2 ^ r = y % 2 ^ r := by
    have hB : B64 = 2 ^ r * 2 ^ (64 - r) := by
      rw [← Nat.pow_add, show r + (64 - r) = 64 by omega]; rfl
    rw [hB, Nat.mul_assoc, Nat.add_mul_mod_self_left]
  rw [h3, h4, Nat.mul_comm]
theorem low_all {xs : List Nat} (hw : Ws xs) {n q r s : Nat} (hn : xs.length = n) (hs : s = 64 * q + r) (h : n ≤ q) : V xs = V xs % 2 ^ s := by
  rw [Nat.mod_eq_of_lt]
  refine Nat.lt_of_lt_of_le (V_lt _ hw) ?_
  rw [hs, Nat.pow_add, Nat.pow_mul, show (2 : Nat) ^ 64 = B64 from rfl, hn]
  exact Nat.le_trans (Nat.pow_le_pow_right B64_pos h) (Nat.le_mul_of_pos_right _ (Nat.pow_pos (by decide)))
theorem mask_low {y r p : Nat} (hy : y < B64) (hr : r ≤ 63) (hp : p = 2 ^ r - 1) : bits BinOp.and IntKind.u64 (y : Int) (p : Int) = ((y % 2 ^ r : Nat) : Int) := by
  have h := pow_lt r hr
  rw [bits_and_u64_nat _ _ hy (by rw [hp]; exact Nat.lt_of_le_of_lt (Nat.sub_le _ _) h), hp, Nat.and_two_pow_sub_one_eq_mod]

theorem Ws_put {xs : List Nat} (h : Ws xs) {q z : Nat} (hz : z < B64) : Ws (xs.set q z) := fun x hx => by
  rcases List.mem_or_eq_of_mem_set hx with h1 | h1
  · exact h x h1
  · rw [h1]; exact hz
theorem uvs_set (xs : List Nat) (q z : Nat) : uvs (xs.set q z) = (uvs xs).set q (.int .u64 (z : Int)) := by simp [uvs, List.map_set]

set_option maxHeartbeats 1000000 in
theorem NLow_ok (A : Option Addr) (n c : Nat) (xs : List Nat) (s : Nat) (w : World) (hn : n ≤ 4096) (hs : s ≤ 262144) (hx : Sl w A n c xs) :
    Calls Try.prog 34 #[.slice A n c, .int .i64 s] w fun e w' => ∃ v, e = .returned (.tuple #[v, .int .i64 0]) ∧ Nt w w' v (V xs % 2 ^ s) ∧ Below w.heap.size w w' := by
  obtain ⟨i0, hi, hz0, hz1, hz2⟩ := info_parts Try.info37
  have Hx := Lib.hid hx
  obtain ⟨q, r, hqr, hr, hq1, hq2, hr1, hr2⟩ : ∃ q r : Nat, s = 64 * q + r ∧ r ≤ 63 ∧ (s : Int).tdiv 64 = (q : Int) ∧ (s : Int) / 64 = (q : Int) ∧ (s : Int).tmod 64 = (r : Int) ∧ (s : Int) % 64 = (r : Int) :=
    ⟨s / 64, s % 64, by omega, by omega, by rw [Int.tdiv_eq_ediv_of_nonneg (by omega)]; omega, by omega, by rw [Int.tmod_eq_emod_of_nonneg (by omega)]; omega, by omega⟩
  have hqw : IntKind.i64.wrap (q : Int) = (q : Int) := IntWalk.i64_in _ (by omega)
  have hnc := hx.2.1
  have HS := Lib.hid (And.intro hs (And.intro hqr hx.1))
  clear hx hs
  rcases Nat.lt_or_ge q n with hqn | hqn
  · have hqi : ¬ (n : Int) ≤ (q : Int) := by omega
    have hq4 : q ≤ 4096 := by omega
    have hq1w : IntKind.i64.wrap ((q : Int) + 1) = (q : Int) + 1 := IntWalk.i64_in _ (by omega)
    obtain ⟨y, hy⟩ : ∃ y, xs[q]? = some y := ⟨xs[q]'(by rw [Hx.out.1]; exact hqn), List.getElem?_eq_getElem _⟩
    have hyB := Hx.out.2.2.2.1 y (List.mem_of_getElem? hy)
    have hyt : (uvs (xs.take (q + 1)))[q]? = some (.int .u64 (y : Int)) := uvs_get (by rw [List.getElem?_take, if_pos (by omega)]; exact hy)
    have hp := pow_lt r hr
    obtain ⟨p, hpp⟩ : ∃ p : Nat, 2 ^ r = p + 1 := ⟨2 ^ r - 1, by have := Nat.pow_pos (n := r) (show 0 < 2 by decide); omega⟩
    have hpB : p + 1 < B64 := by rw [← hpp]; exact hp
    have hw1 : IntKind.u64.wrap ((1 : Int) * 2 ^ r) = (p : Int) + 1 := by
      have := wrap_u64 1 r
      rw [Nat.one_mul, Nat.mod_eq_of_lt hp, hpp] at this
      exact this
    have hw2 : IntKind.u64.wrap ((2 : Int) ^ r) = (p : Int) + 1 := by rw [← hw1, Int.one_mul]
    have hw3 : IntKind.u64.wrap (p : Int) = (p : Int) := by rw [IntKind.wrap_u64]; have : B64 = 18446744073709551616 := rfl; omega
    obtain ⟨z, hz⟩ : ∃ z, y % 2 ^ r = z := ⟨_, rfl⟩
    have hmask : bits BinOp.and IntKind.u64 (y : Int) (p : Int) = (z : Int) := by rw [← hz]; exact mask_low hyB hr (by omega)
    have hzB : z < B64 := by rw [← hz]; exact Nat.lt_of_le_of_lt (Nat.mod_le _ _) hyB
    have hval := low_value Hx.out.2.2.2.1 hy hqr hr
    rw [hz] at hval
    have HV := Lib.hid (And.intro hval (And.intro hzB hyt))
    clear hval hzB hyt hz hyB hy hp hpp hpB hqr hr
    go_enter Try.func34, Try.ntmps34
    go_wp2_with (fail)
    refine (checkShift_ok A n _ s w hn HS.out.1).mono ?_
    rintro e w1 ⟨rfl, hb1⟩
    have Hl := Lib.hid (And.intro (show (uvs (xs.take (q + 1))).length = q + 1 by rw [uvs_length, List.length_take, Hx.out.1]; omega) (And.intro ((Hx.out.below hb1).tk (k := q + 1) (by omega)).2.2.2.2 hb1))
    have hsz := hb1.size
    clear hb1
    go_wp2_with (at_builtin; refine wpList_append_rd _ rfl (.const (.slice none 0 0)) (.tmp 26) 23 rfl w.heap.size 37 i0 (.int .u64 0) Try.underlying23 hi hz0 hz1 hz2 rfl _ 0 [] rfl (World.ownsRow_nil _ _ _ _) w1.heap.size A (q + 1) c (uvs (xs.take (q + 1))) rfl Hl.out.1 Hl.out.2.1 (uvs_one _) (by omega) (by omega) ?_)
    intro v2 w2 hown hgrow hblk
    have hb2 : Below w.heap.size w w2 := Hl.out.2.2.grown hgrow hsz (by intro j hj; cases hj)
    obtain ⟨g, cap, rfl, hg0, hglt⟩ := hown.form (by omega)
    have hc := (hown.cellAt q (by omega)).trans HV.out.2.2
    have hf := hown.frozenAt q
    obtain ⟨hst, hgr⟩ := World.ownsRow.stored (w := w2.drew) hown q (.int .u64 (z : Int))
    have HW := Lib.hid (And.intro hst (And.intro hgr (And.intro hb2 hg0)))
    have hmix : Try.prog.follows Departure.mixedOrders = true := by kernel_rfl
    have hqi1 : (q : Int) < (q : Int) + 1 := by omega
    clear hown hgrow hblk hb2 hst hgr hg0 Hl hsz
    go_wp2
    refine wp_region_L 10 (fun w' => w'.cell? ⟨g, q, none⟩ = some (.int .u64 (y : Int))) hmix ?_
    have HS0 := Lib.hid (show (fun w' : World => w'.cell? ⟨g, q, none⟩ = some (.int .u64 (y : Int))) w2.drew from hc)
    refine wpAnyL_take (i := 0) (v := ?_) rfl rfl (by kernel_rfl) (by kernel_rfl) (by kernel_rfl) (by kernel_rfl) (by kernel_rfl) (fun _ _ _ h => h) HS0.out (Or.inl ⟨by rfl, ?_⟩) ?_
    rotate_left
    · rintro w q0; go_simp; try with_reducible rfl
    try simp only [Act.put, List.setIfInBounds_toArray, List.set_cons_zero, List.set_cons_succ]
    refine wpAnyL_take (i := 1) (v := ?_) rfl rfl (by kernel_rfl) (by kernel_rfl) (by kernel_rfl) (by kernel_rfl) (by kernel_rfl) (fun _ _ _ h => h) HS0.out (Or.inl ⟨by rfl, ?_⟩) ?_
    rotate_left
    · rintro w q0; go_simp; try with_reducible rfl
    try simp only [Act.put, List.setIfInBounds_toArray, List.set_cons_zero, List.set_cons_succ]
    refine wpAnyL_take (i := 2) (v := ?_) rfl rfl (by kernel_rfl) (by kernel_rfl) (by kernel_rfl) (by kernel_rfl) (by kernel_rfl) (fun _ _ _ h => h) HS0.out (Or.inl ⟨by rfl, ?_⟩) ?_
    rotate_left
    · rintro w q0; go_simp; try with_reducible rfl
    try simp only [Act.put, List.setIfInBounds_toArray, List.set_cons_zero, List.set_cons_succ]
    refine wpAnyL_take (i := 3) (v := ?_) rfl rfl (by kernel_rfl) (by kernel_rfl) (by kernel_rfl) (by kernel_rfl) (by kernel_rfl) (fun _ _ _ h => h) HS0.out (Or.inl ⟨by rfl, ?_⟩) ?_
    rotate_left
    · rintro w q0; go_simp; try with_reducible rfl
    try simp only [Act.put, List.setIfInBounds_toArray, List.set_cons_zero, List.set_cons_succ]
    refine wpAnyL_take (i := 4) (v := ?_) rfl rfl (by kernel_rfl) (by kernel_rfl) (by kernel_rfl) (by kernel_rfl) (by kernel_rfl) (fun _ _ _ h => h) HS0.out (Or.inl ⟨by rfl, ?_⟩) ?_
    rotate_left
    · rintro w q0; go_simp; try with_reducible rfl
    try simp only [Act.put, List.setIfInBounds_toArray, List.set_cons_zero, List.set_cons_succ]
    refine wpAnyL_take (i := 5) (v := ?_) rfl rfl (by kernel_rfl) (by kernel_rfl) (by kernel_rfl) (by kernel_rfl) (by kernel_rfl) (fun _ _ _ h => h) HS0.out (Or.inl ⟨by rfl, ?_⟩) ?_
    rotate_left
    · rintro w q0; go_simp; try with_reducible rfl
    try simp only [Act.put, List.setIfInBounds_toArray, List.set_cons_zero, List.set_cons_succ]
    refine wpAnyL_take (i := 6) (v := ?_) rfl rfl (by kernel_rfl) (by kernel_rfl) (by kernel_rfl) (by kernel_rfl) (by kernel_rfl) (fun _ _ _ h => h) HS0.out (Or.inl ⟨by rfl, ?_⟩) ?_
    rotate_left
    · rintro w q0; go_simp; try with_reducible rfl
    try simp only [Act.put, List.setIfInBounds_toArray, List.set_cons_zero, List.set_cons_succ]
    refine wpAnyL_take (i := 7) (v := ?_) rfl rfl (by kernel_rfl) (by kernel_rfl) (by kernel_rfl) (by kernel_rfl) (by kernel_rfl) (fun _ _ _ h => h) HS0.out (Or.inl ⟨by rfl, ?_⟩) ?_
    rotate_left
    · rintro w q0; go_simp; try with_reducible rfl
    try simp only [Act.put, List.setIfInBounds_toArray, List.set_cons_zero, List.set_cons_succ]
    refine wpAnyL_take (i := 8) (v := ?_) rfl rfl (by kernel_rfl) (by kernel_rfl) (by kernel_rfl) (by kernel_rfl) (by kernel_rfl) (fun _ _ _ h => h) HS0.out (Or.inl ⟨by rfl, ?_⟩) ?_
    rotate_left
    · rintro w q0; go_simp; try with_reducible rfl
    try simp only [Act.put, List.setIfInBounds_toArray, List.set_cons_zero, List.set_cons_succ]
    refine wpAnyL_take (i := 9) (v := ?_) rfl rfl (by kernel_rfl) (by kernel_rfl) (by kernel_rfl) (by kernel_rfl) (by kernel_rfl) (fun _ _ _ h => h) HS0.out (Or.inl ⟨by rfl, ?_⟩) ?_
    rotate_left
    · rintro w q0; go_simp; try with_reducible rfl
    try simp only [Act.put, List.setIfInBounds_toArray, List.set_cons_zero, List.set_cons_succ]
    refine wpAnyL_one (i := 10) rfl (by kernel_rfl) (fun K hK => ?_)
    go_simp
    refine hK.out _ _ (fun h => absurd rfl h) ?_
    clear hK K
    try simp only [Act.put, List.setIfInBounds_toArray, List.set_cons_zero, List.set_cons_succ]
    refine wpAnyL_done (by kernel_rfl) ?_ _
    obtain ⟨us, hus⟩ : ∃ us, (xs.take (q + 1)).set q z = us := ⟨_, rfl⟩
    have hul : us.length = q + 1 := by rw [← hus, List.length_set, List.length_take, Hx.out.1]; omega
    have hnw : Nw w (w2.setCell ⟨g, q, none⟩ (.int .u64 (z : Int))).drew (.slice (some ⟨g, 0, none⟩) (q + 1) cap) (q + 1) us :=
      ⟨hul, by rw [← hus]; exact Ws_put (Ws_take Hx.out.2.2.2.1 _) HV.out.2.1, by rw [← hus, uvs_set]; exact HW.out.1⟩
    have hb3 : Below w.heap.size w (w2.setCell ⟨g, q, none⟩ (.int .u64 (z : Int))).drew := by
      have hb2 := HW.out.2.2.1
      have hgr := HW.out.2.1
      exact below_drewN (hb2.grown (w' := w2.setCell ⟨g, q, none⟩ (.int .u64 (z : Int))) (row := some g) ⟨hgr.os, hgr.tape, hgr.output, hgr.size, hgr.block⟩ hb2.size (by intro j hj; injection hj with hj; rw [← hj]; exact HW.out.2.2.2)) 1
    obtain ⟨A', c', he, hs3⟩ := hnw.sl
    injection he with e1 e2 e3
    subst e1 e3
    have H3 := Lib.hid (And.intro hs3 (And.intro hnw (And.intro (show V us = V xs % 2 ^ s by rw [← hus]; exact HV.out.1) hb3)))
    clear hs3 hnw hb3 hul hus HS0 HW hc hf
    go_wp2_with (fail)
    refine (used_ok _ _ _ us _ (by omega) H3.out.1).mono ?_
    rintro e w4 ⟨j, rfl, hj, hH, rfl⟩
    have H4 := Lib.hid (And.intro hj hH.out)
    clear hj hH
    go_wp2_with (fail)
    go_ret2
    exact ⟨_, rfl, ⟨j, us.take j, H3.out.2.1.tk H4.out.1, H4.out.2.2, by rw [H4.out.2.1]; exact H3.out.2.2.1⟩, H3.out.2.2.2⟩
  · have hqi : (n : Int) ≤ (q : Int) := by omega
    have HV := Lib.hid (low_all Hx.out.2.2.2.1 Hx.out.1 hqr hqn)
    clear hqr
    go_enter Try.func34, Try.ntmps34
    go_wp2_with (fail)
    refine (checkShift_ok A n _ s w hn HS.out.1).mono ?_
    rintro e w1 ⟨rfl, hb1⟩
    have H1 := Lib.hid (And.intro (Hx.out.below hb1) hb1)
    clear hb1
    go_wp2_with (fail)
    refine (NTrim_ok A n c xs w1 (by omega) H1.out.1).mono ?_
    rintro e w2 hR
    obtain ⟨v2, rfl, h2, hb2⟩ := hR.from H1.out.2
    rw [HV.out] at h2
    have H2 := Lib.hid (And.intro h2 hb2)
    clear h2 hb2 hR
    go_wp2_with (fail)
    go_ret2
    exact ⟨v2, rfl, H2.out.1, H2.out.2⟩
end Go.Proofs.Ytekikolhnfofeaa
