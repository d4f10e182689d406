/- The contract of reckonerref01.Divide for a divisor of two digits. -/
import Derived.Test.YtnhoodpglbjhhaaDivRL
import Derived.Test.YtnhoodpglbjhhaaRAdd
namespace Go.Proofs.Ytnhoodpglbjhhaa
open Go.RowKit
set_option linter.unusedVariables false

/-- the scale, in the walk's forms -/
theorem scale_forms {b1 sc : Nat} (h : b1 * sc < H32) : ∃ m : Nat, m = b1 * sc ∧ (b1 : Int) * sc = m ∧ IntKind.u64.wrap ((b1 : Int) * sc) = m ∧ IntKind.u64.wrap (m : Int) = m := by
  have hH : H32 = 4294967296 := rfl
  refine ⟨b1 * sc, rfl, by simp, ?_, ?_⟩
  · rw [show (b1 : Int) * sc = ((b1 * sc : Nat) : Int) by simp, IntKind.wrap_u64]; omega
  · rw [IntKind.wrap_u64]; omega

set_option maxRecDepth 100000 in
set_option maxHeartbeats 4000000 in
theorem Divide_two (Aa Ab : Option Addr) (N ca cb : Nat) (xs : List Nat) (b0 b1 : Nat) (w : World) (hN : 0 < N) (hN2 : N ≤ 50000) (hx : Sl w Aa N ca xs) (dx : Dg xs) (hb : Sl w Ab 2 cb [b0, b1]) (hb0 : b0 < H32) (hb1 : b1 < H32) (hb2 : 0 < b1) :
    Calls Try.prog 62 #[.slice Aa N ca, .slice Ab 2 cb] w fun e w' => ∃ v qs A' n' c' rs, e = .returned (.tuple #[v, .slice A' n' c']) ∧ n' ≤ 100000 ∧ Nw w w' v N qs ∧ Dg qs ∧ Sl w' A' n' c' rs ∧ Dg rs ∧ VD qs * (b0 + H32 * b1) + VD rs = VD xs ∧ VD rs < b0 + H32 * b1 ∧ Below w.heap.size w w' := by
  obtain ⟨i0, hi, hz0, hz1, hz2⟩ := info_parts Try.info23
  have Hx := Lib.hid (And.intro hx (And.intro dx (And.intro hb (And.intro hb0 (And.intro hb1 hb2)))))
  clear hx dx hb0 hb1
  go_enter Try.func62, Try.ntmps62
  go_wp2_with (fail)
  refine (Short_ok _ 2 _ [b0, b1] _ (by omega) Hx.out.2.2.1 (fun z hz => by simp at hz; rcases hz with rfl | rfl; exact Hx.out.2.2.2.1; exact Hx.out.2.2.2.2.1)).mono ?_
  rintro e w' ⟨k, rfl, hk, rfl⟩
  have hk2 : k = 2 := by
    obtain ⟨h1, h2, h3⟩ := hk.out
    have e2 : VD [b0, b1] = b0 + H32 * b1 := by simp [VD]
    have e3 : H32 * 1 ≤ H32 * b1 := Nat.mul_le_mul_left _ hb2
    have e4 := Hx.out.2.2.2.1
    have e5 := H32_pos
    rw [e2] at h2
    match k, h1 with
    | 0, _ =>
      have e1 : VD (List.take 0 [b0, b1]) = 0 := rfl
      omega
    | 1, _ =>
      have e1 : VD (List.take 1 [b0, b1]) = b0 := by simp [VD]
      omega
    | 2, _ => rfl
  subst hk2
  clear hk
  obtain ⟨bb, ob, rfl, hbb, hcb⟩ := Hx.out.2.2.1.2.2.2.2.at (k := 1) (u := .int .u64 (b1 : Int)) (by simp [uvs])
  have Hcb := Lib.hid (And.intro hbb hcb)
  clear hbb hb
  have hcb1 := hcb
  go_wp2_with (fail)
  go_loop [6] (fun sv => ∃ sc : Nat, sv = .int .u64 sc ∧ 0 < sc ∧ sc < H32 ∧ Hid (b1 * sc < H32 ∧ ∃ f, sc * 2 ^ f = H32)) (fun sv => H32 - (intOf sv).toNat)
  case atStart => exact ⟨1, rfl, by omega, by decide, by rw [Nat.mul_one]; exact Hx.out.2.2.2.2.1, 32, by decide⟩
  case round =>
    obtain ⟨sc, rfl, hsc0, hscH, hS⟩ := hrel
    obtain ⟨m, hm, s1, s2, s3⟩ := scale_forms hS.out.1
    by_cases hlt : m < 2147483648
    · have hlt' : (m : Int) < 2147483648 := by omega
      have hsb : (sc : Int) < 4294967296 := by have hH : H32 = 4294967296 := rfl; omega
      have hn : Hid (b1 * (2 * sc) < H32 ∧ ∃ f, (2 * sc) * 2 ^ f = H32) ∧ 2 * sc < H32 := by
        have hH : H32 = 4294967296 := rfl
        have e : b1 * (2 * sc) = 2 * (b1 * sc) := by grind
        have e2 : 1 * sc ≤ b1 * sc := Nat.mul_le_mul_right _ hb2
        refine ⟨⟨by rw [e, ← hm, hH]; omega, ?_⟩, by rw [hH]; omega⟩
        obtain ⟨f, hf⟩ := hS.out.2
        rcases Nat.eq_zero_or_pos f with h0 | h0
        · subst h0; omega
        · obtain ⟨f', rfl⟩ : ∃ f', f = f' + 1 := ⟨f - 1, by omega⟩
          exact ⟨f', by rw [← hf, Nat.pow_succ]; grind⟩
      obtain ⟨hn1, hn2⟩ := hn
      clear hS hm hlt
      go_wp2
      go_round
      case rel => exact ⟨2 * sc, by go_num, by omega, hn2, hn1⟩
      case measure => simp [intOf]; omega
    · have hlt' : ¬ (m : Int) < 2147483648 := by omega
      have HM := Lib.hid (And.intro hm hlt)
      clear hm hlt
      have hscB : sc < B64 := Nat.lt_trans hscH (by decide)
      go_wp2_with (fail)
      refine (Times_ok _ _ _ _ _ _ xs [sc] _ (by omega) (by omega) (Hx.out.1.below (W1_below w sc)) (Sl_one w sc hscB) Hx.out.2.1 (fun z hz => by rw [List.mem_singleton] at hz; rw [hz]; exact hscH)).mono ?_
      rintro e w2 ⟨v2, as2, rfl, hn2, hd2, hv2, hb2'⟩
      have hv2' : VD as2 = VD xs * sc := by rw [hv2]; simp [VD]
      have hown2 := own_base (base' := w.heap.size) hn2.2.2 (by simp)
      have hbw2 : Below w.heap.size w w2 := (W1_below w sc).trans (hb2'.mono (by simp))
      have hsz2 := hbw2.size
      have H2 := Lib.hid (And.intro hv2' (And.intro hd2 (And.intro hn2.1 hbw2)))
      clear hn2 hd2 hv2 hv2' hb2' hbw2
      go_wp2_with (at_builtin; refine wpList_append_rd _ rfl (.tmp 47) (.tmp 48) 22 rfl w.heap.size 23 i0 (.int .u64 0) Try.underlying22 hi hz0 hz1 hz2 rfl v2 (N + 1) _ rfl (hown2.alloc _) _ (some ⟨w2.heap.size, 0, none⟩) 1 1 [.int .u64 0] rfl rfl (Rd.one _ _ _) (by simp [Value.oneCell']) (by omega) (by simp; omega) ?_)
      intro v3 w3 hown3 hgrow hblk
      obtain ⟨M, hM⟩ : ∃ M, N + 1 + 1 = M := ⟨_, rfl⟩
      rw [hM] at hown3
      obtain ⟨g1, c1, rfl, hg1, hg1'⟩ := World.ownsRow.form hown3 (by omega)
      have hown3' : w3.ownsRow w.heap.size 23 1 (.slice (some ⟨g1, 0, none⟩) M c1) M (uvs (as2 ++ [0])) := by rw [uvs_append]; exact hown3
      have H3 := Lib.hid (And.intro hown3' (And.intro hg1 (And.intro hg1' (And.intro hM (below_app0 H2.out.2.2.2 hown2 hgrow)))))
      have hM1 : (M : Int) - 2 = (N : Int) := by omega
      have hM2 : max (0 : Int) (N : Int) = (N : Int) := by omega
      clear hown2 hown3 hown3' hgrow hblk hg1 hg1' hM
      go_wp2_with (fail)
      refine (Times_ok _ _ _ _ _ _ [b0, b1] [sc] _ (by omega) (by omega) ((Hx.out.2.2.1.below H3.out.2.2.2.2).below (W1_below w3 sc)) (Sl_one w3 sc hscB) (fun z hz => by simp at hz; rcases hz with rfl | rfl; exact Hx.out.2.2.2.1; exact Hx.out.2.2.2.2.1) (fun z hz => by rw [List.mem_singleton] at hz; rw [hz]; exact hscH)).mono ?_
      rintro e w4 ⟨v4, bs2, rfl, hn4, hd4, hv4, hb4⟩
      obtain ⟨g2, c2, rfl, hg2, hg2'⟩ := World.ownsRow.form hn4.2.2 (by omega)
      obtain ⟨A4, c4, he4, hs4⟩ := hn4.sl
      injection he4 with he5 he6 he7
      subst he5
      subst he7
      go_wp2_with (fail)
      refine (Short_ok _ _ _ bs2 _ (by omega) hs4 hd4).mono ?_
      rintro e w5 ⟨k, rfl, hk, rfl⟩
      obtain ⟨D, hD⟩ : ∃ D, D = (b0 + H32 * b1) * sc := ⟨_, rfl⟩
      have hvD : VD bs2 = D := by rw [hv4, hD]; simp [VD]
      have hD1 : H32 ≤ D := by
        have e1 : H32 * 1 ≤ H32 * (b1 * sc) := Nat.mul_le_mul_left _ (by have := HM.out; omega)
        have e2 : (b0 + H32 * b1) * sc = b0 * sc + H32 * (b1 * sc) := by grind
        omega
      have hD2 : D < H32 * H32 := by
        obtain ⟨h1, f, hf⟩ := hS.out
        rw [hD]
        exact scale_top Hx.out.2.2.2.1 hf h1
      obtain ⟨rfl, d0, d1, hbs, hd0, hd1, hd1p, hDd⟩ := short2 hn4.1 hd4 hvD hD1 hD2 hk.out.1 hk.out.2.1 hk.out.2.2
      have hs4' : Sl w4 (some ⟨g2, 0, none⟩) 2 c2 [d0, d1] := by rw [← hbs]; exact hs4.take_ (by omega)
      have hb34 : Below w.heap.size w w4 := (H3.out.2.2.2.2.alloc H3.out.2.2.2.2.size _).trans (hb4.mono (by have := H3.out.2.2.2.2.size; simp; omega))
      have hb34' : Below w3.heap.size w3 w4 := (W1_below w3 sc).trans (hb4.mono (by simp))
      have H4 := Lib.hid (And.intro hs4' (And.intro hg2 (And.intro hg2' (And.intro hb34 hb34'))))
      have hszw := hb34.size
      have HD := Lib.hid (And.intro hD (And.intro hD1 (And.intro hD2 (And.intro hd0 (And.intro hd1 (And.intro hd1p hDd))))))
      clear hk hn4 hd4 hv4 hb4 hs4 hs4' hg2 hg2' hb34 hb34' hvD hD hD1 hD2 hbs hd0 hd1 hd1p hDd
      go_wp2_with (at_make; refine wpList_make_full _ rfl _ _ 22 rfl w.heap.size 23 i0 (.int .u64 0) 1 Try.underlying22 hi hz0 hz1 .i64 .i64 _ _ N rfl rfl rfl rfl (by rw [hz2]; omega) (by unfold maxLen; omega) (by omega) ?_)
      intro w5 hown5 hgrow5
      have hb5 : Below w4.heap.size w4 w5 := below_of_grown hgrow5 (Nat.le_refl _)
      have hrow5 := RowAt_zeros (by simpa using hown5)
      have HT : Hid (DI w g1 c1 g2 c2 w4.heap.size N [d0, d1] (as2 ++ [0]) (List.replicate N 0) w5 ∧ VD ((as2 ++ [0]).drop N) < D ∧ VD (as2 ++ [0]) + D * H32 ^ N * VD ((List.replicate N 0).drop N) = VD xs * sc) := by
        obtain ⟨f1, f2, f3, f4, f5⟩ := H3.out
        obtain ⟨t1, t2, t3, t4, t5⟩ := H4.out
        obtain ⟨u1, u2, u3, u4⟩ := H2.out
        obtain ⟨q1, q2, q3, q4, q5, q6, q7⟩ := HD.out
        have hst := start_drop (N := N) (D := D) (by rw [u3]) u2 q2
        have hg12 : g1 < g2 := by have : (w3.alloc (.cells #[.int .u64 (sc : Int)] 23)).heap.size ≤ g2 := t2; simp at this; omega
        refine ⟨⟨⟨f2, hg12, t3⟩, ⟨?_, by simp [u3], Dg_append u2 (fun z hz => by rw [List.mem_singleton] at hz; rw [hz]; exact H32_pos)⟩, ⟨t1.below hb5, fun z hz => by simp at hz; rcases hz with rfl | rfl; exact q4; exact q5⟩, ⟨hrow5, by simp, Dg_zeros' N⟩, t4.trans (hb5.mono t4.size)⟩, hst.1, ?_⟩
        · rw [show N + 2 = M from f4]
          exact own_below (own_below f1 t5 (Nat.le_refl _)) hb5 (Nat.le_refl _)
        · rw [hst.2, u1, VD_drop_all _ N (by simp), Nat.mul_zero, Nat.add_zero]
      clear hown5 hgrow5 hb5 hrow5 H4
      generalize w4.heap.size = g3 at *
      go_wp2_with (fail)
      go_loopw [9] (fun iv wr => ∃ (j : Int) (k : Nat) (al ql : List Nat), k ≤ N ∧ iv = .int .i64 j ∧ j + 1 = k ∧ Hid (DI w g1 c1 g2 c2 g3 N [d0, d1] al ql wr ∧ VD (al.drop k) < D ∧ VD al + D * H32 ^ k * VD (ql.drop k) = VD xs * sc)) (fun iv _ => (intOf iv + 1).toNat)
      case atStart => exact ⟨(N : Int) - 1, N, _, _, by omega, rfl, by omega, HT.out⟩
      case round =>
        clear HT
        obtain ⟨j, k, al, ql, hkN, rfl, hj, hI⟩ := hrel
        by_cases hlt : 0 < k
        · obtain ⟨i, rfl⟩ : ∃ i, k = i + 1 := ⟨k - 1, by omega⟩
          obtain rfl : j = (i : Int) := by omega
          clear hj
          obtain ⟨a0, a1, a2, x0, x1, x2, y0, y1, y2, hR, hT, hz3, htk⟩ := top3 hI.out.1.2.1.2.1 (show i < N by omega) hI.out.1.2.1.2.2 hI.out.2.1 HD.out.2.2.1
          obtain ⟨p2, hp2, hp2'⟩ : ∃ p2 : Nat, (i : Int) + 2 = (p2 : Int) ∧ p2 = i + 2 := ⟨i + 2, by omega, rfl⟩
          obtain ⟨p1, hp1, hp1'⟩ : ∃ p1 : Nat, (p2 : Int) - 1 = (p1 : Int) ∧ p1 = i + 1 := ⟨i + 1, by omega, rfl⟩
          have ca2 := (hI.out.1.cellA x2).1
          have ca1 := (hI.out.1.cellA x1).1
          have cb1 := hI.out.1.cellB (j := 1) (x := d1) rfl
          rw [← hp2'] at ca2
          rw [← hp1'] at ca1
          have hM3 := H3.out.2.2.2.1
          have hp2M : (p2 : Int) < (M : Int) := by omega
          have hp1M : (p1 : Int) < (M : Int) := by omega
          have w2' : IntKind.i64.wrap (p2 : Int) = (p2 : Int) := IntWalk.i64_in _ (by omega)
          have w1' : IntKind.i64.wrap (p1 : Int) = (p1 : Int) := IntWalk.i64_in _ (by omega)
          obtain ⟨tm, t, ht, htB, s4, s5, s6, s7, s8, s9, j1, j2, j3, j4⟩ := small_sum (d := H32) y2 y1 (Nat.le_refl _)
          obtain ⟨hQ1, hQ2⟩ := est_ge HD.out.2.2.2.2.2.2 HD.out.2.2.2.2.2.1 y0 hI.out.2.1 (show VD (al.drop i) = a0 + H32 * VD (al.drop (i + 1)) by rw [hT, hR])
          have htR : t = VD (al.drop (i + 1)) := by rw [ht, hR, Nat.mul_comm, Nat.add_comm]
          rw [← htR] at hQ2
          obtain ⟨qq, hqq⟩ : ∃ qq, t / d1 = qq := ⟨_, rfl⟩
          have v1 : (t : Int) / (d1 : Int) = (qq : Int) := by rw [← hqq]; simp
          have v2 : (t : Int).tdiv (d1 : Int) = (qq : Int) := by rw [Int.tdiv_eq_ediv_of_nonneg (by omega)]; exact v1
          have v3 : ((d1 : Int) == 0) = false := by have := HD.out.2.2.2.2.2.1; simp; omega
          have v4 : IntKind.u64.wrap (qq : Int) = (qq : Int) := by
            have hB : B64 = 18446744073709551616 := rfl
            have : qq ≤ t := by rw [← hqq]; exact Nat.div_le_self _ _
            rw [IntKind.wrap_u64]; omega
          obtain ⟨gs0, v5, v6⟩ : ∃ gs0 : Nat, min (qq : Int) 4294967295 = (gs0 : Int) ∧ gs0 = min qq 4294967295 := ⟨min qq 4294967295, by omega, rfl⟩
          have HG : Hid (gs0 < H32 ∧ VD (al.drop i) / D ≤ gs0) := by
            have hH : H32 = 4294967296 := rfl
            exact ⟨by rw [hH]; omega, by rw [v6]; rw [hqq] at hQ2; omega⟩
          have hrsH := Lib.hid hQ1
          have HT := Lib.hid (And.intro x0 (And.intro x1 (And.intro x2 (And.intro y0 (And.intro y1 (And.intro y2 (And.intro hT (And.intro hz3 (And.intro htk (And.intro hp2' hp1'))))))))))
          have v7 : 0 < d1 := HD.out.2.2.2.2.2.1
          clear x0 x1 x2 y0 y1 y2 hR hT hz3 htk hp2' hp1' hM3 ht htB hQ1 hQ2 htR hqq v6 j1 j2 j3 j4
          go_wp2_with (fail)
          go_quiet (fail)
          go_wp2_with (fail)
          have hJ : Hid (gs0 < H32 ∧ VD (al.drop i) / D ≤ gs0 ∧ DI w g1 c1 g2 c2 g3 N [d0, d1] al ql (wr.drewN nq)) := ⟨HG.out.1, HG.out.2, hI.out.1.drewN nq⟩
          have HI := Lib.hid hI.out.2
          clear hI HG ca1 ca2 cb1
          generalize wr.drewN nq = wq at *
          go_loopw [11] (fun gv wi => ∃ gs : Nat, gv = .int .u64 gs ∧ Hid (gs < H32 ∧ VD (al.drop i) / D ≤ gs ∧ DI w g1 c1 g2 c2 g3 N [d0, d1] al ql wi)) (fun gv _ => (intOf gv).toNat)
          case atStart => exact ⟨gs0, rfl, hJ⟩
          case round =>
            clear hJ
            obtain ⟨gs, rfl, hJ⟩ := hrel
            have hgB : gs < B64 := Nat.lt_trans hJ.out.1 (by decide)
            have dgs : Dg [gs] := fun z hz => by rw [List.mem_singleton] at hz; rw [hz]; exact hJ.out.1
            go_wp2_with (fail)
            refine (Times_ok _ _ _ _ _ _ [d0, d1] [gs] _ (by omega) (by omega) (hJ.out.2.2.2.2.1.1.below (W1_below _ gs)) (Sl_one _ gs hgB) hJ.out.2.2.2.2.1.2 dgs).mono ?_
            rintro e w6 ⟨v6, ps, rfl, hn6, hd6, hv6, hb6⟩
            obtain ⟨A6, c6, rfl, hs6⟩ := hn6.sl
            have hvp : VD ps = D * gs := by rw [hv6, HD.out.2.2.2.2.2.2]; simp [VD]
            have H6 := Lib.hid (And.intro (hJ.out.2.2.below ((W1_below _ gs).trans (hb6.mono (by simp)))) (And.intro hs6 (And.intro hd6 hvp)))
            have HJ := Lib.hid (And.intro hJ.out.1 hJ.out.2.1)
            clear hn6 hs6 hd6 hv6 hb6 hvp hJ dgs hgB
            obtain ⟨hpc, hpart, hpd⟩ := H6.out.1.part (show i < N by omega)
            rw [HT.out.2.2.2.2.2.2.2.2.1] at hpart hpd
            have hic : (i : Int) < (c1 : Int) := by omega
            have hp3 : (p2 : Int) + 1 = ((i + 3 : Nat) : Int) := by have := HT.out.2.2.2.2.2.2.2.2.2.1; omega
            have hic3 : ((i + 3 : Nat) : Int) ≤ (c1 : Int) := by omega
            have HP := Lib.hid (And.intro hpart hpd)
            clear hpart hpd
            go_wp2_with (fail)
            refine (Minus_ok _ _ 3 3 _ _ [a0, a1, a2] ps _ (by omega) (by omega) HP.out.1 H6.out.2.1 HP.out.2 H6.out.2.2.1).mono ?_
            rintro e w7 ⟨v7, rs, bo, rfl, hbo, hn7, hd7, hv7, hb7⟩
            obtain ⟨g7, c7, rfl, hg7, hg7'⟩ := World.ownsRow.form hn7.2.2 (by omega)
            obtain ⟨A7, c7', he7, hs7⟩ := hn7.sl
            injection he7 with he8 he9 he10
            subst he8
            subst he10
            have hg17 : g1 < g7 := by
              have h1 := H6.out.1.1
              have h2 := H6.out.1.2.2.2.1.1.lt
              omega
            have hfit := fits (T := VD (al.drop i)) (D := D) (gs := gs) (v := VD rs) (bo := bo) (P := H32 ^ 3) (by have := HD.out.2.1; have := H32_pos; omega) (by
              rw [show ps.take 3 = ps from List.take_of_length_le (by rw [H6.out.2.1.1]; exact Nat.le_refl _), H6.out.2.2.2] at hv7
              have h1 := HT.out.2.2.2.2.2.2.1
              have h2 : VD [a0, a1, a2] = a0 + H32 * (a1 + H32 * a2) := by simp [VD]
              omega) (by have := VD_lt rs hd7; rw [hs7.1] at this; exact this) hbo HJ.out.2
            have H7 := Lib.hid (And.intro (H6.out.1.below hb7) (And.intro hs7 hd7))
            have HF := Lib.hid hfit
            clear hn7 hd7 hv7 hb7 hs7 hg7 hg7' hfit hic3
            rcases Nat.lt_or_ge bo 1 with hb | hb
            · obtain rfl : bo = 0 := by omega
              have htb : (((0 : Nat) : Int) == 1) = false := rfl
              rw [htb]
              have HQ := Lib.hid (HF.out.1 rfl)
              clear HF htb hb hbo
              go_wp2_with (fail)
              have H7' : Hid (DI w g1 c1 g2 c2 g3 N [d0, d1] (putk al i rs 0) ql w7 ∧ Sl w7 (some ⟨g7, 0, none⟩) 3 c7 rs) := ⟨H7.out.1, H7.out.2.1⟩
              have HR := Lib.hid (And.intro H7.out.2.2 H7.out.2.1.1)
              clear H7 H6 HJ HP
              go_loopw [15] (fun kv wi => ∃ k' : Nat, k' ≤ 3 ∧ kv = .int .i64 k' ∧ Hid (DI w g1 c1 g2 c2 g3 N [d0, d1] (putk al i rs k') ql wi ∧ Sl wi (some ⟨g7, 0, none⟩) 3 c7 rs)) (fun kv _ => 3 - (intOf kv).toNat)
              case atStart => exact ⟨0, by omega, rfl, H7'⟩
              case round =>
                clear H7'
                obtain ⟨k', hk', rfl, hK⟩ := hrel
                by_cases hlt3 : k' < 3
                · obtain ⟨pp, hpp, hpp'⟩ : ∃ pp : Nat, (i : Int) + (k' : Int) = (pp : Int) ∧ pp = i + k' := ⟨i + k', by omega, rfl⟩
                  have hM3 := H3.out.2.2.2.1
                  have hppM : (pp : Int) < (M : Int) := by omega
                  have hl7 : k' < rs.length := by rw [HR.out.2]; exact hlt3
                  obtain ⟨x7, hx7⟩ : ∃ x7, rs[k']? = some x7 := ⟨_, List.getElem?_eq_getElem hl7⟩
                  have hx7H : x7 < H32 := HR.out.1 _ (List.mem_of_getElem? hx7)
                  have hdg : dig rs k' = x7 := dig_get hx7
                  obtain ⟨b7, o7, e7, _, hc7⟩ := hK.out.2.2.2.2.2.at (uvs_get hx7)
                  injection e7 with e7
                  injection e7 with e71 e72
                  subst e71
                  subst e72
                  rw [Nat.zero_add] at hc7
                  have hla : i + k' < (putk al i rs k').length := by rw [putk_len]; have := HT.out.2.2.1; have := (List.getElem?_eq_some_iff.1 this).1; omega
                  obtain ⟨old, hold⟩ : ∃ old, (putk al i rs k')[i + k']? = some old := ⟨_, List.getElem?_eq_getElem hla⟩
                  have hca := hK.out.1.cellA hold
                  rw [← hpp'] at hca
                  obtain ⟨hca1, hca2⟩ := hca
                  clear hold
                  have HN : Hid (DI w g1 c1 g2 c2 g3 N [d0, d1] (putk al i rs (k' + 1)) ql (wr.setCell ⟨g1, pp, none⟩ (.int .u64 (x7 : Int))) ∧ Sl (wr.setCell ⟨g1, pp, none⟩ (.int .u64 (x7 : Int))) (some ⟨g7, 0, none⟩) 3 c7 rs) := by
                    refine ⟨?_, hK.out.2.far (p := ⟨g1, pp, none⟩) (by show g7 ≠ g1; omega) _⟩
                    have := hK.out.1.setA (j := i + k') hx7H
                    rw [putk, hdg, hpp']
                    exact this
                  have hk3 : (k' : Int) < 3 := by omega
                  clear hK hx7 hx7H hdg hl7 hla hpp' hM3
                  go_wp2
                  go_roundw
                  case rel => exact ⟨k' + 1, by omega, by go_num, HN⟩
                  case measure => simp [intOf]; omega
                · have hk3 : k' = 3 := by omega
                  subst hk3
                  have hli : i < ql.length := by rw [hK.out.1.2.2.2.1.2.1]; omega
                  obtain ⟨oldq, holdq⟩ : ∃ oldq, ql[i]? = some oldq := ⟨_, List.getElem?_eq_getElem hli⟩
                  have hcq := hK.out.1.cellQ holdq
                  obtain ⟨hcq1, hcq2⟩ := hcq
                  have hgH : gs < H32 := by
                    have h1 := HQ.out.1
                    rw [h1]
                    refine Nat.lt_of_le_of_lt ?_ hrsH.out
                    exact Nat.le_refl _
                  have hin : (i : Int) < (N : Int) := by omega
                  have HN : Hid (DI w g1 c1 g2 c2 g3 N [d0, d1] (putk al i rs 3) (ql.set i gs) (wr.setCell ⟨g3, i, none⟩ (.int .u64 (gs : Int))) ∧ VD ((putk al i rs 3).drop i) < D ∧ VD (putk al i rs 3) + D * H32 ^ i * VD ((ql.set i gs).drop i) = VD xs * sc) := by
                    refine ⟨hK.out.1.setQ hgH, ?_⟩
                    obtain ⟨t0, t1, t2, t3, t4, t5, t6, t7, t8, t9⟩ := HT.out
                    have hrl := HR.out.2
                    match rs, hrl, HQ.out with
                    | [r0, r1, r2], _, ⟨q1, q2, q3⟩ =>
                      have e : VD [r0, r1, r2] = r0 + H32 * (r1 + H32 * r2) := by simp [VD]
                      rw [e, ← q1] at q2
                      rw [e] at q3
                      rw [putk_three]
                      refine ⟨by rw [put3_drop (by have := (List.getElem?_eq_some_iff.1 t2).1; omega) t7]; exact q3, ?_⟩
                      exact quo_step t0 t1 t2 holdq (by rw [q2, t6]) HI.out.2
                  clear holdq hK hli hgH HQ HR HT HI
                  go_wp2
                  go_roundw
                  case rel => exact ⟨(i : Int) - 1, i, putk al i rs 3, ql.set i gs, by omega, rfl, by omega, HN⟩
                  case measure => simp [intOf]
            · obtain rfl : bo = 1 := by omega
              have htb : (((1 : Nat) : Int) == 1) = true := rfl
              rw [htb]
              obtain ⟨gs', rfl⟩ : ∃ gs', gs = gs' + 1 := ⟨gs - 1, (Nat.succ_pred_eq_of_pos (Nat.lt_of_le_of_lt (Nat.zero_le _) (HF.out.2 rfl))).symm⟩
              have hwg : IntKind.u64.wrap (gs' : Int) = (gs' : Int) := by
                have hH : H32 = 4294967296 := rfl
                have h1 := HJ.out.1
                rw [IntKind.wrap_u64]; omega
              have HN : Hid (gs' < H32 ∧ VD (al.drop i) / D ≤ gs' ∧ DI w g1 c1 g2 c2 g3 N [d0, d1] al ql w7) := ⟨by have := HJ.out.1; omega, Nat.le_of_lt_succ (HF.out.2 rfl), H7.out.1⟩
              clear HF htb hb hbo H7 H6 HJ HP
              go_wp2_with (fail)
              go_roundw
              case rel => exact ⟨gs', by first | rfl | go_num, HN⟩
              case measure => simp [intOf]
        · have hk0 : k = 0 := by omega
          subst hk0
          have hneg : j < 0 := by omega
          have hM3 := H3.out.2.2.2.1
          have hsl : Sl wr (some ⟨g1, 0, none⟩) M c1 al := by
            obtain ⟨_, _, e, h1, h2, _, h4⟩ := own_form hI.out.1.2.1.1
            injection e with e1 e2 e3
            subst e1
            subst e3
            exact ⟨by rw [hI.out.1.2.1.2.1]; omega, by omega, by unfold maxLen at h2; exact h2, hI.out.1.2.1.2.2.ws, h4⟩
          have HSL := Lib.hid (And.intro hsl hI.out.1.2.1.2.2)
          clear hsl hM3 hj
          go_wp2_with (fail)
          refine (Short_ok _ _ _ al _ (by omega) HSL.out.1 HSL.out.2).mono ?_
          rintro e w9 ⟨kr, rfl, hkr, rfl⟩
          have hkrM := hkr.out.1
          have hslr := HSL.out.1.take_ hkr.out.1
          have HR := Lib.hid (And.intro hslr (And.intro (Dg_take HSL.out.2 kr) hkr.out.2.1))
          clear hkr hslr HSL
          go_wp2_with (at_make; refine wpList_make_full _ rfl _ _ 22 rfl wr.heap.size 23 i0 (.int .u64 0) 1 Try.underlying22 hi hz0 hz1 .i64 .i64 _ _ kr rfl rfl rfl rfl (by rw [hz2]; omega) (by unfold maxLen; omega) (Nat.le_refl _) ?_)
          intro w10 hown10 hgrow10
          have hrow10 := RowAt_zeros (by simpa using hown10)
          have HO : Hid (OI wr wr.heap.size kr (al.take kr) sc kr 0 (List.replicate kr 0) w10) := ⟨Nat.le_refl _, hrow10, by simp, Dg_zeros' kr, hsc0, by rw [VD_drop_all (al.take kr) kr (by rw [HR.out.1.1]; exact Nat.le_refl _), VD_drop_all _ kr (by simp), Nat.zero_mul], below_of_grown hgrow10 (Nat.le_refl _)⟩
          have hg3r := hI.out.1.2.2.2.1.1.lt
          clear hown10 hgrow10 hrow10
          generalize hg5 : wr.heap.size = g5 at *
          have Hg5 := Lib.hid hg5
          clear hg5
          have hsc00 : ((sc : Int) == 0) = false := by simp; omega
          go_wp2_with (fail)
          go_loopw [18, 19] (fun rv iv wz => ∃ (rest : Nat) (j : Int) (k : Nat) (qs : List Nat), k ≤ kr ∧ iv = .int .i64 j ∧ j + 1 = k ∧ rv = .int .u64 rest ∧ Hid (OI wr g5 kr (al.take kr) sc k rest qs wz)) (fun _ iv _ => (intOf iv + 1).toNat)
          case atStart => exact ⟨0, (kr : Int) - 1, kr, _, by omega, rfl, by omega, rfl, HO.out⟩
          case round =>
            clear HO
            obtain ⟨rest, jj, kk, qs, hkk, rfl, hjj, rfl, hO⟩ := hrel
            by_cases hlt4 : 0 < kk
            · obtain ⟨i, rfl⟩ : ∃ i, kk = i + 1 := ⟨kk - 1, by omega⟩
              obtain rfl : jj = (i : Int) := by omega
              have hil : i < (al.take kr).length := by rw [HR.out.1.1]; omega
              obtain ⟨x, hg⟩ : ∃ x, (al.take kr)[i]? = some x := ⟨_, List.getElem?_eq_getElem hil⟩
              have hxH : x < H32 := HR.out.2.1 _ (List.mem_of_getElem? hg)
              obtain ⟨bx, ox, ex, hbx, hcx⟩ := HR.out.1.2.2.2.2.at (uvs_get hg)
              injection ex with ex
              injection ex with ex1 ex2
              subst ex1
              subst ex2
              rw [Nat.zero_add] at hcx
              have hOO := hO.out
              have hcx2 := (hOO.2.2.2.2.2.2.cell (p := ⟨g1, i, none⟩) hbx).trans hcx
              have hzl : i < qs.length := by rw [hOO.2.2.1]; omega
              obtain ⟨zi, hzi⟩ : ∃ zi, qs[i]? = some zi := ⟨_, List.getElem?_eq_getElem hzl⟩
              have hcz := hOO.2.1.cell hzi
              have hfz := hOO.2.1.frozen i
              obtain ⟨mm, tt, htt, httB, z1, z2, z3, z4, z5, z6, z7, z8, z9, z10⟩ := small_sum hOO.2.2.2.2.1 hxH (Nat.le_of_lt hscH)
              obtain ⟨hq, hst⟩ := hOO.step hg (by omega) hxH htt (Nat.le_of_lt hscH)
              obtain ⟨q, hqe⟩ : ∃ q, tt / sc = q := ⟨_, rfl⟩
              obtain ⟨r, hre⟩ : ∃ r, tt % sc = r := ⟨_, rfl⟩
              rw [hqe] at z7 z8 hst hq
              rw [hre] at z9 z10 hst
              have z11 : IntKind.u64.wrap (q : Int) = (q : Int) := by have hH' : H32 = 4294967296 := rfl; rw [IntKind.wrap_u64]; omega
              have HS2 := Lib.hid hst
              have hin : (i : Int) < kr := by omega
              have hin2 : (i : Int) < M := by omega
              have hin0 : (0 : Int) ≤ (i : Int) := by omega
              clear hst hg hO hOO hzl hcx hxH htt httB hq hqe hre hjj hzi hil hbx hI
              go_wp2
              go_roundw
              case rel => exact ⟨r, (i : Int) - 1, i, _, by omega, rfl, by omega, rfl, HS2⟩
              case measure => simp [intOf]
            · have hkk0 : kk = 0 := by omega
              subst hkk0
              have hneg2 : jj < 0 := by omega
              have HF : Hid (kr ≤ 100000 ∧ Nw w wr (.slice (some ⟨g3, 0, none⟩) N N) N ql ∧ Dg ql ∧ Sl wr (some ⟨g5, 0, none⟩) kr kr qs ∧ Dg qs ∧ VD ql * (b0 + H32 * b1) + VD qs = VD xs ∧ VD qs < b0 + H32 * b1 ∧ Below w.heap.size w wr) := by
                obtain ⟨h0, h1, h2, h3, h4, h5, h6⟩ := hO.out
                obtain ⟨hdi, hlt0, heq⟩ := hI.out
                have hdi2 := hdi.below (by rw [Hg5.out] at *; exact h6)
                rw [List.drop_zero, List.drop_zero] at h5
                rw [List.drop_zero] at hlt0 heq
                rw [Nat.pow_zero, Nat.mul_one] at heq
                rw [HR.out.2.2] at h5
                obtain ⟨e1, e2⟩ := quo_end HD.out.1 rfl heq hlt0 h5 h4
                exact ⟨by omega, hdi2.2.2.2.1.1.nw (by have := hdi2.1; omega) hdi2.2.2.2.1.2.1 hdi2.2.2.2.1.2.2.ws (by omega), hdi2.2.2.2.1.2.2, h1.sl h2 h3.ws (by omega), h3, e1, e2, hdi2.2.2.2.2⟩
              clear hO hI HR hjj
              go_wp2
              go_ret2
              obtain ⟨f1, f2, f3, f4, f5, f6, f7, f8⟩ := HF.out
              exact ⟨_, ql, _, kr, kr, qs, rfl, f1, f2, f3, f4, f5, f6, f7, f8⟩
end Go.Proofs.Ytnhoodpglbjhhaa
