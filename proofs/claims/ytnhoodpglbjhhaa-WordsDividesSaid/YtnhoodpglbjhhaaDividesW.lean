/- The walk of the law WordsDivides. -/
import Derived.Test.YtnhoodpglbjhhaaRDiv
import Derived.Test.YtnhoodpglbjhhaaAwake
import Derived.Test.YtnhoodpglbjhhaaEq
import Derived.Test.YtnhoodpglbjhhaaBacksM
import Derived.OpenShut
namespace Go.Proofs.Ytnhoodpglbjhhaa.wordsDivides
open Go.ChangeShapes Go.RowKit
set_option linter.unusedVariables false

theorem two_quos {us bs : List Nat} {n c d p t : Nat} (wa : Ws us) (wb : Ws bs) (la : us.length = n) (lb : bs.length = n) (hc : c < p) (hd : d < p) (h1 : V us * p + c = t) (h2 : V bs * p + d = t) : bs = us ∧ d = c := by
  obtain ⟨e1, e2⟩ := uniq (x := d) (y := c) (d := V bs) (e := V us) hd hc (by omega)
  exact ⟨V_inj bs us wb wa (by omega) e2, e1⟩
theorem two_words {q r q' r' d t : Nat} (hr : r < d) (hr' : r' < d) (h1 : t = q * d + r) (h2 : q' * d + r' = t) : q' = q ∧ r' = r := by
  obtain ⟨e1, e2⟩ := uniq (x := r') (y := r) (d := q') (e := q) hr' hr (by omega)
  exact ⟨e2, e1⟩

set_option maxRecDepth 100000 in
set_option maxHeartbeats 4000000 in
theorem walk (w : World) (a0 : Option Addr) (n0 c0 : Nat) (xs : List Nat) (hx : Sl w a0 n0 c0 xs) (a1 : Int) (w1 : (Lit.int .u64 a1).wf = true) (a2 : Int) (w2 : (Lit.int .u64 a2).wf = true) :
    Calls Try.prog 5 #[.slice a0 n0 c0, .int .u64 a1, .int .u64 a2] w fun e w' => e = .returned (.bool true) ∧ Below w.heap.size w w' := by
  have hb1 := bounds_u64 w1
  have hb2 := bounds_u64 w2
  obtain ⟨x1, rfl⟩ := Int.eq_ofNat_of_zero_le (show 0 ≤ a1 by omega)
  obtain ⟨x2, rfl⟩ := Int.eq_ofNat_of_zero_le (show 0 ≤ a2 by omega)
  have HB : Hid (x1 < B64 ∧ x2 < B64) := by have hB : B64 = 18446744073709551616 := rfl; exact ⟨by omega, by omega⟩
  have Hx := Lib.hid hx
  clear hx w1 w2 hb1 hb2
  go_enter Try.func5, Try.ntmps5
  go_wp2_with (fail)
  refine (few_ok _ _ _ 40 xs _ Hx.out (by omega)).mono ?_
  rintro e w1 ⟨v1, rfl, hn1, hb1⟩
  obtain ⟨k, hk, hk'⟩ : ∃ k, min 40 n0 = k ∧ k ≤ 40 := ⟨_, rfl, by omega⟩
  rw [hk] at hn1
  obtain ⟨A, c, rfl, hs1⟩ := hn1.sl
  generalize xs.take 40 = ps at *
  have H1 : Hid (Sl w1 A k c ps ∧ Below w.heap.size w w1 ∧ x1 < B64 ∧ x2 < B64) := ⟨hs1, hb1, HB.out.1, HB.out.2⟩
  clear hn1 hs1 hb1 hk HB
  go_wp2_with (fail)
  go_loopw [1, 2, 8] (fun sv hv iv wr => ∃ (m wd hi : Nat), m ≤ 2 ∧ iv = .int .i64 m ∧ sv = .int .u64 wd ∧ hv = .int .u64 hi ∧ Hid (Sl wr A k c ps ∧ Below w.heap.size w wr ∧ wd < B64 ∧ hi < B64)) (fun _ _ iv _ => 2 - (intOf iv).toNat)
  case atStart => exact ⟨0, x1, x2, by omega, rfl, rfl, rfl, H1⟩
  case round =>
    clear H1
    obtain ⟨m, wd, hi, hm, rfl, rfl, rfl, hH⟩ := hrel
    by_cases hlt : m < 2
    · obtain ⟨wd', hw1, hw2, hw3⟩ : ∃ wd' : Nat, max (wd : Int) 1 = (wd' : Int) ∧ 0 < wd' ∧ (wd < B64 → wd' < B64) := ⟨max wd 1, by omega, by omega, fun h => by have : 1 < B64 := (by decide); omega⟩
      obtain ⟨hi', hh1, hh2⟩ : ∃ hi' : Nat, (hi : Int) % (wd' : Int) = (hi' : Int) ∧ hi' < wd' := ⟨hi % wd', by simp, Nat.mod_lt _ hw2⟩
      have HW : Hid (wd' < B64 ∧ hi' < B64) := ⟨hw3 hH.out.2.2.1, Nat.lt_trans hh2 (hw3 hH.out.2.2.1)⟩
      clear hw3 hh2
      have hlow : (k = 0) ∨ (0 < k ∧ ∃ x0 b o, ps[0]? = some x0 ∧ x0 < B64 ∧ A = some ⟨b, o, none⟩ ∧ b < wr.heap.size ∧ wr.cell? ⟨b, o, none⟩ = some (.int .u64 (x0 : Int))) := by
        rcases Nat.eq_zero_or_pos k with h | h
        · exact .inl h
        · refine .inr ⟨h, ?_⟩
          have hl : 0 < ps.length := by rw [hH.out.1.1]; exact h
          obtain ⟨b, o, e, hb, hc⟩ := hH.out.1.2.2.2.2.at (uvs_get (List.getElem?_eq_getElem hl))
          rw [Nat.add_zero] at hc
          exact ⟨ps[0], b, o, List.getElem?_eq_getElem hl, hH.out.1.2.2.2.1 _ (List.getElem_mem hl), e, hb, hc⟩
      rcases hlow with hk0 | ⟨hk0, x0, b, o, hx0, hx0B, rfl, hbw, hcell⟩
      · subst hk0
        have hkk : ¬ (0 < 0) := by omega
        rcases (show wd = 0 ∨ (0 < wd ∧ wd ≤ hi) ∨ hi < wd by omega) with hz | ⟨hz, hz2⟩ | hz
        · subst hz
          go_wp2_with (fail)
          refine (DivWord_zero _ 0 _ hi _ (by omega)).mono ?_
          rintro e w3 ⟨rfl, b3⟩
          have H3 : Hid (Sl w3 A 0 c ps ∧ Below w.heap.size w w3 ∧ wd' < B64 ∧ hi' < B64) := ⟨hH.out.1.below b3, hH.out.2.1.trans (b3.mono hH.out.2.1.size), HW.out.1, HW.out.2⟩
          clear hH b3
          go_wp2_with (fail)
          refine (Narrow_zero hi 0 _).mono ?_
          rintro e w4 ⟨rfl, rfl⟩
          have HT := H3
          go_wp2_with (fail)
          go_roundw
          case rel => exact ⟨m + 1, wd', hi', by omega, by go_num, by first | rfl | (rw [← hw1]; rfl) | rw [← hw1], by first | rfl | (rw [← hh1, ← hw1]; rfl) | (rw [← hh1]; done) | rw [← hh1], HT⟩
          case measure => simp [intOf]; omega
        · have hzz : ¬ (wd = 0) := by omega
          have hzi : (wd : Int) ≤ hi := by omega
          go_wp2_with (fail)
          refine (DivWord_arg _ 0 _ wd hi _ (by omega) hz hz2).mono ?_
          rintro e w3 ⟨rfl, b3⟩
          have H3 : Hid (Sl w3 A 0 c ps ∧ Below w.heap.size w w3 ∧ wd' < B64 ∧ hi' < B64) := ⟨hH.out.1.below b3, hH.out.2.1.trans (b3.mono hH.out.2.1.size), HW.out.1, HW.out.2⟩
          clear hH b3
          go_wp2_with (fail)
          refine (Narrow_arg hi 0 wd hz hz2 _).mono ?_
          rintro e w4 ⟨rfl, rfl⟩
          have HT := H3
          go_wp2_with (fail)
          go_roundw
          case rel => exact ⟨m + 1, wd', hi', by omega, by go_num, by first | rfl | (rw [← hw1]; rfl) | rw [← hw1], by first | rfl | (rw [← hh1, ← hw1]; rfl) | (rw [← hh1]; done) | rw [← hh1], HT⟩
          case measure => simp [intOf]; omega
        · have hzz : ¬ (wd = 0) := by omega
          have hzi : ¬ (wd : Int) ≤ hi := by omega
          obtain ⟨q0, r0, hq0, hnarrow⟩ := Narrow_ok hi 0 wd hz (by decide) hH.out.2.2.1
          have HN := Lib.hid (And.intro hq0 hnarrow)
          clear hq0 hnarrow
          have hwB := Lib.hid hH.out.2.2.1
          go_wp2_with (fail)
          refine (DivWord_ok _ 0 _ ps wd hi _ (by omega) hH.out.1 hwB.out hz).mono ?_
          rintro e w3 ⟨v3, z3, d3, rfl, hd3, hv3, hn3, b3⟩
          obtain ⟨P3, g3, rfl, hP3⟩ := hn3.sl
          have H3 : Hid (Sl w3 A 0 c ps ∧ Below w.heap.size w w3 ∧ Sl w3 P3 0 g3 z3) := ⟨hH.out.1.below b3, hH.out.2.1.trans (b3.mono hH.out.2.1.size), hP3⟩
          have HV := Lib.hid (And.intro hv3 hd3)
          clear hH b3 hP3 hv3 hd3 hn3
          go_wp2_with (fail)
          refine (HN.out.2 _).mono ?_
          rintro e w4 ⟨rfl, m4, rfl⟩
          have H4 : Hid (Sl (w3.drewN m4) A 0 c ps ∧ Below w.heap.size w (w3.drewN m4) ∧ Sl (w3.drewN m4) P3 0 g3 z3) := ⟨H3.out.1, below_drewN H3.out.2.1 m4, H3.out.2.2⟩
          clear H3 
          generalize w3.drewN m4 = w4 at *
          go_wp2_with (fail)
          refine (RDiv_ok _ 0 _ ps wd hi _ (by omega) H4.out.1 hwB.out hz).mono ?_
          rintro e w5 ⟨v5, z5, d5, rfl, hd5, hn5, hv5, b5⟩
          obtain ⟨P5, g5, rfl, hP5⟩ := hn5.sl
          obtain ⟨rfl, rfl⟩ := two_quos (c := d3) (d := d5) H4.out.2.2.2.2.2.1 hP5.2.2.2.1 H4.out.2.2.1 hP5.1 HV.out.2 hd5 HV.out.1 hv5
          have H5 : Hid (Sl w5 A 0 c ps ∧ Below w.heap.size w w5 ∧ Sl w5 P3 0 g3 z5 ∧ Sl w5 P5 0 g5 z5) := ⟨H4.out.1.below b5, H4.out.2.1.trans (b5.mono H4.out.2.1.size), H4.out.2.2.below b5, hP5⟩
          clear H4 b5 hP5 hv5 hd5 hn5 HV
          go_wp2_with (fail)
          refine (RNarrow_ok hi 0 wd _ hz (by decide) hwB.out).mono ?_
          rintro e w6 ⟨q6, r6, rfl, he6, hr6, b6⟩
          obtain ⟨rfl, rfl⟩ := two_words HN.out.1.2.1 hr6 HN.out.1.1 he6
          have H6 : Hid (Sl w6 A 0 c ps ∧ Below w.heap.size w w6 ∧ Sl w6 P3 0 g3 z5 ∧ Sl w6 P5 0 g5 z5) := ⟨H5.out.1.below b6, H5.out.2.1.trans (b6.mono H5.out.2.1.size), H5.out.2.2.1.below b6, H5.out.2.2.2.below b6⟩
          clear H5 b6 he6 hr6 HN
          go_wp2_with (fail)
          refine (same_any _ _ _ _ _ _ _ _ _ H6.out.2.2.1 H6.out.2.2.2 (by omega)).mono ?_
          rintro e w7 ⟨rfl, m1, rfl⟩
          rw [decide_eq_true rfl]
          have HT : Hid (Sl (w6.drewN m1) A 0 c ps ∧ Below w.heap.size w (w6.drewN m1) ∧ wd' < B64 ∧ hi' < B64) := ⟨H6.out.1, below_drewN H6.out.2.1 m1, HW.out.1, HW.out.2⟩
          clear H6
          generalize w6.drewN m1 = w7 at *
          go_wp2_with (fail)
          go_roundw
          case rel => exact ⟨m + 1, wd', hi', by omega, by go_num, by first | rfl | (rw [← hw1]; rfl) | rw [← hw1], by first | rfl | (rw [← hh1, ← hw1]; rfl) | (rw [← hh1]; done) | rw [← hh1], HT⟩
          case measure => simp [intOf]; omega
      · have Hx0 := Lib.hid hx0B
        have hki : (0 : Int) < k := by omega
        clear hx0 hx0B
        rcases (show wd = 0 ∨ (0 < wd ∧ wd ≤ hi) ∨ hi < wd by omega) with hz | ⟨hz, hz2⟩ | hz
        · subst hz
          go_wp2_with (fail)
          refine (DivWord_zero _ k _ hi _ (by omega)).mono ?_
          rintro e w3 ⟨rfl, b3⟩
          have H3 : Hid (Sl w3 (some ⟨b, o, none⟩) k c ps ∧ Below w.heap.size w w3 ∧ wd' < B64 ∧ hi' < B64) := ⟨hH.out.1.below b3, hH.out.2.1.trans (b3.mono hH.out.2.1.size), HW.out.1, HW.out.2⟩
          have hcell3 := (b3.cell (p := ⟨b, o, none⟩) hbw).trans hcell
          clear hH b3
          go_wp2_with (fail)
          refine (Narrow_zero hi x0 _).mono ?_
          rintro e w4 ⟨rfl, rfl⟩
          have HT := H3
          go_wp2_with (fail)
          go_roundw
          case rel => exact ⟨m + 1, wd', hi', by omega, by go_num, by first | rfl | (rw [← hw1]; rfl) | rw [← hw1], by first | rfl | (rw [← hh1, ← hw1]; rfl) | (rw [← hh1]; done) | rw [← hh1], HT⟩
          case measure => simp [intOf]; omega
        · have hzz : ¬ (wd = 0) := by omega
          have hzi : (wd : Int) ≤ hi := by omega
          go_wp2_with (fail)
          refine (DivWord_arg _ k _ wd hi _ (by omega) hz hz2).mono ?_
          rintro e w3 ⟨rfl, b3⟩
          have H3 : Hid (Sl w3 (some ⟨b, o, none⟩) k c ps ∧ Below w.heap.size w w3 ∧ wd' < B64 ∧ hi' < B64) := ⟨hH.out.1.below b3, hH.out.2.1.trans (b3.mono hH.out.2.1.size), HW.out.1, HW.out.2⟩
          have hcell3 := (b3.cell (p := ⟨b, o, none⟩) hbw).trans hcell
          clear hH b3
          go_wp2_with (fail)
          refine (Narrow_arg hi x0 wd hz hz2 _).mono ?_
          rintro e w4 ⟨rfl, rfl⟩
          have HT := H3
          go_wp2_with (fail)
          go_roundw
          case rel => exact ⟨m + 1, wd', hi', by omega, by go_num, by first | rfl | (rw [← hw1]; rfl) | rw [← hw1], by first | rfl | (rw [← hh1, ← hw1]; rfl) | (rw [← hh1]; done) | rw [← hh1], HT⟩
          case measure => simp [intOf]; omega
        · have hzz : ¬ (wd = 0) := by omega
          have hzi : ¬ (wd : Int) ≤ hi := by omega
          obtain ⟨q0, r0, hq0, hnarrow⟩ := Narrow_ok hi x0 wd hz Hx0.out hH.out.2.2.1
          have HN := Lib.hid (And.intro hq0 hnarrow)
          clear hq0 hnarrow
          have hwB := Lib.hid hH.out.2.2.1
          go_wp2_with (fail)
          refine (DivWord_ok _ k _ ps wd hi _ (by omega) hH.out.1 hwB.out hz).mono ?_
          rintro e w3 ⟨v3, z3, d3, rfl, hd3, hv3, hn3, b3⟩
          obtain ⟨P3, g3, rfl, hP3⟩ := hn3.sl
          have H3 : Hid (Sl w3 (some ⟨b, o, none⟩) k c ps ∧ Below w.heap.size w w3 ∧ Sl w3 P3 k g3 z3) := ⟨hH.out.1.below b3, hH.out.2.1.trans (b3.mono hH.out.2.1.size), hP3⟩
          have HV := Lib.hid (And.intro hv3 hd3)
          have hcell3 := (b3.cell (p := ⟨b, o, none⟩) hbw).trans hcell
          clear hH b3 hP3 hv3 hd3 hn3
          go_wp2_with (fail)
          refine (HN.out.2 _).mono ?_
          rintro e w4 ⟨rfl, m4, rfl⟩
          have H4 : Hid (Sl (w3.drewN m4) (some ⟨b, o, none⟩) k c ps ∧ Below w.heap.size w (w3.drewN m4) ∧ Sl (w3.drewN m4) P3 k g3 z3) := ⟨H3.out.1, below_drewN H3.out.2.1 m4, H3.out.2.2⟩
          clear H3 hcell3
          generalize w3.drewN m4 = w4 at *
          go_wp2_with (fail)
          refine (RDiv_ok _ k _ ps wd hi _ (by omega) H4.out.1 hwB.out hz).mono ?_
          rintro e w5 ⟨v5, z5, d5, rfl, hd5, hn5, hv5, b5⟩
          obtain ⟨P5, g5, rfl, hP5⟩ := hn5.sl
          obtain ⟨rfl, rfl⟩ := two_quos (c := d3) (d := d5) H4.out.2.2.2.2.2.1 hP5.2.2.2.1 H4.out.2.2.1 hP5.1 HV.out.2 hd5 HV.out.1 hv5
          have H5 : Hid (Sl w5 (some ⟨b, o, none⟩) k c ps ∧ Below w.heap.size w w5 ∧ Sl w5 P3 k g3 z5 ∧ Sl w5 P5 k g5 z5) := ⟨H4.out.1.below b5, H4.out.2.1.trans (b5.mono H4.out.2.1.size), H4.out.2.2.below b5, hP5⟩
          clear H4 b5 hP5 hv5 hd5 hn5 HV
          go_wp2_with (fail)
          refine (RNarrow_ok hi x0 wd _ hz Hx0.out hwB.out).mono ?_
          rintro e w6 ⟨q6, r6, rfl, he6, hr6, b6⟩
          obtain ⟨rfl, rfl⟩ := two_words HN.out.1.2.1 hr6 HN.out.1.1 he6
          have H6 : Hid (Sl w6 (some ⟨b, o, none⟩) k c ps ∧ Below w.heap.size w w6 ∧ Sl w6 P3 k g3 z5 ∧ Sl w6 P5 k g5 z5) := ⟨H5.out.1.below b6, H5.out.2.1.trans (b6.mono H5.out.2.1.size), H5.out.2.2.1.below b6, H5.out.2.2.2.below b6⟩
          clear H5 b6 he6 hr6 HN
          go_wp2_with (fail)
          refine (same_any _ _ _ _ _ _ _ _ _ H6.out.2.2.1 H6.out.2.2.2 (by omega)).mono ?_
          rintro e w7 ⟨rfl, m1, rfl⟩
          rw [decide_eq_true rfl]
          have HT : Hid (Sl (w6.drewN m1) (some ⟨b, o, none⟩) k c ps ∧ Below w.heap.size w (w6.drewN m1) ∧ wd' < B64 ∧ hi' < B64) := ⟨H6.out.1, below_drewN H6.out.2.1 m1, HW.out.1, HW.out.2⟩
          clear H6
          generalize w6.drewN m1 = w7 at *
          go_wp2_with (fail)
          go_roundw
          case rel => exact ⟨m + 1, wd', hi', by omega, by go_num, by first | rfl | (rw [← hw1]; rfl) | rw [← hw1], by first | rfl | (rw [← hh1, ← hw1]; rfl) | (rw [← hh1]; done) | rw [← hh1], HT⟩
          case measure => simp [intOf]; omega
    · go_wp2_with (fail)
      refine (awake_any _).mono ?_
      rintro e w3 ⟨rfl, b3⟩
      go_wp2_with (fail)
      go_ret
      exact ⟨rfl, hH.out.2.1.trans (b3.mono hH.out.2.1.size)⟩
end Go.Proofs.Ytnhoodpglbjhhaa.wordsDivides
