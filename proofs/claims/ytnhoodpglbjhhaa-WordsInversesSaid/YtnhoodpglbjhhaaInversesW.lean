/- The walk of the law WordsInverses. -/
import Derived.Test.YtnhoodpglbjhhaaInversesM
import Derived.Test.YtnhoodpglbjhhaaRDiv
import Derived.Test.YtnhoodpglbjhhaaAwake
import Derived.OpenShut
namespace Go.Proofs.Ytnhoodpglbjhhaa.wordsInverses
open Go.ChangeShapes Go.RowKit
set_option linter.unusedVariables false

set_option maxRecDepth 100000 in
set_option maxHeartbeats 8000000 in
theorem walk (w : World) (a0 : Int) (w0 : (Lit.int .u64 a0).wf = true) (a1 : Int) (w1 : (Lit.int .u64 a1).wf = true) (a2 : Int) (w2 : (Lit.int .u64 a2).wf = true) :
    Calls Try.prog 7 #[.int .u64 a0, .int .u64 a1, .int .u64 a2] w fun e w' => e = .returned (.bool true) ∧ Below w.heap.size w w' := by
  have hb0 := bounds_u64 w0
  have hb1 := bounds_u64 w1
  have hb2 := bounds_u64 w2
  obtain ⟨x0, rfl⟩ := Int.eq_ofNat_of_zero_le (show 0 ≤ a0 by omega)
  obtain ⟨x1, rfl⟩ := Int.eq_ofNat_of_zero_le (show 0 ≤ a1 by omega)
  obtain ⟨x2, rfl⟩ := Int.eq_ofNat_of_zero_le (show 0 ≤ a2 by omega)
  have HB : Hid (x0 < B64 ∧ x1 < B64 ∧ x2 < B64) := by have hB : B64 = 18446744073709551616 := rfl; exact ⟨by omega, by omega, by omega⟩
  clear w0 w1 w2 hb0 hb1 hb2
  go_enter Try.func7, Try.ntmps7
  go_wp2_with (fail)
  go_loopw [0, 1, 7] (fun sv hv iv wr => ∃ (m wd hi : Nat), m ≤ 2 ∧ iv = .int .i64 m ∧ sv = .int .u64 wd ∧ hv = .int .u64 hi ∧ Hid (Below w.heap.size w wr ∧ wd < B64 ∧ hi < B64)) (fun _ _ iv _ => 2 - (intOf iv).toNat)
  case atStart => exact ⟨0, x0, x1, by omega, rfl, rfl, rfl, Below.refl _ _, HB.out.1, HB.out.2.1⟩
  case round =>
    obtain ⟨m, wd, hi, hm, rfl, rfl, rfl, hH⟩ := hrel
    by_cases hlt : m < 2
    · obtain ⟨wd', hw1, hw3, hw2⟩ := high_word wd hH.out.2.1
      obtain ⟨hi', hh1, hh2⟩ : ∃ hi' : Nat, (hi : Int) % (wd' : Int) = (hi' : Int) ∧ hi' < wd' := ⟨hi % wd', by simp, Nat.mod_lt _ hw2⟩
      have HW : Hid (wd' < B64 ∧ hi' < B64) := ⟨hw3, Nat.lt_trans hh2 hw3⟩
      have hz : ¬ (wd' = 0) := by omega
      have HE := Lib.hid hw1
      have HX := Lib.hid hh1
      clear hw3 hh2 hw1 hw2 hh1
      by_cases ho : wd % 2 = 0
      · by_cases hL : wd < 9223372036854775808
        · have HL := Lib.hid hL
          clear hL
          have HO := Lib.hid ho
          have p1 : (wd : Int) % 2 = 0 := by omega
          clear ho
          go_wp2_with (fail)
          refine (Inverse_arg wd HO.out _).mono ?_
          rintro e w3 ⟨rfl, rfl⟩
          go_wp2_with (fail)
          have hL := HL.out
          refine (Reciprocal_arg wd (by omega) _).mono ?_
          rintro e w3 ⟨rfl, rfl⟩
          have e1 : decide ((wd : Int) < 9223372036854775808) = true := by simp; omega
          go_wp2_with (fail)
          refine (ByRec_low _ _ _ _ (by omega) _).mono ?_
          rintro e w3 ⟨rfl, rfl⟩
          clear e1 hL
          have HT : Hid (Below w.heap.size w wr ∧ wd' < B64 ∧ hi' < B64) := ⟨hH.out.1, HW.out.1, HW.out.2⟩
          have hw1 := HE.out
          have hh1 := HX.out
          go_wp2_with (fail)
          go_roundw
          case rel => exact ⟨m + 1, wd', hi', by omega, by go_num, by first | rfl | (rw [← HE.out]; done) | (rw [← HE.out]; rfl), by first | rfl | (rw [← HX.out]; done) | (rw [← HX.out]; rfl), HT⟩
          case measure => simp [intOf]; omega
        · replace hL : Big wd := by unfold Big; omega
          have HL := Lib.hid hL
          clear hL
          have HO := Lib.hid ho
          have p1 : (wd : Int) % 2 = 0 := by omega
          clear ho
          go_wp2_with (fail)
          refine (Inverse_arg wd HO.out _).mono ?_
          rintro e w3 ⟨rfl, rfl⟩
          go_wp2_with (fail)
          by_cases hge : wd ≤ hi
          · obtain ⟨u, s, hf, hcall⟩ := Reciprocal_ok wd HL.out hH.out.2.1
            have hrec : IsRec wd u := ⟨s, hf.2.1, hf.1⟩
            have HR := Lib.hid (And.intro hf (And.intro hrec hcall))
            clear hf hrec hcall
            refine (HR.out.2.2 _).mono ?_
            rintro e w3 ⟨rfl, n3, rfl⟩
            have H3 : Hid (Below w.heap.size w (wr.drewN n3)) := Lib.hid (below_drewN hH.out.1 n3)
            generalize wr.drewN n3 = w3 at *
            have e1 := HL.out.dec
            go_wp2_with (fail)
            clear e1
            refine (RRecip_ok wd _ HL.out hH.out.2.1).mono ?_
            rintro e w4 ⟨u', s', rfl, eu, hs', b4⟩
            obtain rfl : u' = u := (recip_uniq eu hs' HR.out.1.1 HR.out.1.2.1).1
            have H4 : Hid (Below w.heap.size w w4) := Lib.hid (H3.out.trans (b4.mono H3.out.size))
            clear eu hs' b4 H3
            go_wp2_with (fail)
            have hgi : (wd : Int) ≤ hi := by omega
            refine (ByRec_high hi x2 wd u' HL.out.dec hH.out.2.1 HR.out.1.2.2 HR.out.2.1 hge _).mono ?_
            rintro e w5 ⟨rfl, b5⟩
            have H5 : Hid (Below w.heap.size w w5) := Lib.hid (H4.out.trans (b5.mono H4.out.size))
            clear b5 H4 
            obtain ⟨o, ho1, ho2, ho3⟩ := other_word u' HR.out.1.2.2
            obtain ⟨hm, hm1⟩ : ∃ hm : Nat, (hi : Int) % (wd : Int) = (hm : Int) := ⟨hi % wd, by simp⟩
            have HNo : Hid (o < B64 ∧ ¬ IsRec wd o) := ⟨ho2, fun h => ho3 (isRec_uniq h HR.out.2.1)⟩
            have hwz : ¬ (wd = 0) := HL.out.pos
            clear ho2 ho3
            go_wp2_with (fail)
            refine (ByRec_not hm x2 wd o HL.out.dec hH.out.2.1 HNo.out.1 HNo.out.2 _).mono ?_
            rintro e w7 ⟨rfl, b7⟩
            have HT : Hid (Below w.heap.size w w7 ∧ wd' < B64 ∧ hi' < B64) := ⟨H5.out.trans (b7.mono H5.out.size), HW.out.1, HW.out.2⟩
            clear b7 hm1 ho1
            have hw1 := HE.out
            have hh1 := HX.out
            go_wp2_with (fail)
            go_roundw
            case rel => exact ⟨m + 1, wd', hi', by omega, by go_num, by first | rfl | (rw [← HE.out]; done) | (rw [← HE.out]; rfl), by first | rfl | (rw [← HX.out]; done) | (rw [← HX.out]; rfl), HT⟩
            case measure => simp [intOf]; omega
          · replace hge : hi < wd := by omega
            obtain ⟨u, s, hf, hcall⟩ := Reciprocal_ok wd HL.out hH.out.2.1
            have hrec : IsRec wd u := ⟨s, hf.2.1, hf.1⟩
            have HR := Lib.hid (And.intro hf (And.intro hrec hcall))
            clear hf hrec hcall
            refine (HR.out.2.2 _).mono ?_
            rintro e w3 ⟨rfl, n3, rfl⟩
            have H3 : Hid (Below w.heap.size w (wr.drewN n3)) := Lib.hid (below_drewN hH.out.1 n3)
            generalize wr.drewN n3 = w3 at *
            have e1 := HL.out.dec
            go_wp2_with (fail)
            clear e1
            refine (RRecip_ok wd _ HL.out hH.out.2.1).mono ?_
            rintro e w4 ⟨u', s', rfl, eu, hs', b4⟩
            obtain rfl : u' = u := (recip_uniq eu hs' HR.out.1.1 HR.out.1.2.1).1
            have H4 : Hid (Below w.heap.size w w4) := Lib.hid (H3.out.trans (b4.mono H3.out.size))
            clear eu hs' b4 H3
            go_wp2_with (fail)
            obtain ⟨q, r, hq, hcall⟩ := ByRec_ok hi x2 wd u' HL.out hH.out.2.1 HR.out.1.2.2 HR.out.2.1 hge HB.out.2.2
            have HQ : Hid (∀ q' r' : Nat, q' * wd + r' = hi * B64 + x2 → r' < wd → q' = q ∧ r' = r) := Lib.hid (fun q' r' e1 e2 => mg_uniq e2 hq.2 (e1.trans hq.1))
            clear hq
            refine (hcall _).mono ?_
            rintro e w5 ⟨rfl, b5⟩
            have H5 : Hid (Below w.heap.size w w5) := Lib.hid (H4.out.trans (b5.mono H4.out.size))
            have hgi : ¬ (wd : Int) ≤ hi := by omega
            have HG := Lib.hid hge
            clear b5 H4 hcall
            go_wp2_with (fail)
            refine (RNarrow_ok hi x2 wd _ HG.out HB.out.2.2 hH.out.2.1).mono ?_
            rintro e w6 ⟨q', r', rfl, he6, hr6, b6⟩
            obtain ⟨rfl, rfl⟩ := HQ.out _ _ he6 hr6
            have H6 : Hid (Below w.heap.size w w6) := Lib.hid (H5.out.trans (b6.mono H5.out.size))
            clear he6 hr6 b6 H5
            obtain ⟨o, ho1, ho2, ho3⟩ := other_word u' HR.out.1.2.2
            obtain ⟨hm, hm1⟩ : ∃ hm : Nat, (hi : Int) % (wd : Int) = (hm : Int) := ⟨hi % wd, by simp⟩
            have HNo : Hid (o < B64 ∧ ¬ IsRec wd o) := ⟨ho2, fun h => ho3 (isRec_uniq h HR.out.2.1)⟩
            have hwz : ¬ (wd = 0) := HL.out.pos
            clear ho2 ho3
            go_wp2_with (fail)
            refine (ByRec_not hm x2 wd o HL.out.dec hH.out.2.1 HNo.out.1 HNo.out.2 _).mono ?_
            rintro e w7 ⟨rfl, b7⟩
            have HT : Hid (Below w.heap.size w w7 ∧ wd' < B64 ∧ hi' < B64) := ⟨H6.out.trans (b7.mono H6.out.size), HW.out.1, HW.out.2⟩
            clear b7 hm1 ho1
            have hw1 := HE.out
            have hh1 := HX.out
            go_wp2_with (fail)
            go_roundw
            case rel => exact ⟨m + 1, wd', hi', by omega, by go_num, by first | rfl | (rw [← HE.out]; done) | (rw [← HE.out]; rfl), by first | rfl | (rw [← HX.out]; done) | (rw [← HX.out]; rfl), HT⟩
            case measure => simp [intOf]; omega
      · replace ho : wd % 2 = 1 := by omega
        by_cases hL : wd < 9223372036854775808
        · have HL := Lib.hid hL
          clear hL
          obtain ⟨v, hv, hcall⟩ := Inverse_ok wd hH.out.2.1 ho
          have HI := Lib.hid (And.intro hv hcall)
          have HO := Lib.hid ho
          have p1 : (wd : Int) % 2 = 1 := by omega
          clear hv hcall ho
          go_wp2_with (fail)
          refine (HI.out.2 _).mono ?_
          rintro e w3 ⟨rfl, rfl⟩
          go_wp2_with (fail)
          refine (RInverse_ok wd _ hH.out.2.1 HO.out).mono ?_
          rintro e w3 ⟨v', rfl, hv', he', rfl⟩
          obtain rfl : v' = v := inv_uniq hv' HI.out.1.1 he' HI.out.1.2
          clear hv' he'
          go_wp2_with (fail)
          have hL := HL.out
          refine (Reciprocal_arg wd (by omega) _).mono ?_
          rintro e w3 ⟨rfl, rfl⟩
          have e1 : decide ((wd : Int) < 9223372036854775808) = true := by simp; omega
          go_wp2_with (fail)
          refine (ByRec_low _ _ _ _ (by omega) _).mono ?_
          rintro e w3 ⟨rfl, rfl⟩
          clear e1 hL
          have HT : Hid (Below w.heap.size w wr ∧ wd' < B64 ∧ hi' < B64) := ⟨hH.out.1, HW.out.1, HW.out.2⟩
          have hw1 := HE.out
          have hh1 := HX.out
          go_wp2_with (fail)
          go_roundw
          case rel => exact ⟨m + 1, wd', hi', by omega, by go_num, by first | rfl | (rw [← HE.out]; done) | (rw [← HE.out]; rfl), by first | rfl | (rw [← HX.out]; done) | (rw [← HX.out]; rfl), HT⟩
          case measure => simp [intOf]; omega
        · replace hL : Big wd := by unfold Big; omega
          have HL := Lib.hid hL
          clear hL
          obtain ⟨v, hv, hcall⟩ := Inverse_ok wd hH.out.2.1 ho
          have HI := Lib.hid (And.intro hv hcall)
          have HO := Lib.hid ho
          have p1 : (wd : Int) % 2 = 1 := by omega
          clear hv hcall ho
          go_wp2_with (fail)
          refine (HI.out.2 _).mono ?_
          rintro e w3 ⟨rfl, rfl⟩
          go_wp2_with (fail)
          refine (RInverse_ok wd _ hH.out.2.1 HO.out).mono ?_
          rintro e w3 ⟨v', rfl, hv', he', rfl⟩
          obtain rfl : v' = v := inv_uniq hv' HI.out.1.1 he' HI.out.1.2
          clear hv' he'
          go_wp2_with (fail)
          by_cases hge : wd ≤ hi
          · obtain ⟨u, s, hf, hcall⟩ := Reciprocal_ok wd HL.out hH.out.2.1
            have hrec : IsRec wd u := ⟨s, hf.2.1, hf.1⟩
            have HR := Lib.hid (And.intro hf (And.intro hrec hcall))
            clear hf hrec hcall
            refine (HR.out.2.2 _).mono ?_
            rintro e w3 ⟨rfl, n3, rfl⟩
            have H3 : Hid (Below w.heap.size w (wr.drewN n3)) := Lib.hid (below_drewN hH.out.1 n3)
            generalize wr.drewN n3 = w3 at *
            have e1 := HL.out.dec
            go_wp2_with (fail)
            clear e1
            refine (RRecip_ok wd _ HL.out hH.out.2.1).mono ?_
            rintro e w4 ⟨u', s', rfl, eu, hs', b4⟩
            obtain rfl : u' = u := (recip_uniq eu hs' HR.out.1.1 HR.out.1.2.1).1
            have H4 : Hid (Below w.heap.size w w4) := Lib.hid (H3.out.trans (b4.mono H3.out.size))
            clear eu hs' b4 H3
            go_wp2_with (fail)
            have hgi : (wd : Int) ≤ hi := by omega
            refine (ByRec_high hi x2 wd u' HL.out.dec hH.out.2.1 HR.out.1.2.2 HR.out.2.1 hge _).mono ?_
            rintro e w5 ⟨rfl, b5⟩
            have H5 : Hid (Below w.heap.size w w5) := Lib.hid (H4.out.trans (b5.mono H4.out.size))
            clear b5 H4 
            obtain ⟨o, ho1, ho2, ho3⟩ := other_word u' HR.out.1.2.2
            obtain ⟨hm, hm1⟩ : ∃ hm : Nat, (hi : Int) % (wd : Int) = (hm : Int) := ⟨hi % wd, by simp⟩
            have HNo : Hid (o < B64 ∧ ¬ IsRec wd o) := ⟨ho2, fun h => ho3 (isRec_uniq h HR.out.2.1)⟩
            have hwz : ¬ (wd = 0) := HL.out.pos
            clear ho2 ho3
            go_wp2_with (fail)
            refine (ByRec_not hm x2 wd o HL.out.dec hH.out.2.1 HNo.out.1 HNo.out.2 _).mono ?_
            rintro e w7 ⟨rfl, b7⟩
            have HT : Hid (Below w.heap.size w w7 ∧ wd' < B64 ∧ hi' < B64) := ⟨H5.out.trans (b7.mono H5.out.size), HW.out.1, HW.out.2⟩
            clear b7 hm1 ho1
            have hw1 := HE.out
            have hh1 := HX.out
            go_wp2_with (fail)
            go_roundw
            case rel => exact ⟨m + 1, wd', hi', by omega, by go_num, by first | rfl | (rw [← HE.out]; done) | (rw [← HE.out]; rfl), by first | rfl | (rw [← HX.out]; done) | (rw [← HX.out]; rfl), HT⟩
            case measure => simp [intOf]; omega
          · replace hge : hi < wd := by omega
            obtain ⟨u, s, hf, hcall⟩ := Reciprocal_ok wd HL.out hH.out.2.1
            have hrec : IsRec wd u := ⟨s, hf.2.1, hf.1⟩
            have HR := Lib.hid (And.intro hf (And.intro hrec hcall))
            clear hf hrec hcall
            refine (HR.out.2.2 _).mono ?_
            rintro e w3 ⟨rfl, n3, rfl⟩
            have H3 : Hid (Below w.heap.size w (wr.drewN n3)) := Lib.hid (below_drewN hH.out.1 n3)
            generalize wr.drewN n3 = w3 at *
            have e1 := HL.out.dec
            go_wp2_with (fail)
            clear e1
            refine (RRecip_ok wd _ HL.out hH.out.2.1).mono ?_
            rintro e w4 ⟨u', s', rfl, eu, hs', b4⟩
            obtain rfl : u' = u := (recip_uniq eu hs' HR.out.1.1 HR.out.1.2.1).1
            have H4 : Hid (Below w.heap.size w w4) := Lib.hid (H3.out.trans (b4.mono H3.out.size))
            clear eu hs' b4 H3
            go_wp2_with (fail)
            obtain ⟨q, r, hq, hcall⟩ := ByRec_ok hi x2 wd u' HL.out hH.out.2.1 HR.out.1.2.2 HR.out.2.1 hge HB.out.2.2
            have HQ : Hid (∀ q' r' : Nat, q' * wd + r' = hi * B64 + x2 → r' < wd → q' = q ∧ r' = r) := Lib.hid (fun q' r' e1 e2 => mg_uniq e2 hq.2 (e1.trans hq.1))
            clear hq
            refine (hcall _).mono ?_
            rintro e w5 ⟨rfl, b5⟩
            have H5 : Hid (Below w.heap.size w w5) := Lib.hid (H4.out.trans (b5.mono H4.out.size))
            have hgi : ¬ (wd : Int) ≤ hi := by omega
            have HG := Lib.hid hge
            clear b5 H4 hcall
            go_wp2_with (fail)
            refine (RNarrow_ok hi x2 wd _ HG.out HB.out.2.2 hH.out.2.1).mono ?_
            rintro e w6 ⟨q', r', rfl, he6, hr6, b6⟩
            obtain ⟨rfl, rfl⟩ := HQ.out _ _ he6 hr6
            have H6 : Hid (Below w.heap.size w w6) := Lib.hid (H5.out.trans (b6.mono H5.out.size))
            clear he6 hr6 b6 H5
            obtain ⟨o, ho1, ho2, ho3⟩ := other_word u' HR.out.1.2.2
            obtain ⟨hm, hm1⟩ : ∃ hm : Nat, (hi : Int) % (wd : Int) = (hm : Int) := ⟨hi % wd, by simp⟩
            have HNo : Hid (o < B64 ∧ ¬ IsRec wd o) := ⟨ho2, fun h => ho3 (isRec_uniq h HR.out.2.1)⟩
            have hwz : ¬ (wd = 0) := HL.out.pos
            clear ho2 ho3
            go_wp2_with (fail)
            refine (ByRec_not hm x2 wd o HL.out.dec hH.out.2.1 HNo.out.1 HNo.out.2 _).mono ?_
            rintro e w7 ⟨rfl, b7⟩
            have HT : Hid (Below w.heap.size w w7 ∧ wd' < B64 ∧ hi' < B64) := ⟨H6.out.trans (b7.mono H6.out.size), HW.out.1, HW.out.2⟩
            clear b7 hm1 ho1
            have hw1 := HE.out
            have hh1 := HX.out
            go_wp2_with (fail)
            go_roundw
            case rel => exact ⟨m + 1, wd', hi', by omega, by go_num, by first | rfl | (rw [← HE.out]; done) | (rw [← HE.out]; rfl), by first | rfl | (rw [← HX.out]; done) | (rw [← HX.out]; rfl), HT⟩
            case measure => simp [intOf]; omega
    · go_wp2_with (fail)
      refine (awake_any _).mono ?_
      rintro e w3 ⟨rfl, b3⟩
      go_wp2_with (fail)
      go_ret
      exact ⟨rfl, hH.out.1.trans (b3.mono hH.out.1.size)⟩
end Go.Proofs.Ytnhoodpglbjhhaa.wordsInverses
