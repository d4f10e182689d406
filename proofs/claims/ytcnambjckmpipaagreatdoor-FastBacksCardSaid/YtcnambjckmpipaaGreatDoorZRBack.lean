/- The contract of reckonerref03.Back. -/
import Derived.Test.YtcnambjckmpipaaGreatDoorZRBh
import Derived.Test.YtcnambjckmpipaaGreatDoorZRB7
import Derived.Test.YtcnambjckmpipaaGreatDoorZRB8
namespace Go.Proofs.YtcnambjckmpipaaGreatDoor
open Go.RowKit Go.Shelf
set_option linter.unusedVariables false
set_option linter.unusedSimpArgs false
set_option maxRecDepth 10000

set_option maxHeartbeats 80000000 in
theorem RBack_ok (a b c d e : Sn) (w : World) (M : Nat) (hM : 1000 * M ≤ IB) (hM1 : 0 < M) (ha : ∀ s ∈ [a, b, c, d, e], Iv w s.s s.A s.n s.c s.v ∧ s.v.natAbs < M) :
    Calls Tryz.prog 7 #[snV a b c d e] w fun z w' => RBk w' z a.v b.v c.v d.v e.v ∧ Below w.heap.size w w' := by
  have Hx := Lib.hid ha
  have HV := Lib.hid (show a.v.natAbs < M ∧ b.v.natAbs < M ∧ c.v.natAbs < M ∧ d.v.natAbs < M ∧ e.v.natAbs < M ∧ 1000 * M ≤ IB ∧ 0 < M from ⟨(ha a (by simp)).2, (ha b (by simp)).2, (ha c (by simp)).2, (ha d (by simp)).2, (ha e (by simp)).2, hM, hM1⟩)
  clear ha hM hM1
  obtain ⟨X, hX⟩ : ∃ X, (w.alloc (.cells (snL a b c d e).toArray 27)).alloc (.cells zero10.toArray 27) = X := ⟨_, rfl⟩
  have HX : Hid (Vb w X a b c d e) := by rw [← hX]; exact Vb.new w a b c d e
  go_enter Tryz.func7, Tryz.ntmps7
  go_upto_region 1 with (fail)
  rw [show ((w.alloc (.cells #[.bool a.s, .slice a.A a.n a.c, .bool b.s, .slice b.A b.n b.c, .bool c.s, .slice c.A c.n c.c, .bool d.s, .slice d.A d.n d.c, .bool e.s, .slice e.A e.n e.c] 27)).alloc (.cells #[.bool false, .slice none 0 0, .bool false, .slice none 0 0, .bool false, .slice none 0 0, .bool false, .slice none 0 0, .bool false, .slice none 0 0] 27)) = X from hX]
  clear hX
  go_cut [4, 5] (fun a4 a5 wx => ∃ p4 p5, a4 = .pointer (some ⟨p4, 0, none⟩) ∧ a5 = .pointer (some ⟨p5, 0, none⟩) ∧ Below X.heap.size X wx ∧ Ib wx p4 a.v ∧ Ib wx p5 e.v ∧ X.heap.size ≤ p4 ∧ X.heap.size ≤ p5)
  case first =>
    obtain ⟨q0, -⟩ := HX.out.1 0 _ rfl
    obtain ⟨q1, -⟩ := HX.out.1 1 _ rfl
    obtain ⟨q8, -⟩ := HX.out.1 8 _ rfl
    obtain ⟨q9, -⟩ := HX.out.1 9 _ rfl
    go_region_held3 (fun w' => w'.cell? ⟨w.heap.size, 0, none⟩ = some (.bool a.s) ∧ w'.cell? ⟨w.heap.size, 1, none⟩ = some (.slice a.A a.n a.c) ∧ w'.cell? ⟨w.heap.size, 8, none⟩ = some (.bool e.s) ∧ w'.cell? ⟨w.heap.size, 9, none⟩ = some (.slice e.A e.n e.c)) (first | exact ⟨q0, q1, q8, q9⟩ | exact ⟨cell_al q0, cell_al q1, cell_al q8, cell_al q9⟩ | exact ⟨cell_al (cell_al q0), cell_al (cell_al q1), cell_al (cell_al q8), cell_al (cell_al q9)⟩ | go_keep) (fail)
    all_goals
      go_wp2_with fail
      go_meet
      have va := (Hx.out a (by simp)).1.below HX.out.2.2.1
      have ve := (Hx.out e (by simp)).1.below HX.out.2.2.1
      first
      | (have h := two_box va ve; exact ⟨_, _, rfl, rfl, h.1, h.2.1, h.2.2, Nat.le_refl _, Nat.le_succ _⟩)
      | (have h := two_box ve va; exact ⟨_, _, rfl, rfl, h.1, h.2.2, h.2.1, Nat.le_succ _, Nat.le_refl _⟩)
  case rest =>
    obtain ⟨p4, p5, rfl, rfl, hb1, i4, i5, g4, g5⟩ := hcut
    generalize wc = W2 at *
    have HWX := Lib.hid hb1
    have HWW2 := Lib.hid hb1
    have I4 := Lib.hid i4
    have I5 := Lib.hid i5
    have HG4 := Lib.hid (show p4 ≠ w.heap.size + 1 from (by have h1 := HX.out.2.2.2; omega))
    have HG5 := Lib.hid (show p5 ≠ w.heap.size + 1 from (by have h1 := HX.out.2.2.2; omega))
    clear hb1 i4 i5 g4 g5
    go_upto_region 2 with (fail)
    go_cut [6] (fun a6 wx => ∃ p6, a6 = .pointer (some ⟨p6, 0, none⟩) ∧ Bn W2 wx p6 (b.v - a.v - e.v))
    case first =>
      as_aux_lemma =>
        obtain ⟨q2, -⟩ := (HX.out.keep HWW2.out).1 2 _ rfl
        obtain ⟨q3, -⟩ := (HX.out.keep HWW2.out).1 3 _ rfl
        have vb := (Hx.out b (by simp)).1.below (HX.out.keep HWW2.out).2.2.1
        obtain ⟨e4, B4, m4, k4, g4, h4, v4⟩ := I4.out
        obtain ⟨e5, B5, m5, k5, g5, h5, v5⟩ := I5.out
        have HS := Lib.hid (show W2.cell? ⟨w.heap.size, 2, none⟩ = some (.bool b.s) ∧ W2.cell? ⟨w.heap.size, 3, none⟩ = some (.slice b.A b.n b.c) ∧ W2.cell? ⟨p4, 0, none⟩ = some (.bool e4) ∧ W2.cell? ⟨p4, 1, none⟩ = some (.slice B4 m4 k4) ∧ W2.cell? ⟨p5, 0, none⟩ = some (.bool e5) ∧ W2.cell? ⟨p5, 1, none⟩ = some (.slice B5 m5 k5) from ⟨q2, q3, g4, h4, g5, h5⟩)
        have HL := Lib.hid (show w.heap.size < W2.heap.size ∧ p4 < W2.heap.size ∧ p5 < W2.heap.size from ⟨World.block_lt_of_cell? _ _ q2, World.block_lt_of_cell? _ _ g4, World.block_lt_of_cell? _ _ g5⟩)
        go_region_held3 (fun w' => w'.cell? ⟨w.heap.size, 2, none⟩ = some (.bool b.s) ∧ w'.cell? ⟨w.heap.size, 3, none⟩ = some (.slice b.A b.n b.c) ∧ w'.cell? ⟨p4, 0, none⟩ = some (.bool e4) ∧ w'.cell? ⟨p4, 1, none⟩ = some (.slice B4 m4 k4) ∧ w'.cell? ⟨p5, 0, none⟩ = some (.bool e5) ∧ w'.cell? ⟨p5, 1, none⟩ = some (.slice B5 m5 k5)) (first | with_reducible exact S1.out | with_reducible exact ⟨cell_al S1.out.1, cell_al S1.out.2.1, cell_al S1.out.2.2.1, cell_al S1.out.2.2.2.1, cell_al S1.out.2.2.2.2.1, cell_al S1.out.2.2.2.2.2⟩ | with_reducible exact S2.out | with_reducible exact ⟨cell_al S2.out.1, cell_al S2.out.2.1, cell_al S2.out.2.2.1, cell_al S2.out.2.2.2.1, cell_al S2.out.2.2.2.2.1, cell_al S2.out.2.2.2.2.2⟩ | exact ⟨cell_put2 S2.out.1 (by have hl := HL.out; have h1 := HT1.out.size; have h2 := HT2.out.size; omega), cell_put2 S2.out.2.1 (by have hl := HL.out; have h1 := HT1.out.size; have h2 := HT2.out.size; omega), cell_put2 S2.out.2.2.1 (by have hl := HL.out; have h1 := HT1.out.size; have h2 := HT2.out.size; omega), cell_put2 S2.out.2.2.2.1 (by have hl := HL.out; have h1 := HT1.out.size; have h2 := HT2.out.size; omega), cell_put2 S2.out.2.2.2.2.1 (by have hl := HL.out; have h1 := HT1.out.size; have h2 := HT2.out.size; omega), cell_put2 S2.out.2.2.2.2.2 (by have hl := HL.out; have h1 := HT1.out.size; have h2 := HT2.out.size; omega)⟩ | exact HS.out | exact ⟨cell_al HS.out.1, cell_al HS.out.2.1, cell_al HS.out.2.2.1, cell_al HS.out.2.2.2.1, cell_al HS.out.2.2.2.2.1, cell_al HS.out.2.2.2.2.2⟩ | go_keep)
          (first
            | (go_at_call 29; (with_reducible show Calls _ _ #[.agg #[.bool d1, .slice A1 n1 c1], .agg #[.bool e5, .slice B5 m5 k5]] _ _); refine (isub (by first | exact HZ1.out.2 | exact HZ1.out.2.al _) (by first | exact (v5.below HB1.out) | exact (v5.below HB1.out).al _) (by have hv := HV.out; omega)).mono ?_; rintro er w2 ⟨d2, A2, n2, c2, hEq, hz, iv, hb⟩; subst hEq; have HB2 := Lib.hid (show Below w1.heap.size w1 w2 from (by first | exact hb | exact belowA hb | exact belDA hb | exact belAL hb)); have HT2 := Lib.hid (HT1.out.trans (HB2.out.mono HT1.out.size)); have HZ2 := Lib.hid (And.intro hz iv); have S2 := Lib.hid (show w2.cell? ⟨w.heap.size, 2, none⟩ = some (.bool b.s) ∧ w2.cell? ⟨w.heap.size, 3, none⟩ = some (.slice b.A b.n b.c) ∧ w2.cell? ⟨p4, 0, none⟩ = some (.bool e4) ∧ w2.cell? ⟨p4, 1, none⟩ = some (.slice B4 m4 k4) ∧ w2.cell? ⟨p5, 0, none⟩ = some (.bool e5) ∧ w2.cell? ⟨p5, 1, none⟩ = some (.slice B5 m5 k5) from ⟨cell_be S1.out.1 HB2.out, cell_be S1.out.2.1 HB2.out, cell_be S1.out.2.2.1 HB2.out, cell_be S1.out.2.2.2.1 HB2.out, cell_be S1.out.2.2.2.2.1 HB2.out, cell_be S1.out.2.2.2.2.2 HB2.out⟩); (first | (have HP := Lib.hid (HA.out.keep hb)) | (have HP := Lib.hid (Bx0.al hb)) | skip); (first | (obtain ⟨p0, f0⟩ := HP.out.1 0 _ rfl; obtain ⟨p1, f1⟩ := HP.out.1 1 _ rfl) | skip); clear hz iv hb)
            | (go_at_call 29; (with_reducible show Calls _ _ #[.agg #[.bool b.s, .slice b.A b.n b.c], .agg #[.bool e4, .slice B4 m4 k4]] _ _); refine (isub (by first | exact vb | exact vb.al _ | exact vb.dr | exact vb.dr.al _ | exact (vb.al _).dr) (by first | exact v4 | exact v4.al _ | exact v4.dr | exact v4.dr.al _ | exact (v4.al _).dr) (by have hv := HV.out; omega)).mono ?_; rintro er w1 ⟨d1, A1, n1, c1, hEq, hz, iv, hb⟩; subst hEq; have HB1 := Lib.hid (show Below W2.heap.size W2 w1 from (by first | exact hb | exact belowA hb | exact belDA hb | exact belAL hb)); have HT1 := HB1; have HZ1 := Lib.hid (And.intro hz iv); have S1 := Lib.hid (show w1.cell? ⟨w.heap.size, 2, none⟩ = some (.bool b.s) ∧ w1.cell? ⟨w.heap.size, 3, none⟩ = some (.slice b.A b.n b.c) ∧ w1.cell? ⟨p4, 0, none⟩ = some (.bool e4) ∧ w1.cell? ⟨p4, 1, none⟩ = some (.slice B4 m4 k4) ∧ w1.cell? ⟨p5, 0, none⟩ = some (.bool e5) ∧ w1.cell? ⟨p5, 1, none⟩ = some (.slice B5 m5 k5) from ⟨cell_be HS.out.1 HB1.out, cell_be HS.out.2.1 HB1.out, cell_be HS.out.2.2.1 HB1.out, cell_be HS.out.2.2.2.1 HB1.out, cell_be HS.out.2.2.2.2.1 HB1.out, cell_be HS.out.2.2.2.2.2 HB1.out⟩); (first | (have HA := Lib.hid (Bx0.da hb)) | skip); clear hz iv hb))
        all_goals
          go_wp2_with fail
          go_meet
          first
          | exact ⟨_, rfl, Bn.new HT1.out HZ2.out.1 HZ2.out.2⟩
          | exact ⟨_, rfl, Bn.old HT1.out (by first | exact Nat.le_refl _ | exact HT1.out.size) HA.out HZ2.out.1 (by have hv := HV.out; omega)⟩
          | exact ⟨_, rfl, Bn.old (HT1.out.alloc HT1.out.size (.cells #[.bool false, .slice none 0 0] 26)) (by first | exact Nat.le_refl _ | exact HT1.out.size) (Bx0.al (Below.refl _ _)) HZ2.out.1 (by have hv := HV.out; omega)⟩
    case rest =>
      obtain ⟨p6, rfl, hbn⟩ := hcut
      generalize wc = W3 at *
      have HWW3 := Lib.hid (HWW2.out.trans (hbn.2.1.mono HWW2.out.size))
      replace I4 := Lib.hid (I4.out.keep hbn.2.1)
      replace I5 := Lib.hid (I5.out.keep hbn.2.1)
      have I6 := Lib.hid (hbn.1.base HWW2.out)
      have HG6 := Lib.hid (show p6 ≠ w.heap.size + 1 from (by have h1 := HX.out.2.2.2; have h2 := HWW2.out.size; have h3 := hbn.2.2; omega))
      clear hbn
      go_upto_region 3 with (fail)
      go_cut [7] (fun a7 wx => ∃ p7, a7 = .pointer (some ⟨p7, 0, none⟩) ∧ Bn W3 wx p7 (c.v - a.v - e.v))
      case first =>
        as_aux_lemma =>
          obtain ⟨q4, -⟩ := (HX.out.keep HWW3.out).1 4 _ rfl
          obtain ⟨q5, -⟩ := (HX.out.keep HWW3.out).1 5 _ rfl
          have vc := (Hx.out c (by simp)).1.below (HX.out.keep HWW3.out).2.2.1
          obtain ⟨e4, B4, m4, k4, g4, h4, v4⟩ := I4.out
          obtain ⟨e5, B5, m5, k5, g5, h5, v5⟩ := I5.out
          have HS := Lib.hid (show W3.cell? ⟨w.heap.size, 4, none⟩ = some (.bool c.s) ∧ W3.cell? ⟨w.heap.size, 5, none⟩ = some (.slice c.A c.n c.c) ∧ W3.cell? ⟨p4, 0, none⟩ = some (.bool e4) ∧ W3.cell? ⟨p4, 1, none⟩ = some (.slice B4 m4 k4) ∧ W3.cell? ⟨p5, 0, none⟩ = some (.bool e5) ∧ W3.cell? ⟨p5, 1, none⟩ = some (.slice B5 m5 k5) from ⟨q4, q5, g4, h4, g5, h5⟩)
          have HL := Lib.hid (show w.heap.size < W3.heap.size ∧ p4 < W3.heap.size ∧ p5 < W3.heap.size from ⟨World.block_lt_of_cell? _ _ q4, World.block_lt_of_cell? _ _ g4, World.block_lt_of_cell? _ _ g5⟩)
          go_region_held3 (fun w' => w'.cell? ⟨w.heap.size, 4, none⟩ = some (.bool c.s) ∧ w'.cell? ⟨w.heap.size, 5, none⟩ = some (.slice c.A c.n c.c) ∧ w'.cell? ⟨p4, 0, none⟩ = some (.bool e4) ∧ w'.cell? ⟨p4, 1, none⟩ = some (.slice B4 m4 k4) ∧ w'.cell? ⟨p5, 0, none⟩ = some (.bool e5) ∧ w'.cell? ⟨p5, 1, none⟩ = some (.slice B5 m5 k5)) (first | with_reducible exact S1.out | with_reducible exact ⟨cell_al S1.out.1, cell_al S1.out.2.1, cell_al S1.out.2.2.1, cell_al S1.out.2.2.2.1, cell_al S1.out.2.2.2.2.1, cell_al S1.out.2.2.2.2.2⟩ | with_reducible exact S2.out | with_reducible exact ⟨cell_al S2.out.1, cell_al S2.out.2.1, cell_al S2.out.2.2.1, cell_al S2.out.2.2.2.1, cell_al S2.out.2.2.2.2.1, cell_al S2.out.2.2.2.2.2⟩ | exact ⟨cell_put2 S2.out.1 (by have hl := HL.out; have h1 := HT1.out.size; have h2 := HT2.out.size; omega), cell_put2 S2.out.2.1 (by have hl := HL.out; have h1 := HT1.out.size; have h2 := HT2.out.size; omega), cell_put2 S2.out.2.2.1 (by have hl := HL.out; have h1 := HT1.out.size; have h2 := HT2.out.size; omega), cell_put2 S2.out.2.2.2.1 (by have hl := HL.out; have h1 := HT1.out.size; have h2 := HT2.out.size; omega), cell_put2 S2.out.2.2.2.2.1 (by have hl := HL.out; have h1 := HT1.out.size; have h2 := HT2.out.size; omega), cell_put2 S2.out.2.2.2.2.2 (by have hl := HL.out; have h1 := HT1.out.size; have h2 := HT2.out.size; omega)⟩ | exact HS.out | exact ⟨cell_al HS.out.1, cell_al HS.out.2.1, cell_al HS.out.2.2.1, cell_al HS.out.2.2.2.1, cell_al HS.out.2.2.2.2.1, cell_al HS.out.2.2.2.2.2⟩ | go_keep)
            (first
              | (go_at_call 29; (with_reducible show Calls _ _ #[.agg #[.bool d1, .slice A1 n1 c1], .agg #[.bool e5, .slice B5 m5 k5]] _ _); refine (isub (by first | exact HZ1.out.2 | exact HZ1.out.2.al _) (by first | exact (v5.below HB1.out) | exact (v5.below HB1.out).al _) (by have hv := HV.out; omega)).mono ?_; rintro er w2 ⟨d2, A2, n2, c2, hEq, hz, iv, hb⟩; subst hEq; have HB2 := Lib.hid (show Below w1.heap.size w1 w2 from (by first | exact hb | exact belowA hb | exact belDA hb | exact belAL hb)); have HT2 := Lib.hid (HT1.out.trans (HB2.out.mono HT1.out.size)); have HZ2 := Lib.hid (And.intro hz iv); have S2 := Lib.hid (show w2.cell? ⟨w.heap.size, 4, none⟩ = some (.bool c.s) ∧ w2.cell? ⟨w.heap.size, 5, none⟩ = some (.slice c.A c.n c.c) ∧ w2.cell? ⟨p4, 0, none⟩ = some (.bool e4) ∧ w2.cell? ⟨p4, 1, none⟩ = some (.slice B4 m4 k4) ∧ w2.cell? ⟨p5, 0, none⟩ = some (.bool e5) ∧ w2.cell? ⟨p5, 1, none⟩ = some (.slice B5 m5 k5) from ⟨cell_be S1.out.1 HB2.out, cell_be S1.out.2.1 HB2.out, cell_be S1.out.2.2.1 HB2.out, cell_be S1.out.2.2.2.1 HB2.out, cell_be S1.out.2.2.2.2.1 HB2.out, cell_be S1.out.2.2.2.2.2 HB2.out⟩); (first | (have HP := Lib.hid (HA.out.keep hb)) | (have HP := Lib.hid (Bx0.al hb)) | skip); (first | (obtain ⟨p0, f0⟩ := HP.out.1 0 _ rfl; obtain ⟨p1, f1⟩ := HP.out.1 1 _ rfl) | skip); clear hz iv hb)
              | (go_at_call 29; (with_reducible show Calls _ _ #[.agg #[.bool c.s, .slice c.A c.n c.c], .agg #[.bool e4, .slice B4 m4 k4]] _ _); refine (isub (by first | exact vc | exact vc.al _ | exact vc.dr | exact vc.dr.al _ | exact (vc.al _).dr) (by first | exact v4 | exact v4.al _ | exact v4.dr | exact v4.dr.al _ | exact (v4.al _).dr) (by have hv := HV.out; omega)).mono ?_; rintro er w1 ⟨d1, A1, n1, c1, hEq, hz, iv, hb⟩; subst hEq; have HB1 := Lib.hid (show Below W3.heap.size W3 w1 from (by first | exact hb | exact belowA hb | exact belDA hb | exact belAL hb)); have HT1 := HB1; have HZ1 := Lib.hid (And.intro hz iv); have S1 := Lib.hid (show w1.cell? ⟨w.heap.size, 4, none⟩ = some (.bool c.s) ∧ w1.cell? ⟨w.heap.size, 5, none⟩ = some (.slice c.A c.n c.c) ∧ w1.cell? ⟨p4, 0, none⟩ = some (.bool e4) ∧ w1.cell? ⟨p4, 1, none⟩ = some (.slice B4 m4 k4) ∧ w1.cell? ⟨p5, 0, none⟩ = some (.bool e5) ∧ w1.cell? ⟨p5, 1, none⟩ = some (.slice B5 m5 k5) from ⟨cell_be HS.out.1 HB1.out, cell_be HS.out.2.1 HB1.out, cell_be HS.out.2.2.1 HB1.out, cell_be HS.out.2.2.2.1 HB1.out, cell_be HS.out.2.2.2.2.1 HB1.out, cell_be HS.out.2.2.2.2.2 HB1.out⟩); (first | (have HA := Lib.hid (Bx0.da hb)) | skip); clear hz iv hb))
          all_goals
            go_wp2_with fail
            go_meet
            first
            | exact ⟨_, rfl, Bn.new HT1.out HZ2.out.1 HZ2.out.2⟩
            | exact ⟨_, rfl, Bn.old HT1.out (by first | exact Nat.le_refl _ | exact HT1.out.size) HA.out HZ2.out.1 (by have hv := HV.out; omega)⟩
            | exact ⟨_, rfl, Bn.old (HT1.out.alloc HT1.out.size (.cells #[.bool false, .slice none 0 0] 26)) (by first | exact Nat.le_refl _ | exact HT1.out.size) (Bx0.al (Below.refl _ _)) HZ2.out.1 (by have hv := HV.out; omega)⟩
      case rest =>
        obtain ⟨p7, rfl, hbn⟩ := hcut
        generalize wc = W4 at *
        have HWW4 := Lib.hid (HWW3.out.trans (hbn.2.1.mono HWW3.out.size))
        replace I4 := Lib.hid (I4.out.keep hbn.2.1)
        replace I5 := Lib.hid (I5.out.keep hbn.2.1)
        replace I6 := Lib.hid (I6.out.keep hbn.2.1)
        have I7 := Lib.hid (hbn.1.base HWW3.out)
        have HG7 := Lib.hid (show p7 ≠ w.heap.size + 1 from (by have h1 := HX.out.2.2.2; have h2 := HWW3.out.size; have h3 := hbn.2.2; omega))
        clear hbn
        go_upto_region 4 with (fail)
        go_cut [8] (fun a8 wx => ∃ p8, a8 = .pointer (some ⟨p8, 0, none⟩) ∧ Bn W4 wx p8 (d.v - a.v - 16 * e.v))
        case first =>
          as_aux_lemma =>
            obtain ⟨q6, -⟩ := (HX.out.keep HWW4.out).1 6 _ rfl
            obtain ⟨q7, -⟩ := (HX.out.keep HWW4.out).1 7 _ rfl
            have vd := (Hx.out d (by simp)).1.below (HX.out.keep HWW4.out).2.2.1
            obtain ⟨e4, B4, m4, k4, g4, h4, v4⟩ := I4.out
            obtain ⟨e5, B5, m5, k5, g5, h5, v5⟩ := I5.out
            have HS := Lib.hid (show W4.cell? ⟨w.heap.size, 6, none⟩ = some (.bool d.s) ∧ W4.cell? ⟨w.heap.size, 7, none⟩ = some (.slice d.A d.n d.c) ∧ W4.cell? ⟨p4, 0, none⟩ = some (.bool e4) ∧ W4.cell? ⟨p4, 1, none⟩ = some (.slice B4 m4 k4) ∧ W4.cell? ⟨p5, 0, none⟩ = some (.bool e5) ∧ W4.cell? ⟨p5, 1, none⟩ = some (.slice B5 m5 k5) from ⟨q6, q7, g4, h4, g5, h5⟩)
            have HL := Lib.hid (show w.heap.size < W4.heap.size ∧ p4 < W4.heap.size ∧ p5 < W4.heap.size from ⟨World.block_lt_of_cell? _ _ q6, World.block_lt_of_cell? _ _ g4, World.block_lt_of_cell? _ _ g5⟩)
            go_region_held3 (fun w' => w'.cell? ⟨w.heap.size, 6, none⟩ = some (.bool d.s) ∧ w'.cell? ⟨w.heap.size, 7, none⟩ = some (.slice d.A d.n d.c) ∧ w'.cell? ⟨p4, 0, none⟩ = some (.bool e4) ∧ w'.cell? ⟨p4, 1, none⟩ = some (.slice B4 m4 k4) ∧ w'.cell? ⟨p5, 0, none⟩ = some (.bool e5) ∧ w'.cell? ⟨p5, 1, none⟩ = some (.slice B5 m5 k5)) (first | with_reducible exact S1.out | with_reducible exact ⟨cell_al S1.out.1, cell_al S1.out.2.1, cell_al S1.out.2.2.1, cell_al S1.out.2.2.2.1, cell_al S1.out.2.2.2.2.1, cell_al S1.out.2.2.2.2.2⟩ | with_reducible exact S2.out | with_reducible exact ⟨cell_al S2.out.1, cell_al S2.out.2.1, cell_al S2.out.2.2.1, cell_al S2.out.2.2.2.1, cell_al S2.out.2.2.2.2.1, cell_al S2.out.2.2.2.2.2⟩ | with_reducible exact S3.out | with_reducible exact ⟨cell_al S3.out.1, cell_al S3.out.2.1, cell_al S3.out.2.2.1, cell_al S3.out.2.2.2.1, cell_al S3.out.2.2.2.2.1, cell_al S3.out.2.2.2.2.2⟩ | with_reducible exact S4.out | with_reducible exact ⟨cell_al S4.out.1, cell_al S4.out.2.1, cell_al S4.out.2.2.1, cell_al S4.out.2.2.2.1, cell_al S4.out.2.2.2.2.1, cell_al S4.out.2.2.2.2.2⟩ | exact ⟨cell_put2 S4.out.1 (by have hl := HL.out; have h1 := HT1.out.size; have h2 := HT2.out.size; have h3 := HT3.out.size; have h4 := HT4.out.size; omega), cell_put2 S4.out.2.1 (by have hl := HL.out; have h1 := HT1.out.size; have h2 := HT2.out.size; have h3 := HT3.out.size; have h4 := HT4.out.size; omega), cell_put2 S4.out.2.2.1 (by have hl := HL.out; have h1 := HT1.out.size; have h2 := HT2.out.size; have h3 := HT3.out.size; have h4 := HT4.out.size; omega), cell_put2 S4.out.2.2.2.1 (by have hl := HL.out; have h1 := HT1.out.size; have h2 := HT2.out.size; have h3 := HT3.out.size; have h4 := HT4.out.size; omega), cell_put2 S4.out.2.2.2.2.1 (by have hl := HL.out; have h1 := HT1.out.size; have h2 := HT2.out.size; have h3 := HT3.out.size; have h4 := HT4.out.size; omega), cell_put2 S4.out.2.2.2.2.2 (by have hl := HL.out; have h1 := HT1.out.size; have h2 := HT2.out.size; have h3 := HT3.out.size; have h4 := HT4.out.size; omega)⟩ | exact HS.out | exact ⟨cell_al HS.out.1, cell_al HS.out.2.1, cell_al HS.out.2.2.1, cell_al HS.out.2.2.2.1, cell_al HS.out.2.2.2.2.1, cell_al HS.out.2.2.2.2.2⟩ | go_keep)
              (first
                | (go_at_call 29; (with_reducible show Calls _ _ #[.agg #[.bool d1, .slice A1 n1 c1], .agg #[.bool d3, .slice A3 n3 c3]] _ _); refine (isub (by first | exact ((HZ1.out.2.below HB2.out).below HB3.out) | exact ((HZ1.out.2.below HB2.out).below HB3.out).al _) (by first | exact HZ3.out.2 | exact HZ3.out.2.al _) (by have hv := HV.out; omega)).mono ?_; rintro er w4 ⟨d4, A4, n4, c4, hEq, hz, iv, hb⟩; subst hEq; have HB4 := Lib.hid (show Below w3.heap.size w3 w4 from (by first | exact hb | exact belowA hb | exact belDA hb | exact belAL hb)); have HT4 := Lib.hid (HT3.out.trans (HB4.out.mono HT3.out.size)); have HZ4 := Lib.hid (And.intro hz iv); have S4 := Lib.hid (show w4.cell? ⟨w.heap.size, 6, none⟩ = some (.bool d.s) ∧ w4.cell? ⟨w.heap.size, 7, none⟩ = some (.slice d.A d.n d.c) ∧ w4.cell? ⟨p4, 0, none⟩ = some (.bool e4) ∧ w4.cell? ⟨p4, 1, none⟩ = some (.slice B4 m4 k4) ∧ w4.cell? ⟨p5, 0, none⟩ = some (.bool e5) ∧ w4.cell? ⟨p5, 1, none⟩ = some (.slice B5 m5 k5) from ⟨cell_be S3.out.1 HB4.out, cell_be S3.out.2.1 HB4.out, cell_be S3.out.2.2.1 HB4.out, cell_be S3.out.2.2.2.1 HB4.out, cell_be S3.out.2.2.2.2.1 HB4.out, cell_be S3.out.2.2.2.2.2 HB4.out⟩); (first | (have HP := Lib.hid (HA.out.keep hb)) | (have HP := Lib.hid (Bx0.al hb)) | skip); (first | (obtain ⟨p0, f0⟩ := HP.out.1 0 _ rfl; obtain ⟨p1, f1⟩ := HP.out.1 1 _ rfl) | skip); clear hz iv hb)
                | (go_at_call 30; (with_reducible show Calls _ _ #[.agg #[.bool d2, .slice A2 n2 c2], .agg #[.bool e5, .slice B5 m5 k5]] _ _); refine (imul (by first | exact HZ2.out.2 | exact HZ2.out.2.al _) (by first | exact ((v5.below HB1.out).below HB2.out) | exact ((v5.below HB1.out).below HB2.out).al _) (by have hv := HV.out; rw [show (16 : Int).natAbs = 16 from rfl]; omega)).mono ?_; rintro er w3 ⟨d3, A3, n3, c3, hEq, hz, iv, hb⟩; subst hEq; have HB3 := Lib.hid (show Below w2.heap.size w2 w3 from (by first | exact hb | exact belowA hb | exact belDA hb | exact belAL hb)); have HT3 := Lib.hid (HT2.out.trans (HB3.out.mono HT2.out.size)); have HZ3 := Lib.hid (And.intro hz iv); have S3 := Lib.hid (show w3.cell? ⟨w.heap.size, 6, none⟩ = some (.bool d.s) ∧ w3.cell? ⟨w.heap.size, 7, none⟩ = some (.slice d.A d.n d.c) ∧ w3.cell? ⟨p4, 0, none⟩ = some (.bool e4) ∧ w3.cell? ⟨p4, 1, none⟩ = some (.slice B4 m4 k4) ∧ w3.cell? ⟨p5, 0, none⟩ = some (.bool e5) ∧ w3.cell? ⟨p5, 1, none⟩ = some (.slice B5 m5 k5) from ⟨cell_be S2.out.1 HB3.out, cell_be S2.out.2.1 HB3.out, cell_be S2.out.2.2.1 HB3.out, cell_be S2.out.2.2.2.1 HB3.out, cell_be S2.out.2.2.2.2.1 HB3.out, cell_be S2.out.2.2.2.2.2 HB3.out⟩); (first | (have HA := Lib.hid (HA.out.keep hb)) | (have HA := Lib.hid (Bx0.al hb)) | skip); clear hz iv hb)
                | (go_at_call 31; (with_reducible show Calls _ _ #[.int .i64 16] _ _); refine (ifrom (W := _) 16 (by omega) (by omega)).mono ?_; rintro er w2 ⟨d2, A2, n2, c2, hEq, hz, iv, hb⟩; subst hEq; have HB2 := Lib.hid (show Below w1.heap.size w1 w2 from (by first | exact hb | exact belowA hb | exact belDA hb | exact belAL hb)); have HT2 := Lib.hid (HT1.out.trans (HB2.out.mono HT1.out.size)); have HZ2 := Lib.hid (And.intro hz iv); have S2 := Lib.hid (show w2.cell? ⟨w.heap.size, 6, none⟩ = some (.bool d.s) ∧ w2.cell? ⟨w.heap.size, 7, none⟩ = some (.slice d.A d.n d.c) ∧ w2.cell? ⟨p4, 0, none⟩ = some (.bool e4) ∧ w2.cell? ⟨p4, 1, none⟩ = some (.slice B4 m4 k4) ∧ w2.cell? ⟨p5, 0, none⟩ = some (.bool e5) ∧ w2.cell? ⟨p5, 1, none⟩ = some (.slice B5 m5 k5) from ⟨cell_be S1.out.1 HB2.out, cell_be S1.out.2.1 HB2.out, cell_be S1.out.2.2.1 HB2.out, cell_be S1.out.2.2.2.1 HB2.out, cell_be S1.out.2.2.2.2.1 HB2.out, cell_be S1.out.2.2.2.2.2 HB2.out⟩); (first | (have HA := Lib.hid (HA.out.keep hb)) | (have HA := Lib.hid (Bx0.al hb)) | skip); clear hz iv hb)
                | (go_at_call 29; (with_reducible show Calls _ _ #[.agg #[.bool d.s, .slice d.A d.n d.c], .agg #[.bool e4, .slice B4 m4 k4]] _ _); refine (isub (by first | exact vd | exact vd.al _ | exact vd.dr | exact vd.dr.al _ | exact (vd.al _).dr) (by first | exact v4 | exact v4.al _ | exact v4.dr | exact v4.dr.al _ | exact (v4.al _).dr) (by have hv := HV.out; omega)).mono ?_; rintro er w1 ⟨d1, A1, n1, c1, hEq, hz, iv, hb⟩; subst hEq; have HB1 := Lib.hid (show Below W4.heap.size W4 w1 from (by first | exact hb | exact belowA hb | exact belDA hb | exact belAL hb)); have HT1 := HB1; have HZ1 := Lib.hid (And.intro hz iv); have S1 := Lib.hid (show w1.cell? ⟨w.heap.size, 6, none⟩ = some (.bool d.s) ∧ w1.cell? ⟨w.heap.size, 7, none⟩ = some (.slice d.A d.n d.c) ∧ w1.cell? ⟨p4, 0, none⟩ = some (.bool e4) ∧ w1.cell? ⟨p4, 1, none⟩ = some (.slice B4 m4 k4) ∧ w1.cell? ⟨p5, 0, none⟩ = some (.bool e5) ∧ w1.cell? ⟨p5, 1, none⟩ = some (.slice B5 m5 k5) from ⟨cell_be HS.out.1 HB1.out, cell_be HS.out.2.1 HB1.out, cell_be HS.out.2.2.1 HB1.out, cell_be HS.out.2.2.2.1 HB1.out, cell_be HS.out.2.2.2.2.1 HB1.out, cell_be HS.out.2.2.2.2.2 HB1.out⟩); (first | (have HA := Lib.hid (Bx0.da hb)) | skip); clear hz iv hb))
            all_goals
              go_wp2_with fail
              go_meet
              first
              | exact ⟨_, rfl, Bn.new HT3.out HZ4.out.1 HZ4.out.2⟩
              | exact ⟨_, rfl, Bn.old HT3.out (by first | exact Nat.le_refl _ | exact HT1.out.size | exact HT2.out.size | exact HT3.out.size) HA.out HZ4.out.1 (by have hv := HV.out; omega)⟩
              | exact ⟨_, rfl, Bn.old (HT3.out.alloc HT3.out.size (.cells #[.bool false, .slice none 0 0] 26)) (by first | exact Nat.le_refl _ | exact HT1.out.size | exact HT2.out.size | exact HT3.out.size) (Bx0.al (Below.refl _ _)) HZ4.out.1 (by have hv := HV.out; omega)⟩
        case rest =>
          obtain ⟨p8, rfl, hbn⟩ := hcut
          generalize wc = W5 at *
          have HWW5 := Lib.hid (HWW4.out.trans (hbn.2.1.mono HWW4.out.size))
          replace I4 := Lib.hid (I4.out.keep hbn.2.1)
          replace I5 := Lib.hid (I5.out.keep hbn.2.1)
          replace I6 := Lib.hid (I6.out.keep hbn.2.1)
          replace I7 := Lib.hid (I7.out.keep hbn.2.1)
          have I8 := Lib.hid (hbn.1.base HWW4.out)
          have HG8 := Lib.hid (show p8 ≠ w.heap.size + 1 from (by have h1 := HX.out.2.2.2; have h2 := HWW4.out.size; have h3 := hbn.2.2; omega))
          clear hbn
          go_upto_region 5 with (fail)
          go_cut [9, 10] (fun a9 ab wx => ∃ (p9 : Nat) (q : Int) (r : Nat), a9 = .pointer (some ⟨p9, 0, none⟩) ∧ ab = .bool (decide (r = 0)) ∧ b.v - a.v - e.v + (c.v - a.v - e.v) = q * 2 + r ∧ r < 2 ∧ q.natAbs ≤ (b.v - a.v - e.v + (c.v - a.v - e.v)).natAbs + 1 ∧ Bn W5 wx p9 q)
          case first =>
            as_aux_lemma =>
              obtain ⟨e6, B6, m6, k6, g6, h6, v6, -⟩ := I6.out
              obtain ⟨e7, B7, m7, k7, g7, h7, v7, -⟩ := I7.out
              have HS := Lib.hid (show W5.cell? ⟨p6, 0, none⟩ = some (.bool e6) ∧ W5.cell? ⟨p6, 1, none⟩ = some (.slice B6 m6 k6) ∧ W5.cell? ⟨p7, 0, none⟩ = some (.bool e7) ∧ W5.cell? ⟨p7, 1, none⟩ = some (.slice B7 m7 k7) from ⟨g6, h6, g7, h7⟩)
              have HL := Lib.hid (show p6 < W5.heap.size ∧ p7 < W5.heap.size from ⟨World.block_lt_of_cell? _ _ g6, World.block_lt_of_cell? _ _ g7⟩)
              go_wp2_with (first
                  | (go_at_call 32; (with_reducible show Calls _ _ #[.agg #[.bool d1, .slice A1 n1 c1], .int .u64 2] _ _); refine (ihalf 2 (by first | exact HZ1.out.2 | exact HZ1.out.2.al _) (by omega) (by omega) (by have hv := HV.out; omega)).mono ?_; rintro er w2 ⟨d2, A2, n2, c2, q, r, hEq, hsum, hrk, hqb, hz, iv, hb⟩; subst hEq; have HQ := Lib.hid (And.intro hsum (And.intro hrk hqb)); clear hsum hrk hqb; obtain ⟨bz, hbz⟩ : ∃ bz, decide (r = 0) = bz := ⟨_, rfl⟩; rw [hbz]; have HBZ := Lib.hid hbz; clear hbz; have HB2 := Lib.hid (show Below w1.heap.size w1 w2 from (by first | exact hb | exact belowA hb | exact belDA hb | exact belAL hb)); have HT2 := Lib.hid (HT1.out.trans (HB2.out.mono HT1.out.size)); have HZ2 := Lib.hid (And.intro hz iv); have S2 := Lib.hid (show w2.cell? ⟨p6, 0, none⟩ = some (.bool e6) ∧ w2.cell? ⟨p6, 1, none⟩ = some (.slice B6 m6 k6) ∧ w2.cell? ⟨p7, 0, none⟩ = some (.bool e7) ∧ w2.cell? ⟨p7, 1, none⟩ = some (.slice B7 m7 k7) from ⟨cell_be S1.out.1 HB2.out, cell_be S1.out.2.1 HB2.out, cell_be S1.out.2.2.1 HB2.out, cell_be S1.out.2.2.2 HB2.out⟩); clear hz iv hb)
                  | (go_at_call 33; (with_reducible show Calls _ _ #[.agg #[.bool e6, .slice B6 m6 k6], .agg #[.bool e7, .slice B7 m7 k7]] _ _); refine (iadd (by first | exact v6 | exact v6.al _ | exact v6.dr | exact v6.dr.al _ | exact (v6.al _).dr) (by first | exact v7 | exact v7.al _ | exact v7.dr | exact v7.dr.al _ | exact (v7.al _).dr) (by have hv := HV.out; omega)).mono ?_; rintro er w1 ⟨d1, A1, n1, c1, hEq, hz, iv, hb⟩; subst hEq; have HB1 := Lib.hid (show Below W5.heap.size W5 w1 from (by first | exact hb | exact belowA hb | exact belDA hb | exact belAL hb)); have HT1 := HB1; have HZ1 := Lib.hid (And.intro hz iv); have S1 := Lib.hid (show w1.cell? ⟨p6, 0, none⟩ = some (.bool e6) ∧ w1.cell? ⟨p6, 1, none⟩ = some (.slice B6 m6 k6) ∧ w1.cell? ⟨p7, 0, none⟩ = some (.bool e7) ∧ w1.cell? ⟨p7, 1, none⟩ = some (.slice B7 m7 k7) from ⟨cell_be HS.out.1 HB1.out, cell_be HS.out.2.1 HB1.out, cell_be HS.out.2.2.1 HB1.out, cell_be HS.out.2.2.2 HB1.out⟩); clear hz iv hb))
              all_goals
                go_meet
                first
                | exact ⟨_, q, r, rfl, by rw [HBZ.out], HQ.out.1, HQ.out.2.1, HQ.out.2.2, Bn.new HT1.out HZ2.out.1 HZ2.out.2⟩
          case rest =>
            obtain ⟨p9, q9, r9, rfl, rfl, hs9, hr9, hq9, hbn⟩ := hcut
            generalize wc = W6 at *
            have HQ9 := Lib.hid (And.intro hs9 (And.intro hr9 hq9))
            clear hs9 hr9 hq9
            have HWW6 := Lib.hid (HWW5.out.trans (hbn.2.1.mono HWW5.out.size))
            replace I4 := Lib.hid (I4.out.keep hbn.2.1)
            replace I5 := Lib.hid (I5.out.keep hbn.2.1)
            replace I6 := Lib.hid (I6.out.keep hbn.2.1)
            replace I7 := Lib.hid (I7.out.keep hbn.2.1)
            replace I8 := Lib.hid (I8.out.keep hbn.2.1)
            have I9 := Lib.hid (hbn.1.base HWW5.out)
            have HV := Lib.hid (show _ ∧ q9.natAbs < 40 * M from ⟨HV.out, by have hv := HV.out; have hq := HQ9.out.2.2; omega⟩)
            have HG9 := Lib.hid (show p9 ≠ w.heap.size + 1 from (by have h1 := HX.out.2.2.2; have h2 := HWW5.out.size; have h3 := hbn.2.2; omega))
            clear hbn
            go_upto_region 6 with (fail)
            go_cut [11, 12] (fun a11 ab wx => ∃ (p11 : Nat) (q : Int) (r : Nat), a11 = .pointer (some ⟨p11, 0, none⟩) ∧ ab = .bool (decide (r = 0)) ∧ b.v - a.v - e.v - (c.v - a.v - e.v) = q * 2 + r ∧ r < 2 ∧ q.natAbs ≤ (b.v - a.v - e.v - (c.v - a.v - e.v)).natAbs + 1 ∧ Bn W6 wx p11 q)
            case first =>
              as_aux_lemma =>
                obtain ⟨e6, B6, m6, k6, g6, h6, v6, -⟩ := I6.out
                obtain ⟨e7, B7, m7, k7, g7, h7, v7, -⟩ := I7.out
                have HS := Lib.hid (show W6.cell? ⟨p6, 0, none⟩ = some (.bool e6) ∧ W6.cell? ⟨p6, 1, none⟩ = some (.slice B6 m6 k6) ∧ W6.cell? ⟨p7, 0, none⟩ = some (.bool e7) ∧ W6.cell? ⟨p7, 1, none⟩ = some (.slice B7 m7 k7) from ⟨g6, h6, g7, h7⟩)
                have HL := Lib.hid (show p6 < W6.heap.size ∧ p7 < W6.heap.size from ⟨World.block_lt_of_cell? _ _ g6, World.block_lt_of_cell? _ _ g7⟩)
                go_wp2_with (first
                    | (go_at_call 32; (with_reducible show Calls _ _ #[.agg #[.bool d1, .slice A1 n1 c1], .int .u64 2] _ _); refine (ihalf 2 (by first | exact HZ1.out.2 | exact HZ1.out.2.al _) (by omega) (by omega) (by have hv := HV.out; omega)).mono ?_; rintro er w2 ⟨d2, A2, n2, c2, q, r, hEq, hsum, hrk, hqb, hz, iv, hb⟩; subst hEq; have HQ := Lib.hid (And.intro hsum (And.intro hrk hqb)); clear hsum hrk hqb; obtain ⟨bz, hbz⟩ : ∃ bz, decide (r = 0) = bz := ⟨_, rfl⟩; rw [hbz]; have HBZ := Lib.hid hbz; clear hbz; have HB2 := Lib.hid (show Below w1.heap.size w1 w2 from (by first | exact hb | exact belowA hb | exact belDA hb | exact belAL hb)); have HT2 := Lib.hid (HT1.out.trans (HB2.out.mono HT1.out.size)); have HZ2 := Lib.hid (And.intro hz iv); have S2 := Lib.hid (show w2.cell? ⟨p6, 0, none⟩ = some (.bool e6) ∧ w2.cell? ⟨p6, 1, none⟩ = some (.slice B6 m6 k6) ∧ w2.cell? ⟨p7, 0, none⟩ = some (.bool e7) ∧ w2.cell? ⟨p7, 1, none⟩ = some (.slice B7 m7 k7) from ⟨cell_be S1.out.1 HB2.out, cell_be S1.out.2.1 HB2.out, cell_be S1.out.2.2.1 HB2.out, cell_be S1.out.2.2.2 HB2.out⟩); clear hz iv hb)
                    | (go_at_call 29; (with_reducible show Calls _ _ #[.agg #[.bool e6, .slice B6 m6 k6], .agg #[.bool e7, .slice B7 m7 k7]] _ _); refine (isub (by first | exact v6 | exact v6.al _ | exact v6.dr | exact v6.dr.al _ | exact (v6.al _).dr) (by first | exact v7 | exact v7.al _ | exact v7.dr | exact v7.dr.al _ | exact (v7.al _).dr) (by have hv := HV.out; omega)).mono ?_; rintro er w1 ⟨d1, A1, n1, c1, hEq, hz, iv, hb⟩; subst hEq; have HB1 := Lib.hid (show Below W6.heap.size W6 w1 from (by first | exact hb | exact belowA hb | exact belDA hb | exact belAL hb)); have HT1 := HB1; have HZ1 := Lib.hid (And.intro hz iv); have S1 := Lib.hid (show w1.cell? ⟨p6, 0, none⟩ = some (.bool e6) ∧ w1.cell? ⟨p6, 1, none⟩ = some (.slice B6 m6 k6) ∧ w1.cell? ⟨p7, 0, none⟩ = some (.bool e7) ∧ w1.cell? ⟨p7, 1, none⟩ = some (.slice B7 m7 k7) from ⟨cell_be HS.out.1 HB1.out, cell_be HS.out.2.1 HB1.out, cell_be HS.out.2.2.1 HB1.out, cell_be HS.out.2.2.2 HB1.out⟩); clear hz iv hb))
                all_goals
                  go_meet
                  first
                  | exact ⟨_, q, r, rfl, by rw [HBZ.out], HQ.out.1, HQ.out.2.1, HQ.out.2.2, Bn.new HT1.out HZ2.out.1 HZ2.out.2⟩
            case rest =>
              obtain ⟨p11, q11, r11, rfl, rfl, hs11, hr11, hq11, hbn⟩ := hcut
              generalize wc = W7 at *
              have HQ11 := Lib.hid (And.intro hs11 (And.intro hr11 hq11))
              clear hs11 hr11 hq11
              have HWW7 := Lib.hid (HWW6.out.trans (hbn.2.1.mono HWW6.out.size))
              replace I4 := Lib.hid (I4.out.keep hbn.2.1)
              replace I5 := Lib.hid (I5.out.keep hbn.2.1)
              replace I6 := Lib.hid (I6.out.keep hbn.2.1)
              replace I7 := Lib.hid (I7.out.keep hbn.2.1)
              replace I8 := Lib.hid (I8.out.keep hbn.2.1)
              replace I9 := Lib.hid (I9.out.keep hbn.2.1)
              have I11 := Lib.hid (hbn.1.base HWW6.out)
              have HV := Lib.hid (show _ ∧ q11.natAbs < 40 * M from ⟨HV.out, by have hv := HV.out; have hq := HQ11.out.2.2; omega⟩)
              have HG11 := Lib.hid (show p11 ≠ w.heap.size + 1 from (by have h1 := HX.out.2.2.2; have h2 := HWW6.out.size; have h3 := hbn.2.2; omega))
              clear hbn
              go_upto_region 7 with (fail)
              go_cut [13, 14] (fun a13 ab wx => ∃ (p13 : Nat) (q : Int) (r : Nat), a13 = .pointer (some ⟨p13, 0, none⟩) ∧ ab = .bool (decide (r = 0)) ∧ d.v - a.v - 16 * e.v - 4 * q9 - 2 * q11 = q * 6 + r ∧ r < 6 ∧ q.natAbs ≤ (d.v - a.v - 16 * e.v - 4 * q9 - 2 * q11).natAbs + 1 ∧ Bn W7 wx p13 q)
              case first =>
                exact RBack_r7 (M := M) (X := X) (by have hv := HV.out; omega) I8 I9 I11 (by assumption) (by assumption)
              case rest =>
                obtain ⟨p13, q13, r13, rfl, rfl, hs13, hr13, hq13, hbn⟩ := hcut
                generalize wc = W8 at *
                have HQ13 := Lib.hid (And.intro hs13 (And.intro hr13 hq13))
                clear hs13 hr13 hq13
                have HWW8 := Lib.hid (HWW7.out.trans (hbn.2.1.mono HWW7.out.size))
                replace I4 := Lib.hid (I4.out.keep hbn.2.1)
                replace I5 := Lib.hid (I5.out.keep hbn.2.1)
                replace I6 := Lib.hid (I6.out.keep hbn.2.1)
                replace I7 := Lib.hid (I7.out.keep hbn.2.1)
                replace I8 := Lib.hid (I8.out.keep hbn.2.1)
                replace I9 := Lib.hid (I9.out.keep hbn.2.1)
                replace I11 := Lib.hid (I11.out.keep hbn.2.1)
                have I13 := Lib.hid (hbn.1.base HWW7.out)
                have HV := Lib.hid (show _ ∧ q13.natAbs < 400 * M from ⟨HV.out, by have hv := HV.out; have hq := HQ13.out.2.2; omega⟩)
                have HG13 := Lib.hid (show p13 ≠ w.heap.size + 1 from (by have h1 := HX.out.2.2.2; have h2 := HWW7.out.size; have h3 := hbn.2.2; omega))
                clear hbn
                obtain ⟨z9, hz9⟩ : ∃ z9, decide (r9 = 0) = z9 := ⟨_, rfl⟩
                rw [hz9]
                have HD9 := Lib.hid hz9
                clear hz9
                obtain ⟨z11, hz11⟩ : ∃ z11, decide (r11 = 0) = z11 := ⟨_, rfl⟩
                rw [hz11]
                have HD11 := Lib.hid hz11
                clear hz11
                obtain ⟨z13, hz13⟩ : ∃ z13, decide (r13 = 0) = z13 := ⟨_, rfl⟩
                rw [hz13]
                have HD13 := Lib.hid hz13
                clear hz13
                go_upto_region 8 with (fail)
                exact RBack_r8 (M := M) HX HWW8 HG4 HG5 HG9 HG11 HG13 I4 I5 I9 I11 I13 HV HQ9 HQ11 HQ13 HD9 HD11 HD13 (by assumption)
end Go.Proofs.YtcnambjckmpipaaGreatDoor
