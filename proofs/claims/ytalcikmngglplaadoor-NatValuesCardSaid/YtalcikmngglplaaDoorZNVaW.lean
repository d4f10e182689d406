/- The walk of the law NatValues. -/
import Derived.Test.YtalcikmngglplaaDoorZLawR
import Derived.Test.YtalcikmngglplaaDoorZVBits
import Derived.Test.YtalcikmngglplaaDoorZNCmp
import Derived.OpenShut
namespace Go.Proofs.YtalcikmngglplaaDoor.natValues
open Go.ChangeShapes Go.RowKit
set_option linter.unusedVariables false
set_option linter.unusedSimpArgs false

/-- both rows, as they stand, and the table -/
def Two (w wr : World) (A1 A2 : Option Addr) (k1 k2 d1 d2 : Nat) (us vs : List Nat) : Prop := Sl wr A1 k1 d1 us ∧ Sl wr A2 k2 d2 vs ∧ TabC wr ∧ Below w.heap.size w wr
theorem Two.keep {w wr w' : World} {A1 A2 : Option Addr} {k1 k2 d1 d2 : Nat} {us vs : List Nat} (h : Two w wr A1 A2 k1 k2 d1 d2 us vs) (hb : Below wr.heap.size wr w') : Two w w' A1 A2 k1 k2 d1 d2 us vs :=
  ⟨h.1.below hb, h.2.1.below hb, h.2.2.1.below hb, h.2.2.2.trans (hb.mono h.2.2.2.size)⟩

set_option maxRecDepth 100000 in
set_option maxHeartbeats 8000000 in
theorem walk (w : World) (a0 : Option Addr) (n0 c0 : Nat) (xs : List Nat) (hx : Sl w a0 n0 c0 xs) (a1 : Option Addr) (n1 c1 : Nat) (ys : List Nat) (hy : Sl w a1 n1 c1 ys) (a2 : Int) (w2 : (Lit.int .u64 a2).wf = true) (hT : TabC w) :
    Calls Tryd.prog 3 #[.slice a0 n0 c0, .slice a1 n1 c1, .int .u64 a2] w fun e w' => e = .returned (.bool true) ∧ Below w.heap.size w w' := by
  have hb := bounds_u64 w2
  obtain ⟨y, rfl⟩ := Int.eq_ofNat_of_zero_le (show 0 ≤ a2 by omega)
  have hyB : y < B64 := by have : B64 = 18446744073709551616 := rfl; omega
  have Hx := Lib.hid (And.intro hx (And.intro hy (And.intro hT hyB)))
  clear hx hy w2 hT hyB hb
  go_enter Tryd.func3, Tryd.ntmps3
  go_wp2_with (fail)
  refine (few_row _ _ _ 40 xs _ Hx.out.1 (by omega)).mono ?_
  rintro e w3 ⟨A1, k1, d1, us, rfl, hk1, hs1, -, -, hb1⟩
  have H1 := Lib.hid (And.intro hs1 (And.intro (Hx.out.2.1.below hb1) (And.intro (Hx.out.2.2.1.below hb1) hb1)))
  clear hs1 hb1
  go_wp2_with (fail)
  refine (few_row _ _ _ 40 ys _ H1.out.2.1 (by omega)).mono ?_
  rintro e w4 ⟨A2, k2, d2, vs, rfl, hk2, hs2, -, -, hb2⟩
  have H2 : Hid (Two w w4 A1 A2 k1 k2 d1 d2 us vs) := ⟨H1.out.1.below hb2, hs2, H1.out.2.2.1.below hb2, H1.out.2.2.2.trans (hb2.mono H1.out.2.2.2.size)⟩
  clear hs2 hb2 H1
  go_wp2_with (fail)
  refine (NWord_ok _ _ _ us _ (by omega) H2.out.1).mono ?_
  rintro e w5 ⟨v, is, rfl, hv1, hv2, rfl⟩
  have HV := Lib.hid (And.intro hv1 hv2)
  clear hv1 hv2
  go_wp2_with (fail)
  refine (RTrim_ok _ _ _ us _ (by omega) H2.out.1).mono ?_
  rintro e w6 hR
  obtain ⟨A3, n3, c3, zs, rfl, h3⟩ := hR.open (row_lt H2.out.1 (by omega))
  have H3 := Lib.hid (And.intro (H2.out.keep h3.bel) h3)
  clear hR h3 H2
  have hC := Cn_len H3.out.2.1.2.2.2.1 H3.out.2.2.1 1
  rw [H3.out.2.1.1, Nat.pow_one, H3.out.2.2.2.1] at hC
  have HC := Lib.hid hC
  clear hC
  have HS : Hid (Sl w6 A3 n3 c3 zs ∧ V zs = V us) := ⟨H3.out.2.1, H3.out.2.2.2.1⟩
  have H4 := Lib.hid H3.out.1
  clear H3
  rcases (show n3 = 0 ∨ n3 = 1 ∨ 2 ≤ n3 by omega) with rfl | rfl | hn2
  · have hz : V us = 0 := by
      have h1 := HS.out.1.1
      have h2 := HS.out.2
      rw [List.length_eq_zero_iff.1 h1] at h2
      exact h2.symm
    have hv := HV.out.1 (by rw [hz]; decide)
    rw [hz] at hv
    obtain ⟨rfl, rfl⟩ := hv
    clear hz HC HS HV
    go_wp2_with (fail)
    refine (NBits_ok _ _ _ us _ (by omega) H4.out.1 H4.out.2.2.1).mono ?_
    rintro e w7 ⟨t, o, rfl, ht, ho, rfl⟩
    have HB1 := Lib.hid (And.intro ht ho)
    clear ht ho
    go_wp2_with (fail)
    refine (R2Bits_ok _ _ _ us _ (by omega) H4.out.1).mono ?_
    rintro e w7 ⟨t', o', rfl, ht, ho, rfl⟩
    obtain rfl := TZ_uniq HB1.out.1 ht
    obtain rfl := HB1.out.2.trans ho.symm
    clear ht ho HB1
    go_wp2_with (fail)
    refine (NTrim_ok _ _ _ us _ (by omega) H4.out.1).mono ?_
    rintro e w8 hR
    obtain ⟨A5, n5, c5, zs5, rfl, h5⟩ := hR.open (row_lt H4.out.1 (by omega))
    have H5 := Lib.hid (And.intro (H4.out.keep h5.bel) h5)
    clear hR h5 H4
    go_wp2_with (fail)
    refine (Is_row H5.out.2 H5.out.1.1 (by omega) rfl).mono ?_
    rintro e w9 ⟨rfl, b9⟩
    have H9 := Lib.hid (H5.out.1.keep b9)
    clear b9 H5
    go_wp2_with (fail)
    refine (NCmp_ok _ _ _ _ _ _ us vs _ (by omega) (by omega) H9.out.1 H9.out.2.1).mono ?_
    rintro e w10 ⟨rfl, b10⟩
    have H10 := Lib.hid (H9.out.keep b10)
    clear b10 H9
    go_wp2_with (fail)
    refine (RCmp_ok _ _ _ _ _ _ us vs _ (by omega) (by omega) H10.out.1 H10.out.2.1).mono ?_
    rintro e w11 ⟨rfl, b11⟩
    have H11 := Lib.hid (H10.out.keep b11)
    clear b11 H10
    generalize cmpI (V us) (V vs) = cc at *
    go_wp2_with (fail)
    refine (NCmp_ok _ _ _ _ _ _ us us _ (by omega) (by omega) H11.out.1 H11.out.1).mono ?_
    rintro e w12 ⟨rfl, b12⟩
    have H12 := Lib.hid (H11.out.keep b12)
    clear b12 H11
    rw [cmpI_eq rfl]
    go_wp2_with (fail)
    refine (NLen_ok _ _ _ us _ (by omega) H12.out.1).mono ?_
    rintro e w13 ⟨l, rfl, hl, hB, rfl⟩
    have HL := Lib.hid hB
    clear hB
    go_wp2_with (fail)
    refine (RLen_ok _ _ _ us _ (by omega) H12.out.1).mono ?_
    rintro e w13 ⟨l', rfl, hl', hB, rfl⟩
    obtain rfl := BL_uniq HL.out hB
    clear hB HL hl'
    go_wp2_with (fail)
    refine (NFromWord_ok y _ Hx.out.2.2.2).mono ?_
    rintro e w13 hR
    obtain ⟨A6, n6, c6, zs6, rfl, h6⟩ := hR.open (Big_of (k := 1) (by rw [Nat.pow_one]; exact Hx.out.2.2.2) (by omega))
    have H13 := Lib.hid (And.intro (H12.out.keep h6.bel) h6)
    clear hR h6 H12
    go_wp2_with (fail)
    have hWb := W1_below w13 y
    refine (Is_row (H13.out.2.keep hWb) (Sl_one w13 y Hx.out.2.2.2) (by omega) (V_one y)).mono ?_
    rintro e w14 ⟨rfl, b14⟩
    have H14 := Lib.hid ((H13.out.1.keep hWb).keep b14)
    clear b14 hWb H13
    go_wp2_with (fail)
    refine (nawake_any _).mono ?_
    rintro e w15 ⟨rfl, b15⟩
    have H15 := Lib.hid (H14.out.keep b15)
    clear b15 H14
    go_wp2_with (fail)
    go_ret
    exact ⟨rfl, H15.out.2.2.2⟩
  · have h0l : 0 < zs.length := by rw [HS.out.1.1]; omega
    have hg := List.getElem?_eq_getElem h0l
    have hvz : V us = zs[0] := by
      have h1 := HS.out.1.take_all
      have h2 : V (zs.take (0 + 1)) = V zs := congrArg V h1
      rw [V_take_succ zs 0 h0l, List.take_zero] at h2
      rw [← HS.out.2, ← h2]
      simp [V]
    obtain ⟨b, of, rfl, hb, hcx⟩ := HS.out.1.2.2.2.2.at (uvs_get hg)
    have hlt := HC.out.1 (Nat.le_refl _)
    have hv := HV.out.1 hlt
    obtain ⟨rfl, hv⟩ := hv
    rw [hvz] at hv
    subst hv
    generalize zs[0] = v at *
    simp only [Nat.add_zero] at hcx
    clear hvz hlt hg h0l HC HS HV
    go_wp2_with (fail)
    refine (NBits_ok _ _ _ us _ (by omega) H4.out.1 H4.out.2.2.1).mono ?_
    rintro e w7 ⟨t, o, rfl, ht, ho, rfl⟩
    have HB1 := Lib.hid (And.intro ht ho)
    clear ht ho
    go_wp2_with (fail)
    refine (R2Bits_ok _ _ _ us _ (by omega) H4.out.1).mono ?_
    rintro e w7 ⟨t', o', rfl, ht, ho, rfl⟩
    obtain rfl := TZ_uniq HB1.out.1 ht
    obtain rfl := HB1.out.2.trans ho.symm
    clear ht ho HB1
    go_wp2_with (fail)
    refine (NTrim_ok _ _ _ us _ (by omega) H4.out.1).mono ?_
    rintro e w8 hR
    obtain ⟨A5, n5, c5, zs5, rfl, h5⟩ := hR.open (row_lt H4.out.1 (by omega))
    have H5 := Lib.hid (And.intro (H4.out.keep h5.bel) h5)
    clear hR h5 H4
    go_wp2_with (fail)
    refine (Is_row H5.out.2 H5.out.1.1 (by omega) rfl).mono ?_
    rintro e w9 ⟨rfl, b9⟩
    have H9 := Lib.hid (H5.out.1.keep b9)
    clear b9 H5
    go_wp2_with (fail)
    refine (NCmp_ok _ _ _ _ _ _ us vs _ (by omega) (by omega) H9.out.1 H9.out.2.1).mono ?_
    rintro e w10 ⟨rfl, b10⟩
    have H10 := Lib.hid (H9.out.keep b10)
    clear b10 H9
    go_wp2_with (fail)
    refine (RCmp_ok _ _ _ _ _ _ us vs _ (by omega) (by omega) H10.out.1 H10.out.2.1).mono ?_
    rintro e w11 ⟨rfl, b11⟩
    have H11 := Lib.hid (H10.out.keep b11)
    clear b11 H10
    generalize cmpI (V us) (V vs) = cc at *
    go_wp2_with (fail)
    refine (NCmp_ok _ _ _ _ _ _ us us _ (by omega) (by omega) H11.out.1 H11.out.1).mono ?_
    rintro e w12 ⟨rfl, b12⟩
    have H12 := Lib.hid (H11.out.keep b12)
    clear b12 H11
    rw [cmpI_eq rfl]
    go_wp2_with (fail)
    refine (NLen_ok _ _ _ us _ (by omega) H12.out.1).mono ?_
    rintro e w13 ⟨l, rfl, hl, hB, rfl⟩
    have HL := Lib.hid hB
    clear hB
    go_wp2_with (fail)
    refine (RLen_ok _ _ _ us _ (by omega) H12.out.1).mono ?_
    rintro e w13 ⟨l', rfl, hl', hB, rfl⟩
    obtain rfl := BL_uniq HL.out hB
    clear hB HL hl'
    go_wp2_with (fail)
    refine (NFromWord_ok y _ Hx.out.2.2.2).mono ?_
    rintro e w13 hR
    obtain ⟨A6, n6, c6, zs6, rfl, h6⟩ := hR.open (Big_of (k := 1) (by rw [Nat.pow_one]; exact Hx.out.2.2.2) (by omega))
    have H13 := Lib.hid (And.intro (H12.out.keep h6.bel) h6)
    clear hR h6 H12
    go_wp2_with (fail)
    have hWb := W1_below w13 y
    refine (Is_row (H13.out.2.keep hWb) (Sl_one w13 y Hx.out.2.2.2) (by omega) (V_one y)).mono ?_
    rintro e w14 ⟨rfl, b14⟩
    have H14 := Lib.hid ((H13.out.1.keep hWb).keep b14)
    clear b14 hWb H13
    go_wp2_with (fail)
    refine (nawake_any _).mono ?_
    rintro e w15 ⟨rfl, b15⟩
    have H15 := Lib.hid (H14.out.keep b15)
    clear b15 H14
    go_wp2_with (fail)
    go_ret
    exact ⟨rfl, H15.out.2.2.2⟩
  · have hk1 : ¬ (n3 : Int) ≤ 1 := by omega
    have hk2 : ((n3 : Int) == 1) = false := by simp; omega
    have hge : B64 ≤ V us := Nat.le_of_not_lt (fun h => by have := HC.out.2 h; omega)
    obtain ⟨rfl, rfl⟩ := HV.out.2 hge
    clear hge HC HS HV
    go_wp2_with (fail)
    refine (NBits_ok _ _ _ us _ (by omega) H4.out.1 H4.out.2.2.1).mono ?_
    rintro e w7 ⟨t, o, rfl, ht, ho, rfl⟩
    have HB1 := Lib.hid (And.intro ht ho)
    clear ht ho
    go_wp2_with (fail)
    refine (R2Bits_ok _ _ _ us _ (by omega) H4.out.1).mono ?_
    rintro e w7 ⟨t', o', rfl, ht, ho, rfl⟩
    obtain rfl := TZ_uniq HB1.out.1 ht
    obtain rfl := HB1.out.2.trans ho.symm
    clear ht ho HB1
    go_wp2_with (fail)
    refine (NTrim_ok _ _ _ us _ (by omega) H4.out.1).mono ?_
    rintro e w8 hR
    obtain ⟨A5, n5, c5, zs5, rfl, h5⟩ := hR.open (row_lt H4.out.1 (by omega))
    have H5 := Lib.hid (And.intro (H4.out.keep h5.bel) h5)
    clear hR h5 H4
    go_wp2_with (fail)
    refine (Is_row H5.out.2 H5.out.1.1 (by omega) rfl).mono ?_
    rintro e w9 ⟨rfl, b9⟩
    have H9 := Lib.hid (H5.out.1.keep b9)
    clear b9 H5
    go_wp2_with (fail)
    refine (NCmp_ok _ _ _ _ _ _ us vs _ (by omega) (by omega) H9.out.1 H9.out.2.1).mono ?_
    rintro e w10 ⟨rfl, b10⟩
    have H10 := Lib.hid (H9.out.keep b10)
    clear b10 H9
    go_wp2_with (fail)
    refine (RCmp_ok _ _ _ _ _ _ us vs _ (by omega) (by omega) H10.out.1 H10.out.2.1).mono ?_
    rintro e w11 ⟨rfl, b11⟩
    have H11 := Lib.hid (H10.out.keep b11)
    clear b11 H10
    generalize cmpI (V us) (V vs) = cc at *
    go_wp2_with (fail)
    refine (NCmp_ok _ _ _ _ _ _ us us _ (by omega) (by omega) H11.out.1 H11.out.1).mono ?_
    rintro e w12 ⟨rfl, b12⟩
    have H12 := Lib.hid (H11.out.keep b12)
    clear b12 H11
    rw [cmpI_eq rfl]
    go_wp2_with (fail)
    refine (NLen_ok _ _ _ us _ (by omega) H12.out.1).mono ?_
    rintro e w13 ⟨l, rfl, hl, hB, rfl⟩
    have HL := Lib.hid hB
    clear hB
    go_wp2_with (fail)
    refine (RLen_ok _ _ _ us _ (by omega) H12.out.1).mono ?_
    rintro e w13 ⟨l', rfl, hl', hB, rfl⟩
    obtain rfl := BL_uniq HL.out hB
    clear hB HL hl'
    go_wp2_with (fail)
    refine (NFromWord_ok y _ Hx.out.2.2.2).mono ?_
    rintro e w13 hR
    obtain ⟨A6, n6, c6, zs6, rfl, h6⟩ := hR.open (Big_of (k := 1) (by rw [Nat.pow_one]; exact Hx.out.2.2.2) (by omega))
    have H13 := Lib.hid (And.intro (H12.out.keep h6.bel) h6)
    clear hR h6 H12
    go_wp2_with (fail)
    have hWb := W1_below w13 y
    refine (Is_row (H13.out.2.keep hWb) (Sl_one w13 y Hx.out.2.2.2) (by omega) (V_one y)).mono ?_
    rintro e w14 ⟨rfl, b14⟩
    have H14 := Lib.hid ((H13.out.1.keep hWb).keep b14)
    clear b14 hWb H13
    go_wp2_with (fail)
    refine (nawake_any _).mono ?_
    rintro e w15 ⟨rfl, b15⟩
    have H15 := Lib.hid (H14.out.keep b15)
    clear b15 H14
    go_wp2_with (fail)
    go_ret
    refine ⟨?_, H15.out.2.2.2⟩
    show Ending.returned (Value.bool (!decide ((n3 : Int) ≤ 1))) = _
    rw [show decide ((n3 : Int) ≤ 1) = false from decide_eq_false (by omega)]
    rfl
end Go.Proofs.YtalcikmngglplaaDoor.natValues
