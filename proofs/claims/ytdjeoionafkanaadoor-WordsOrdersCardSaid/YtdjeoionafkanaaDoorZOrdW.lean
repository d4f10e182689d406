/- The walk of the law WordsOrders. -/
import Derived.Test.YtdjeoionafkanaaDoorZOCmp
import Derived.Test.YtdjeoionafkanaaDoorZROrd
import Derived.Test.YtdjeoionafkanaaDoorZNeg
import Derived.Test.YtdjeoionafkanaaDoorZRNeg
import Derived.Test.YtdjeoionafkanaaDoorZOrdM
import Derived.Test.YtdjeoionafkanaaDoorZWide
import Derived.Test.YtdjeoionafkanaaDoorP2
import Derived.Test.YtdjeoionafkanaaDoorZEq
import Derived.Test.YtdjeoionafkanaaDoorZAwake
import Derived.OpenShut
namespace Go.Proofs.YtdjeoionafkanaaDoor.wordsOrders
open Go.ChangeShapes Go.RowKit
set_option linter.unusedVariables false

/-- both rows, and the table -/
def Two (w wr : World) (A1 A2 : Option Addr) (k1 k2 d1 d2 : Nat) (us vs : List Nat) : Prop := Sl wr A1 k1 d1 us ∧ Sl wr A2 k2 d2 vs ∧ TabC wr ∧ Below w.heap.size w wr
theorem Two.keep {w wr w' : World} {A1 A2 : Option Addr} {k1 k2 d1 d2 : Nat} {us vs : List Nat} (h : Two w wr A1 A2 k1 k2 d1 d2 us vs) (hb : Below wr.heap.size wr w') : Two w w' A1 A2 k1 k2 d1 d2 us vs :=
  ⟨h.1.below hb, h.2.1.below hb, h.2.2.1.below hb, h.2.2.2.trans (hb.mono h.2.2.2.size)⟩

set_option maxRecDepth 100000 in
set_option maxHeartbeats 8000000 in
theorem walk (w : World) (a0 : Option Addr) (n0 c0 : Nat) (xs : List Nat) (hx : Sl w a0 n0 c0 xs) (a1 : Option Addr) (n1 c1 : Nat) (ys : List Nat) (hy : Sl w a1 n1 c1 ys) (a2 : Int) (w2 : (Lit.int .u64 a2).wf = true) (hT : TabC w) :
    Calls Tryd.prog 3 #[.slice a0 n0 c0, .slice a1 n1 c1, .int .u64 a2] w fun e w' => e = .returned (.bool true) ∧ Below w.heap.size w w' := by
  have hb2 := bounds_u64 w2
  obtain ⟨x, rfl⟩ := Int.eq_ofNat_of_zero_le (show 0 ≤ a2 by omega)
  have HX := Lib.hid (show x < B64 by have : B64 = 18446744073709551616 := rfl; omega)
  have Hx := Lib.hid (And.intro hx (And.intro hy hT))
  clear w2 hb2 hx hy hT
  go_enter Tryd.func3, Tryd.ntmps3
  go_wp2_with (fail)
  refine (few_ok _ _ _ 40 xs _ Hx.out.1 (by omega)).mono ?_
  rintro e w1 ⟨v1, rfl, hn1, hb1⟩
  obtain ⟨k1, hk1, hk1'⟩ : ∃ k, min 40 n0 = k ∧ k ≤ 40 := ⟨_, rfl, by omega⟩
  rw [hk1] at hn1
  obtain ⟨A1, d1, rfl, hs1⟩ := hn1.sl
  have H1 := Lib.hid (And.intro hs1 hb1)
  clear hn1 hs1 hb1 hk1
  go_wp2_with (fail)
  refine (few_ok _ _ _ 40 ys _ (Hx.out.2.1.below H1.out.2) (by omega)).mono ?_
  rintro e w2 ⟨v2, rfl, hn2, hb2⟩
  obtain ⟨k2, hk2, hk2'⟩ : ∃ k, min 40 n1 = k ∧ k ≤ 40 := ⟨_, rfl, by omega⟩
  rw [hk2] at hn2
  obtain ⟨A2, d2, rfl, hs2⟩ := hn2.sl
  have H2 : Hid (Two w w2 A1 A2 k1 k2 d1 d2 (xs.take 40) (ys.take 40)) := ⟨H1.out.1.below hb2, hs2, (Hx.out.2.2.below H1.out.2).below hb2, H1.out.2.trans (hb2.mono H1.out.2.size)⟩
  generalize xs.take 40 = us at *
  generalize ys.take 40 = vs at *
  clear hn2 hs2 hb2 hk2 H1
  by_cases hkk : k1 = k2
  · subst hkk
    go_wp2_with (fail)
    refine (OCmp_ok _ _ _ _ _ us vs _ (by omega) H2.out.1 H2.out.2.1).mono ?_
    rintro e w4 ⟨rfl, b4⟩
    have H3 := Lib.hid (H2.out.keep b4)
    clear b4 H2
    go_wp2_with (fail)
    refine (OCmp_ok _ _ _ _ _ us us _ (by omega) H3.out.1 H3.out.1).mono ?_
    rintro e w5 ⟨rfl, b5⟩
    rw [cmpI_eq rfl]
    have H5 := Lib.hid (H3.out.keep b5)
    clear b5 H3
    go_wp2_with (fail)
    refine (Negate_ok _ _ _ us _ (by omega) H5.out.1).mono ?_
    rintro e w6 ⟨v6, zs, d6, rfl, hd6, hv6, hn6, hb6⟩
    obtain ⟨A6, c6, rfl, hs6⟩ := hn6.sl
    have H6 := Lib.hid (And.intro (H5.out.keep hb6) hs6)
    have HV6 := Lib.hid hv6
    clear hv6 hn6 hb6 hs6 H5
    go_wp2_with (fail)
    refine (RNegate_ok _ _ _ us _ (by omega) H6.out.1.1).mono ?_
    rintro e w7 ⟨v7, zs7, d7, rfl, hd7, hv7, hn7, hb7⟩
    obtain ⟨A7, c7, rfl, hs7⟩ := hn7.sl
    obtain ⟨ez, ed⟩ := neg_uniq H6.out.2.2.2.2.1 hs7.2.2.2.1 H6.out.2.1 hs7.1 HV6.out hv7
    subst ed
    have H7 := Lib.hid (And.intro (H6.out.1.keep hb7) (And.intro (H6.out.2.below hb7) (And.intro hs7 ez)))
    clear hv7 hn7 hb7 hs7 ez H6 HV6 hd7
    generalize hdd : decide (d6 = 1) = dd at *
    clear hdd
    go_wp2_with (fail)
    refine (Count_ok' x _ HX.out H7.out.1.2.2.1).mono ?_
    rintro e w8 ⟨rfl, rfl⟩
    go_wp2_with (fail)
    refine (Count_ok x HX.out _).mono ?_
    rintro e w8 ⟨rfl, rfl⟩
    rw [(counts_same x).1, (counts_same x).2.1, (counts_same x).2.2]
    generalize ((lzn x 64 : Nat) : Int) = l1 at *
    generalize ((tzn x 64 : Nat) : Int) = l2 at *
    generalize ((pcn x 64 : Nat) : Int) = l3 at *
    rcases Nat.eq_zero_or_pos n0 with h0 | h0
    · subst h0
      go_wp2_with (fail)
      obtain ⟨h, l, hf, hcall⟩ := Wide_ok x 3 HX.out (by decide)
      refine (hcall _).mono ?_
      rintro e w9 ⟨rfl, b9⟩
      have H9 := Lib.hid (And.intro (H7.out.1.keep b9) (And.intro (H7.out.2.1.below b9) (And.intro (H7.out.2.2.1.below b9) H7.out.2.2.2)))
      have HF := Lib.hid hf
      clear b9 hcall hf H7
      go_wp2_with (fail)
      refine (RWide_ok x 3 _ HX.out (by decide)).mono ?_
      rintro e w10 ⟨h', l', rfl, hf1, hf2, b10⟩
      obtain ⟨el, eh⟩ := uniq (x := l) (y := l') (d := h) (e := h') (P := B64) HF.out.2 hf2 (by have := HF.out.1; omega)
      subst el
      subst eh
      have H10 := Lib.hid (And.intro (H9.out.1.keep b10) (And.intro (H9.out.2.1.below b10) (And.intro (H9.out.2.2.1.below b10) H9.out.2.2.2)))
      clear b10 hf1 hf2 H9 HF
      go_wp2_with (fail)
      refine (R1Cmp_ok _ _ _ _ _ _ us vs _ (by omega) (by omega) H10.out.1.1 H10.out.1.2.1).mono ?_
      rintro e w11 ⟨rfl, b11⟩
      have H11 := Lib.hid (And.intro (H10.out.1.keep b11) (And.intro (H10.out.2.1.below b11) (And.intro (H10.out.2.2.1.below b11) H10.out.2.2.2)))
      clear b11 H10
      generalize cmpI (V us) (V vs) = cc at *
      go_wp2_with (fail)
      refine (same_any _ _ _ _ _ _ _ _ _ H11.out.2.1 H11.out.2.2.1 (by omega)).mono ?_
      rintro e w12 ⟨rfl, m12, rfl⟩
      rw [show decide (zs = zs7) = true from decide_eq_true H11.out.2.2.2]
      go_wp2_with (fail)
      refine (awake_any _).mono ?_
      rintro e w13 ⟨rfl, b13⟩
      have H13 := Lib.hid (H11.out.1.2.2.2.trans (Below.mono ((below_drewN (Below.refl w11.heap.size w11) m12).trans b13) H11.out.1.2.2.2.size))
      clear b13 H11
      go_wp2_with (fail)
      go_ret
      exact ⟨rfl, H13.out⟩
    · have hg := List.getElem?_eq_getElem (show 0 < xs.length by rw [Hx.out.1.1]; exact h0)
      have hrB : xs[0]'(by rw [Hx.out.1.1]; exact h0) < B64 := Hx.out.1.2.2.2.1 _ (List.getElem_mem _)
      obtain ⟨b, o, rfl, hb, hcx⟩ := (Hx.out.1.below H7.out.1.2.2.2).2.2.2.2.at (uvs_get hg)
      generalize xs[0]'(by rw [Hx.out.1.1]; exact h0) = r at *
      simp only [Nat.add_zero] at hcx
      have h0i : (0 : Int) < (n0 : Int) := by omega
      have HR := Lib.hid hrB
      clear hg hrB hb
      go_wp2_with (fail)
      obtain ⟨h, l, hf, hcall⟩ := Wide_ok x r HX.out HR.out
      refine (hcall _).mono ?_
      rintro e w9 ⟨rfl, b9⟩
      have H9 := Lib.hid (And.intro (H7.out.1.keep b9) (And.intro (H7.out.2.1.below b9) (And.intro (H7.out.2.2.1.below b9) H7.out.2.2.2)))
      have HF := Lib.hid hf
      clear b9 hcall hf H7
      go_wp2_with (fail)
      refine (RWide_ok x r _ HX.out HR.out).mono ?_
      rintro e w10 ⟨h', l', rfl, hf1, hf2, b10⟩
      obtain ⟨el, eh⟩ := uniq (x := l) (y := l') (d := h) (e := h') (P := B64) HF.out.2 hf2 (by have := HF.out.1; omega)
      subst el
      subst eh
      have H10 := Lib.hid (And.intro (H9.out.1.keep b10) (And.intro (H9.out.2.1.below b10) (And.intro (H9.out.2.2.1.below b10) H9.out.2.2.2)))
      clear b10 hf1 hf2 H9 HF
      go_wp2_with (fail)
      refine (R1Cmp_ok _ _ _ _ _ _ us vs _ (by omega) (by omega) H10.out.1.1 H10.out.1.2.1).mono ?_
      rintro e w11 ⟨rfl, b11⟩
      have H11 := Lib.hid (And.intro (H10.out.1.keep b11) (And.intro (H10.out.2.1.below b11) (And.intro (H10.out.2.2.1.below b11) H10.out.2.2.2)))
      clear b11 H10
      generalize cmpI (V us) (V vs) = cc at *
      go_wp2_with (fail)
      refine (same_any _ _ _ _ _ _ _ _ _ H11.out.2.1 H11.out.2.2.1 (by omega)).mono ?_
      rintro e w12 ⟨rfl, m12, rfl⟩
      rw [show decide (zs = zs7) = true from decide_eq_true H11.out.2.2.2]
      go_wp2_with (fail)
      refine (awake_any _).mono ?_
      rintro e w13 ⟨rfl, b13⟩
      have H13 := Lib.hid (H11.out.1.2.2.2.trans (Below.mono ((below_drewN (Below.refl w11.heap.size w11) m12).trans b13) H11.out.1.2.2.2.size))
      clear b13 H11
      go_wp2_with (fail)
      go_ret
      exact ⟨rfl, H13.out⟩
  · have hne := chk_two_ne k1 k2 (by omega) (by omega) hkk
    have hki : ((k1 : Int) != (k2 : Int)) = true := by simp; omega
    go_wp2_with (fail)
    refine (Cmp_err _ _ _ _ _ _ 1 _ hne (by decide) (by omega) (by omega)).mono ?_
    rintro e w3 ⟨rfl, b3⟩
    have H3a := Lib.hid (H2.out.keep b3)
    clear b3 H2 hne
    go_wp2_with (fail)
    refine (equal_ok _ _ _ _ _ _ xs ys _ (Hx.out.1.below H3a.out.2.2.2) (Hx.out.2.1.below H3a.out.2.2.2)).mono ?_
    rintro e w3b ⟨v3, v3', k, us', vs', rfl, hk, hn3, hn3', hb3⟩
    obtain ⟨A1', d1', rfl, hs3⟩ := hn3.sl
    obtain ⟨A2', d2', rfl, hs3'⟩ := hn3'.sl
    have H2 : Hid (Two w w3b A1' A2' k k d1' d2' us' vs') := ⟨hs3, hs3', H3a.out.2.2.1.below hb3, H3a.out.2.2.2.trans (hb3.mono H3a.out.2.2.2.size)⟩
    clear H3a hn3 hn3' hb3 hs3 hs3' hki hkk hk1' hk2'
    go_wp2_with (fail)
    refine (OCmp_ok _ _ _ _ _ us' vs' _ (by omega) H2.out.1 H2.out.2.1).mono ?_
    rintro e w4 ⟨rfl, b4⟩
    have H3 := Lib.hid (H2.out.keep b4)
    clear b4 H2
    go_wp2_with (fail)
    refine (OCmp_ok _ _ _ _ _ us' us' _ (by omega) H3.out.1 H3.out.1).mono ?_
    rintro e w5 ⟨rfl, b5⟩
    rw [cmpI_eq rfl]
    have H5 := Lib.hid (H3.out.keep b5)
    clear b5 H3
    go_wp2_with (fail)
    refine (Negate_ok _ _ _ us' _ (by omega) H5.out.1).mono ?_
    rintro e w6 ⟨v6, zs, d6, rfl, hd6, hv6, hn6, hb6⟩
    obtain ⟨A6, c6, rfl, hs6⟩ := hn6.sl
    have H6 := Lib.hid (And.intro (H5.out.keep hb6) hs6)
    have HV6 := Lib.hid hv6
    clear hv6 hn6 hb6 hs6 H5
    go_wp2_with (fail)
    refine (RNegate_ok _ _ _ us' _ (by omega) H6.out.1.1).mono ?_
    rintro e w7 ⟨v7, zs7, d7, rfl, hd7, hv7, hn7, hb7⟩
    obtain ⟨A7, c7, rfl, hs7⟩ := hn7.sl
    obtain ⟨ez, ed⟩ := neg_uniq H6.out.2.2.2.2.1 hs7.2.2.2.1 H6.out.2.1 hs7.1 HV6.out hv7
    subst ed
    have H7 := Lib.hid (And.intro (H6.out.1.keep hb7) (And.intro (H6.out.2.below hb7) (And.intro hs7 ez)))
    clear hv7 hn7 hb7 hs7 ez H6 HV6 hd7
    generalize hdd : decide (d6 = 1) = dd at *
    clear hdd
    go_wp2_with (fail)
    refine (Count_ok' x _ HX.out H7.out.1.2.2.1).mono ?_
    rintro e w8 ⟨rfl, rfl⟩
    go_wp2_with (fail)
    refine (Count_ok x HX.out _).mono ?_
    rintro e w8 ⟨rfl, rfl⟩
    rw [(counts_same x).1, (counts_same x).2.1, (counts_same x).2.2]
    generalize ((lzn x 64 : Nat) : Int) = l1 at *
    generalize ((tzn x 64 : Nat) : Int) = l2 at *
    generalize ((pcn x 64 : Nat) : Int) = l3 at *
    rcases Nat.eq_zero_or_pos n0 with h0 | h0
    · subst h0
      go_wp2_with (fail)
      obtain ⟨h, l, hf, hcall⟩ := Wide_ok x 3 HX.out (by decide)
      refine (hcall _).mono ?_
      rintro e w9 ⟨rfl, b9⟩
      have H9 := Lib.hid (And.intro (H7.out.1.keep b9) (And.intro (H7.out.2.1.below b9) (And.intro (H7.out.2.2.1.below b9) H7.out.2.2.2)))
      have HF := Lib.hid hf
      clear b9 hcall hf H7
      go_wp2_with (fail)
      refine (RWide_ok x 3 _ HX.out (by decide)).mono ?_
      rintro e w10 ⟨h', l', rfl, hf1, hf2, b10⟩
      obtain ⟨el, eh⟩ := uniq (x := l) (y := l') (d := h) (e := h') (P := B64) HF.out.2 hf2 (by have := HF.out.1; omega)
      subst el
      subst eh
      have H10 := Lib.hid (And.intro (H9.out.1.keep b10) (And.intro (H9.out.2.1.below b10) (And.intro (H9.out.2.2.1.below b10) H9.out.2.2.2)))
      clear b10 hf1 hf2 H9 HF
      go_wp2_with (fail)
      refine (R1Cmp_ok _ _ _ _ _ _ us' vs' _ (by omega) (by omega) H10.out.1.1 H10.out.1.2.1).mono ?_
      rintro e w11 ⟨rfl, b11⟩
      have H11 := Lib.hid (And.intro (H10.out.1.keep b11) (And.intro (H10.out.2.1.below b11) (And.intro (H10.out.2.2.1.below b11) H10.out.2.2.2)))
      clear b11 H10
      generalize cmpI (V us') (V vs') = cc at *
      go_wp2_with (fail)
      refine (same_any _ _ _ _ _ _ _ _ _ H11.out.2.1 H11.out.2.2.1 (by omega)).mono ?_
      rintro e w12 ⟨rfl, m12, rfl⟩
      rw [show decide (zs = zs7) = true from decide_eq_true H11.out.2.2.2]
      go_wp2_with (fail)
      refine (awake_any _).mono ?_
      rintro e w13 ⟨rfl, b13⟩
      have H13 := Lib.hid (H11.out.1.2.2.2.trans (Below.mono ((below_drewN (Below.refl w11.heap.size w11) m12).trans b13) H11.out.1.2.2.2.size))
      clear b13 H11
      go_wp2_with (fail)
      go_ret
      exact ⟨rfl, H13.out⟩
    · have hg := List.getElem?_eq_getElem (show 0 < xs.length by rw [Hx.out.1.1]; exact h0)
      have hrB : xs[0]'(by rw [Hx.out.1.1]; exact h0) < B64 := Hx.out.1.2.2.2.1 _ (List.getElem_mem _)
      obtain ⟨b, o, rfl, hb, hcx⟩ := (Hx.out.1.below H7.out.1.2.2.2).2.2.2.2.at (uvs_get hg)
      generalize xs[0]'(by rw [Hx.out.1.1]; exact h0) = r at *
      simp only [Nat.add_zero] at hcx
      have h0i : (0 : Int) < (n0 : Int) := by omega
      have HR := Lib.hid hrB
      clear hg hrB hb
      go_wp2_with (fail)
      obtain ⟨h, l, hf, hcall⟩ := Wide_ok x r HX.out HR.out
      refine (hcall _).mono ?_
      rintro e w9 ⟨rfl, b9⟩
      have H9 := Lib.hid (And.intro (H7.out.1.keep b9) (And.intro (H7.out.2.1.below b9) (And.intro (H7.out.2.2.1.below b9) H7.out.2.2.2)))
      have HF := Lib.hid hf
      clear b9 hcall hf H7
      go_wp2_with (fail)
      refine (RWide_ok x r _ HX.out HR.out).mono ?_
      rintro e w10 ⟨h', l', rfl, hf1, hf2, b10⟩
      obtain ⟨el, eh⟩ := uniq (x := l) (y := l') (d := h) (e := h') (P := B64) HF.out.2 hf2 (by have := HF.out.1; omega)
      subst el
      subst eh
      have H10 := Lib.hid (And.intro (H9.out.1.keep b10) (And.intro (H9.out.2.1.below b10) (And.intro (H9.out.2.2.1.below b10) H9.out.2.2.2)))
      clear b10 hf1 hf2 H9 HF
      go_wp2_with (fail)
      refine (R1Cmp_ok _ _ _ _ _ _ us' vs' _ (by omega) (by omega) H10.out.1.1 H10.out.1.2.1).mono ?_
      rintro e w11 ⟨rfl, b11⟩
      have H11 := Lib.hid (And.intro (H10.out.1.keep b11) (And.intro (H10.out.2.1.below b11) (And.intro (H10.out.2.2.1.below b11) H10.out.2.2.2)))
      clear b11 H10
      generalize cmpI (V us') (V vs') = cc at *
      go_wp2_with (fail)
      refine (same_any _ _ _ _ _ _ _ _ _ H11.out.2.1 H11.out.2.2.1 (by omega)).mono ?_
      rintro e w12 ⟨rfl, m12, rfl⟩
      rw [show decide (zs = zs7) = true from decide_eq_true H11.out.2.2.2]
      go_wp2_with (fail)
      refine (awake_any _).mono ?_
      rintro e w13 ⟨rfl, b13⟩
      have H13 := Lib.hid (H11.out.1.2.2.2.trans (Below.mono ((below_drewN (Below.refl w11.heap.size w11) m12).trans b13) H11.out.1.2.2.2.size))
      clear b13 H11
      go_wp2_with (fail)
      go_ret
      exact ⟨rfl, H13.out⟩
end Go.Proofs.YtdjeoionafkanaaDoor.wordsOrders
