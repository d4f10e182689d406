/- The walk of the law FastValues. -/
import Derived.Test.YtalcikmngglplabDoorZFVaL
import Derived.Test.YtalcikmngglplabDoorZFAwake
import Derived.OpenShut
namespace Go.Proofs.YtalcikmngglplabDoor
open Go.RowKit Go.Shelf
set_option linter.unusedVariables false
set_option linter.unusedSimpArgs false
set_option maxRecDepth 10000

/-- the list and the tables -/
def V0 (w W : World) (A : Option Addr) (k d : Nat) (al : List Sn) : Prop := ZK8 w W A k d al ∧ TabF W
theorem V0.below {w W W' : World} {A : Option Addr} {k d : Nat} {al : List Sn} (h : V0 w W A k d al) (hb : Below W.heap.size W W') : V0 w W' A k d al := ⟨h.1.below hb, h.2.below hb⟩
theorem FValue_sn (al : List Sn) (A : Option Addr) (m c : Nat) (t : Int) (w : World) (hm : m ≤ 8) (ht : t.natAbs ≤ 10) (hx : Zl w A m c al) (hn : ∀ a ∈ al, a.n ≤ 8) :
    Calls Tryd.prog 6 #[.slice A m c, .int .i64 t] w fun e w' => ∃ a : Sn, e = .returned (.tuple #[.agg #[.bool a.s, .slice a.A a.n a.c], .int .i64 0]) ∧ a.v = pvF t (al.map Sn.v) ∧ Zn w w' [a] ∧ Below w.heap.size w w' := by
  refine (FValue_ok al A m c t w hm ht hx hn).mono ?_
  rintro e w' ⟨b, B, n, d, rfl, hz⟩
  obtain ⟨a, he, h1, h2, h3⟩ := hz.sn
  injection he with he
  exact ⟨a, by rw [he], h1, h2, h3⟩
theorem zr_undrew' {w w' : World} {e : Ending} {z : Int} (h : Zr w.drew w' e z) : Zr w w' e z := by
  obtain ⟨A, n, c, zs, e, h1, h2, h3, h4⟩ := h
  exact ⟨A, n, c, zs, e, h1, h2, h3, belowA h4⟩
theorem pv_n {W : World} {a : Sn} {z : Int} (h : Sc W a.A a.n a.c a.xs) (hv : a.v = z) (hz : z.natAbs < B64 ^ 9) : a.n ≤ 4096 :=
  Nat.le_trans (sn_len h (by rw [hv]; exact hz)) (by omega)
def C2 (W : World) (g : Nat) (x y : Value) : Prop := W.cell? ⟨g, 0, none⟩ = some x ∧ W.cell? ⟨g, 1, none⟩ = some y
theorem C2.below {W W' : World} {g : Nat} {x y : Value} (h : C2 W g x y) (hb : Below W.heap.size W W') : C2 W' g x y :=
  ⟨(hb.cell (World.block_lt_of_cell? _ _ h.1)).trans h.1, (hb.cell (World.block_lt_of_cell? _ _ h.2)).trans h.2⟩
theorem FvK.bk5 {W : World} {b : Nat} {l : List Sn} {S : List Int} (h : FvK W b l S) : W.rangeAt b 0 (l.flatMap sncs) := fun j v hj => by
  obtain ⟨b0, o, e0, -, hc⟩ := h.1.2.2.2.1 (by intro e; rw [e] at hj; simp at hj)
  injection e0 with e0
  injection e0 with e1 e2
  subst e1 e2
  exact hc j v hj
theorem belA4 (W : World) (o : Obj) : Below W.heap.size W (W.alloc o) := (Below.refl _ _).alloc (Nat.le_refl _) _
end Go.Proofs.YtalcikmngglplabDoor
namespace Go.Proofs.YtalcikmngglplabDoor.fastValues
open Go.ChangeShapes Go.RowKit
set_option linter.unusedVariables false

set_option maxRecDepth 100000 in
set_option maxHeartbeats 8000000 in
theorem walk (w : World) (a0 : Option Addr) (n0 c0 : Nat) (al0 : List Sn) (hx : Zl w a0 n0 c0 al0) (a1 : Int) (w1 : (Lit.int .i64 a1).wf = true) (hT : TabF w) :
    Calls Tryd.prog 3 #[.slice a0 n0 c0, .int .i64 a1] w fun e w' => e = .returned (.bool true) ∧ Below w.heap.size w w' := by
  obtain ⟨i0, hi, hz0, hz1, hz2⟩ := info_parts Tryd.info27
  have Hx := Lib.hid (And.intro hx hT)
  clear hx hT w1
  go_enter Tryd.func3, Tryd.ntmps3
  go_wp2_with (fail)
  refine (igs8_ok al0 a0 n0 c0 8 _ (by omega) Hx.out.1).mono ?_
  rintro e w2 ⟨A1, k1, d1, al, rfl, hk1, hz⟩
  have H2 : Hid (V0 w w2 A1 k1 d1 al) := ⟨hz, Hx.out.2.below hz.2.2.2.2⟩
  clear hz
  go_wp2_with (fail)
  go_loopw [1, 6, 7, 8] (fun bv kv _ _ wr => ∃ (k : Nat) (b : Int), k ≤ 2 ∧ kv = .int .i64 k ∧ bv = .int .i64 b ∧ Hid (V0 w wr A1 k1 d1 al)) (fun _ kv _ _ _ => 2 - (intOf kv).toNat)
  case atStart => exact ⟨0, a1, by omega, rfl, rfl, H2⟩
  case round =>
    clear H2
    obtain ⟨k, b, hk, rfl, rfl, H⟩ := hrel
    by_cases hlt : k < 2
    · have hki : (k : Int) < 2 := by omega
      obtain ⟨s, hs⟩ : ∃ s, (IntKind.u64.wrap b % 21).toNat = s := ⟨_, rfl⟩
      have hw := IntKind.wrap_u64 b
      have hs20 : s ≤ 20 := by omega
      have hs1 : IntKind.u64.wrap b % 21 = (s : Int) := by omega
      have hs2 : (IntKind.u64.wrap b).tmod 21 = (s : Int) := by rw [Int.tmod_eq_emod_of_nonneg (by rw [hw]; omega)]; exact hs1
      have hsw : IntKind.i64.wrap (s : Int) = (s : Int) := IntWalk.i64_in _ (by omega)
      have hsm : IntKind.i64.wrap ((s : Int) - 10) = (s : Int) - 10 := IntWalk.i64_in _ (by omega)
      clear hs hw
      by_cases h1 : b < -10
      · go_wp2_with (fail)
        refine (FValue_arg al A1 k1 d1 b _ (by omega) H.out.1.1 (fun a ha => by have := H.out.1.2.2.1 a ha; omega) (Or.inl h1)).mono ?_
        rintro e w3 ⟨rfl, hb3⟩
        have H3 := Lib.hid (H.out.below (hb3.trans ((belA4 w3 (.cells #[.bool false, .slice none 0 0] 27)).mono hb3.size)))
        clear hb3 H
        go_wp2_with (fail)
        refine ⟨⟨k + 1, (s : Int) - 10, by omega, by go_num, rfl, H3⟩, ?_⟩
        simp [intOf]; omega
      by_cases h2 : 10 < b
      · go_wp2_with (fail)
        refine (FValue_arg al A1 k1 d1 b _ (by omega) H.out.1.1 (fun a ha => by have := H.out.1.2.2.1 a ha; omega) (Or.inr (Or.inl h2))).mono ?_
        rintro e w3 ⟨rfl, hb3⟩
        have H3 := Lib.hid (H.out.below (hb3.trans ((belA4 w3 (.cells #[.bool false, .slice none 0 0] 27)).mono hb3.size)))
        clear hb3 H
        go_wp2_with (fail)
        refine ⟨⟨k + 1, (s : Int) - 10, by omega, by go_num, rfl, H3⟩, ?_⟩
        simp [intOf]; omega
      have Hb := Lib.hid (show b.natAbs ≤ 10 by omega)
      go_wp2_with (fail)
      refine (FValue_sn al A1 k1 d1 b _ hk1 Hb.out H.out.1.1 H.out.1.2.2.1).mono ?_
      rintro e w3 ⟨⟨vs, vA, vn, vc, vx⟩, rfl, hv, hzn, hb3⟩
      have hal := belA4 w3 (.cells #[.bool vs, .slice vA vn vc] 27)
      have H3 := Lib.hid (H.out.below (hb3.trans (hal.mono hb3.size)))
      have hbk := Bk.new w3 [.bool vs, .slice vA vn vc] 27
      have hq := hzn _ (List.mem_singleton_self _)
      have HVl := Lib.hid (And.intro ((hzn.sl _ (List.mem_singleton_self _)).below hal) (And.intro hq.2.1 (And.intro hq.2.2 hv)))
      have HC := Lib.hid (show C2 (w3.alloc (.cells #[.bool vs, .slice vA vn vc] 27)) w3.heap.size (.bool vs) (.slice vA vn vc) from ⟨(hbk 0 _ rfl).1, (hbk 1 _ rfl).1⟩)
      clear hv hzn hb3 hal hbk hq H
      go_wp2_with (fail)
      obtain ⟨W3, hW3⟩ : ∃ W3, w3.alloc (.cells #[.bool vs, .slice vA vn vc] 27) = W3 := ⟨_, rfl⟩
      obtain ⟨g, hg⟩ : ∃ g, w3.heap.size = g := ⟨_, rfl⟩
      rw [hW3, hg] at HC ⊢
      rw [hW3] at H3 HVl
      clear hW3 hg
      go_region_held3 (fun w' => w'.cell? ⟨g, 0, none⟩ = some (.bool vs) ∧ w'.cell? ⟨g, 1, none⟩ = some (.slice vA vn vc)) (first | exact HC.out | exact S1.out | exact S2.out | go_keep)
        (first
          | (go_at_call 8; refine (RValue_ok al A1 k1 d1 b W3.drew hk1 Hb.out (show Zl W3 A1 k1 d1 al from H3.out.1.1) H3.out.1.2.2.1).mono ?_; rintro e w4 ⟨hR, hB⟩; obtain ⟨⟨s4, A4, n4, c4, x4⟩, hEq, hv4, hzn4, hb4⟩ := (zr_undrew' hR).sn; subst hEq; have S1 := Lib.hid (show C2 w4 g (.bool vs) (.slice vA vn vc) from (show C2 W3 g (.bool vs) (.slice vA vn vc) from HC.out).below hb4); have H4 := Lib.hid (And.intro (HVl.out.1.below hb4) (And.intro (hzn4.sl _ (List.mem_singleton_self _)) (And.intro ((hzn4 _ (List.mem_singleton_self _)).2.1) (And.intro hv4 (And.intro hB (H3.out.below hb4)))))); clear hR hB hv4 hzn4 hb4)
          | (go_at_call 7; refine (RIsZ_ok vs s4 vA A4 vn n4 vc c4 vx x4 w4 (pv_n (W := w4) (a := ⟨vs, vA, vn, vc, vx⟩) ⟨H4.out.1, HVl.out.2.1⟩ HVl.out.2.2.2 H4.out.2.2.2.2.1) (pv_n (W := w4) (a := ⟨s4, A4, n4, c4, x4⟩) ⟨H4.out.2.1, H4.out.2.2.1⟩ H4.out.2.2.2.1 H4.out.2.2.2.2.1) H4.out.1 H4.out.2.1 HVl.out.2.1 HVl.out.2.2.1 (HVl.out.2.2.2.trans H4.out.2.2.2.1.symm)).mono ?_; rintro e w5 ⟨rfl, hb5⟩; have S2 := Lib.hid (S1.out.below hb5); have H5 := Lib.hid (H4.out.2.2.2.2.2.below hb5); clear hb5))
      all_goals
        clear HC S1 S2 H4 H3 HVl
        go_wp2_with (fail)
        refine ⟨⟨k + 1, (s : Int) - 10, by omega, by go_num, rfl, H5⟩, ?_⟩
        simp [intOf]; omega
    · have hki : ¬ (k : Int) < 2 := by omega
      rcases Nat.lt_or_ge 5 k1 with h5 | h5
      focus
        have h5i : (5 : Int) < (k1 : Int) := by omega
        go_wp2_with (fail)
        refine (FFive_arg al A1 k1 d1 _ (by omega) h5 H.out.1.1 (fun a ha => by have := H.out.1.2.2.1 a ha; omega)).mono ?_
        rintro e w3 ⟨rfl, hb3⟩
        have H3 := Lib.hid (H.out.below hb3)
        have hz1 := fvk_zero w3
        have hz2 := fvk_zero (w3.alloc (.cells zero10.toArray 34))
        have hbz := (belA4 w3 (.cells zero10.toArray 34)).trans ((belA4 (w3.alloc (.cells zero10.toArray 34)) (.cells zero10.toArray 34)).mono (by simp))
        have hk1' := (Bk.new w3 zero10 34).below (belA4 (w3.alloc (.cells zero10.toArray 34)) (.cells zero10.toArray 34)) (by simp)
        have HZ := Lib.hid (And.intro (hz1.below (belA4 _ (.cells zero10.toArray 34))) (And.intro hz2 (And.intro hk1' (H3.out.below hbz))))
        have hgw : w.heap.size ≤ w3.heap.size := H3.out.1.2.2.2.2.size
        clear hb3 hz1 hz2 hbz hk1' H H3
        go_wp2_with (fail)
        obtain ⟨W3, hW3⟩ : ∃ W3, (w3.alloc (.cells zero10.toArray 34)).alloc (.cells zero10.toArray 34) = W3 := ⟨_, rfl⟩
        have hs3 : (w3.alloc (.cells zero10.toArray 34)).heap.size = w3.heap.size + 1 := by simp
        have hs4 : W3.heap.size = w3.heap.size + 2 := by rw [← hW3]; simp
        rw [show ((w3.alloc (.cells #[.bool Sn.zero.s, .slice Sn.zero.A Sn.zero.n Sn.zero.c, .bool Sn.zero.s, .slice Sn.zero.A Sn.zero.n Sn.zero.c, .bool Sn.zero.s, .slice Sn.zero.A Sn.zero.n Sn.zero.c, .bool Sn.zero.s, .slice Sn.zero.A Sn.zero.n Sn.zero.c, .bool Sn.zero.s, .slice Sn.zero.A Sn.zero.n Sn.zero.c] 34)).alloc (.cells #[.bool false, .slice none 0 0, .bool false, .slice none 0 0, .bool false, .slice none 0 0, .bool false, .slice none 0 0, .bool false, .slice none 0 0] 34)) = W3 from hW3]
        rw [hW3, hs3] at HZ
        obtain ⟨gf, hgf⟩ : ∃ gf, w3.heap.size = gf := ⟨_, rfl⟩
        rw [hgf] at HZ hs4 hgw ⊢
        clear hW3 hs3 hgf
        have HG := Lib.hid (And.intro hgw hs4)
        clear hgw hs4
        go_region_held3 (fun _ => True) (first | trivial | go_keep)
          (first
            | (go_at_call 10; refine (same_ok _ _ (some ⟨gf, 0, none⟩) (some ⟨gf + 1, 0, none⟩) 5 5 5 W3.drew (by omega) HZ.out.1.1 HZ.out.2.1.1 ⟨HZ.out.1.2.1, fun a ha => ⟨(HZ.out.2.1.2.1 a ha).1, (HZ.out.2.1.2.1 a ha).2.2.1⟩, HZ.out.1.2.2.trans HZ.out.2.1.2.2.symm⟩).mono ?_; rintro e w4 ⟨rfl, hb4⟩; have HB4 := Lib.hid (show Below W3.heap.size W3 w4 from belowA hb4); clear hb4))
        have H4 := Lib.hid (And.intro (HZ.out.2.2.1.below HB4.out (by have := HG.out.2; omega)) (And.intro (HZ.out.2.2.2.below HB4.out) (show gf < w4.heap.size by have := HG.out.2; have := HB4.out.size; omega)))
        clear HZ HB4
        go_wp2_with (fail)
        refine (igs8_fr al A1 k1 d1 5 _ (by omega) H4.out.2.1.1.1).mono ?_
        rintro e w5 ⟨A2, k2, d2, al2, rfl, hk2, hz5, hfr⟩
        have hb5 := hz5.2.2.2.2
        have H5 := Lib.hid (And.intro (H4.out.1.below hb5 H4.out.2.2) (And.intro (hz5.base H4.out.2.1.1.2.2.2.2) (And.intro (H4.out.2.1.2.below hb5) (And.intro hfr (And.intro H4.out.2.2 (show gf < w5.heap.size by have := hb5.size; have := H4.out.2.2; omega))))))
        clear hz5 hfr hb5 H4
        go_wp2_with (fail)
        refine (Five8 al2 A2 k2 d2 w w5 hk2 H5.out.2.1 H5.out.2.2.1).mono ?_
        rintro z w6 ⟨a6, b6, c6, d6, e6, rfl, hz6, hb6⟩
        have H6 := Lib.hid ((H5.out.1.below hb6 H5.out.2.2.2.2.2).there)
        have hfr := (H5.out.2.2.2.1.below hb6).kept (grown_setCells gf (snL a6 b6 c6 d6 e6) 0 w6) H5.out.2.2.2.2.1
        have hbw : Below w.heap.size w (w6.setCells gf 0 (snL a6 b6 c6 d6 e6)) := below_setCells (H5.out.2.1.2.2.2.2.trans (hb6.mono H5.out.2.1.2.2.2.2.size)) HG.out.1 _ _ (by have := H5.out.2.1.2.2.2.2.size; have := hb6.size; omega)
        have HV := Lib.hid (And.intro (fvk_store H5.out.1 H5.out.2.2.2.2.2 hb6 hz6 (five_big H5.out.2.1.2.2.2.1)) (show V0 w (w6.setCells gf 0 (snL a6 b6 c6 d6 e6)) A2 k2 d2 al2 from ⟨⟨hfr.zl, hfr.2.1, H5.out.2.1.2.2.1, H5.out.2.1.2.2.2.1, hbw⟩, Hx.out.2.below hbw⟩))
        clear hz6 hb6 hfr hbw H5 HG
        go_wp2_with (first | (refine wpList_store_mid rfl 34 _ _ rfl gf 0 (snL a6 b6 c6 d6 e6).toArray rfl rfl H6.out (by kernel_rfl) (by simp [Value.oneCell']) ?_; obtain ⟨W8, hW8⟩ : ∃ W8, w6.setCells gf 0 (snL a6 b6 c6 d6 e6) = W8 := ⟨_, rfl⟩; rw [show w6.setCells gf 0 (snL a6 b6 c6 d6 e6).toArray.toList = W8 from hW8]; rw [hW8] at HV; clear hW8 H6))
      rotate_left
      focus
        have h5i : ¬ (5 : Int) < (k1 : Int) := by omega
        go_wp2_with (fail)
        refine (Five8 al A1 k1 d1 w _ h5 H.out.1 H.out.2).mono ?_
        rintro z w6 ⟨a6, b6, c6, d6, e6, rfl, hz6, hb6⟩
        have HV := Lib.hid (And.intro (fvk_new hz6 (five_big H.out.1.2.2.2.1)) (H.out.below (hb6.trans ((belA4 w6 (.cells (snL a6 b6 c6 d6 e6).toArray 34)).mono hb6.size))))
        clear hz6 hb6 H
        go_wp2_with (fail)
        obtain ⟨W8, hW8⟩ : ∃ W8, w6.alloc (.cells (snL a6 b6 c6 d6 e6).toArray 34) = W8 := ⟨_, rfl⟩
        obtain ⟨gf, hgf⟩ : ∃ gf, w6.heap.size = gf := ⟨_, rfl⟩
        rw [hW8, hgf] at HV ⊢
        clear hW8 hgf
        obtain ⟨A2, rfl⟩ : ∃ A2, A2 = A1 := ⟨_, rfl⟩
        obtain ⟨k2, rfl⟩ : ∃ k2, k2 = k1 := ⟨_, rfl⟩
        obtain ⟨d2, rfl⟩ : ∃ d2, d2 = d1 := ⟨_, rfl⟩
        obtain ⟨al2, rfl⟩ : ∃ al2, al2 = al := ⟨_, rfl⟩
        have hk2 : k2 ≤ 5 := h5
      rotate_left
      all_goals
        refine (RFive_ok al2 A2 k2 d2 W8 hk2 HV.out.2.1.1 HV.out.2.1.2.2.1).mono ?_
        rintro z w9 ⟨a9, b9, c9, d9, e9, rfl, hz9, hb9⟩
        have hal := belA4 w9 (.cells (snL a9 b9 c9 d9 e9).toArray 34)
        have hbb := hb9.trans (hal.mono hb9.size)
        have H9 := Lib.hid (And.intro (HV.out.1.below hbb) (And.intro (fvk_new hz9 (five_big HV.out.2.1.2.2.2.1)) (HV.out.2.below hbb)))
        clear hz9 hb9 hal hbb HV
        go_wp2_with (at_make; refine wpList_make_full _ rfl _ _ 22 rfl (w9.alloc (.cells (snL a9 b9 c9 d9 e9).toArray 34)).heap.size 27 i0 (.agg #[.bool false, .slice none 0 0]) 2 Tryd.underlying22 hi hz0 hz1 .i64 .i64 _ _ 101 rfl rfl rfl rfl (by rw [hz2]; omega) (by unfold maxLen; omega) (Nat.le_refl _) ?_)
        intro w10 hown hgrow
        have hb10 := below_of_grown hgrow (Nat.le_refl _)
        have HZ := Lib.hid (And.intro (zl_zeros (n := 101) hown (by decide) (by kernel_rfl)) (And.intro (H9.out.1.below hb10) (And.intro (H9.out.2.1.below hb10) (H9.out.2.2.below hb10))))
        obtain ⟨gw, hgw⟩ : ∃ gw, w9.heap.size = gw := ⟨_, rfl⟩
        rw [hgw] at HZ ⊢
        clear hown hgrow hb10 H9 hgw
        go_wp2_with (fail)
        refine (FValue_arg (List.replicate 101 Sn.zero) _ 101 101 0 _ (by omega) HZ.out.1 (fun a ha => by rw [List.eq_of_mem_replicate ha]; exact Nat.zero_le _) (Or.inr (Or.inr (by omega)))).mono ?_
        rintro e w11 ⟨rfl, hb11⟩
        have hal := belA4 w11 (.cells #[.bool false, .slice none 0 0] 27)
        have hbb := hb11.trans (hal.mono hb11.size)
        have hbk := Bk.new w11 [.bool false, .slice none 0 0] 27
        have HY := Lib.hid (And.intro (HZ.out.2.1.below hbb) (And.intro (HZ.out.2.2.1.below hbb) (HZ.out.2.2.2.below hbb)))
        have HC := Lib.hid (hbk 1 _ rfl).1
        clear hb11 hal hbb hbk HZ
        go_wp2_with (fail)
        obtain ⟨W12, hW12⟩ : ∃ W12, w11.alloc (.cells #[.bool false, .slice none 0 0] 27) = W12 := ⟨_, rfl⟩
        obtain ⟨gz, hgz⟩ : ∃ gz, w11.heap.size = gz := ⟨_, rfl⟩
        rw [hW12, hgz] at HC ⊢
        rw [hW12] at HY
        clear hW12 hgz
        go_region_held3 (fun w' => w'.cell? ⟨gz, 1, none⟩ = some (.slice none 0 0)) (first | exact HC.out | exact S1.out | exact S2.out | go_keep)
          (first
            | (go_at_call 10; refine (same_ok _ _ (some ⟨gf, 0, none⟩) (some ⟨gw, 0, none⟩) 5 5 5 W12.drew (by omega) HY.out.1.1 HY.out.2.1.1 ⟨HY.out.1.2.1, fun a ha => ⟨(HY.out.2.1.2.1 a ha).1, (HY.out.2.1.2.1 a ha).2.2.1⟩, HY.out.1.2.2.trans HY.out.2.1.2.2.symm⟩).mono ?_; rintro e w13 ⟨rfl, hb13⟩; have HB13 := Lib.hid (HY.out.2.2.below (show Below W12.heap.size W12 w13 from belowA hb13)); have S1 := Lib.hid ((hb13.cell (p := ⟨gz, 1, none⟩) (World.block_lt_of_cell? _ _ HC.out)).trans HC.out); clear hb13)
            | (go_at_call 12; refine (fawake_any w13 HB13.out.2).mono ?_; rintro e w14 ⟨rfl, hb14⟩; have HE := Lib.hid (HB13.out.1.below hb14); have S2 := Lib.hid ((hb14.cell (p := ⟨gz, 1, none⟩) (World.block_lt_of_cell? _ _ S1.out)).trans S1.out); clear hb14))
        all_goals
          clear HC S1 S2 HB13 HY
          go_wp2_with (fail)
          go_ret
          exact ⟨rfl, HE.out.2.2.2.2⟩
end Go.Proofs.YtalcikmngglplabDoor.fastValues
