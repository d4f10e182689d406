/- The walk of the law NatLists. -/
import Derived.Test.YtalcikmngglplaaZLawR
import Derived.Test.YtalcikmngglplaaP6
import Derived.OpenShut
namespace Go.Proofs.Ytalcikmngglplaa
open Go.RowKit
set_option linter.unusedVariables false
set_option linter.unusedSimpArgs false

theorem chkS_small {ls : List (Option Addr × Nat × Nat)} (h : ∀ s ∈ ls, s.2.1 ≤ 4096) : chkS ls = 0 := by
  have : ls.any (fun s => decide (4096 < s.2.1)) = false := by
    rw [List.any_eq_false]
    intro s hs
    have := h s hs
    simp
    omega
  simp [chkS, this]
theorem Nl.all {w : World} {A : Option Addr} {m c : Nat} {ls : List (Option Addr × Nat × Nat)} {xss : List (List Nat)} (h : Nl w A m c ls xss) : total xss = total (xss.take m) ∧ prodl xss = prodl (xss.take m) := by
  rw [List.take_of_length_le (Nat.le_of_eq h.2.2.1)]; exact ⟨rfl, rfl⟩
theorem V_rep (n : Nat) : V (List.replicate n 0) = 0 := by
  have := V_pad [] n
  simpa [pad, V] using this
/-- a new row of two words -/
theorem two_sl (w : World) {x y : Nat} (hx : x < B64) (hy : y < B64) : Sl (w.alloc (.cells #[.int .u64 (x : Int), .int .u64 (y : Int)] 37)) (some ⟨w.heap.size, 0, none⟩) 2 2 [x, y] :=
  ⟨rfl, Nat.le_refl _, by omega, fun z hz => by simp at hz; rcases hz with rfl | rfl; exact hx; exact hy, fun _ => ⟨w.heap.size, 0, rfl, by simp, fun j u hj => by
    match j, hj with
    | 0, hj => simp [uvs] at hj; subst hj; simp
    | 1, hj => simp [uvs] at hj; subst hj; simp⟩⟩
/-- a list of three numbers, the last one 0; and its first two -/
theorem three_nl (W : World) {A1 A2 : Option Addr} {n1 n2 c1 c2 : Nat} {x1 x2 : List Nat} (h1 : Sl W A1 n1 c1 x1) (h2 : Sl W A2 n2 c2 x2) :
    Nl (W.alloc (.cells #[.slice A1 n1 c1, .slice A2 n2 c2, .slice none 0 0] 23)) (some ⟨W.heap.size, 0, none⟩) 3 3 [(A1, n1, c1), (A2, n2, c2), (none, 0, 0)] [x1, x2, []] ∧
    Nl (W.alloc (.cells #[.slice A1 n1 c1, .slice A2 n2 c2, .slice none 0 0] 23)) (some ⟨W.heap.size, 0, none⟩) 2 2 [(A1, n1, c1), (A2, n2, c2)] [x1, x2] := by
  have hb : Below W.heap.size W (W.alloc (.cells #[.slice A1 n1 c1, .slice A2 n2 c2, .slice none 0 0] 23)) := (Below.refl _ _).alloc (Nat.le_refl _) _
  refine ⟨⟨rfl, fun _ => ⟨W.heap.size, 0, rfl, by simp, fun j u hj => ?_⟩, rfl, fun i s xs e1 e2 => ?_⟩, ⟨rfl, fun _ => ⟨W.heap.size, 0, rfl, by simp, fun j u hj => ?_⟩, rfl, fun i s xs e1 e2 => ?_⟩⟩
  · match j, hj with
    | 0, hj => simp [svs] at hj; subst hj; simp
    | 1, hj => simp [svs] at hj; subst hj; simp
    | 2, hj => simp [svs] at hj; subst hj; simp
  · match i, e1, e2 with
    | 0, e1, e2 => simp at e1 e2; subst e1 e2; exact h1.below hb
    | 1, e1, e2 => simp at e1 e2; subst e1 e2; exact h2.below hb
    | 2, e1, e2 => simp at e1 e2; subst e1 e2; exact ⟨rfl, Nat.le_refl 0, Nat.zero_le _, Ws_nil, Rd.nil⟩
  · match j, hj with
    | 0, hj => simp [svs] at hj; subst hj; simp
    | 1, hj => simp [svs] at hj; subst hj; simp
  · match i, e1, e2 with
    | 0, e1, e2 => simp at e1 e2; subst e1 e2; exact h1.below hb
    | 1, e1, e2 => simp at e1 e2; subst e1 e2; exact h2.below hb
theorem RowAt_sl {W : World} {g n : Nat} {zs : List Nat} (h : RowAt W g zs) (hl : zs.length = n) (hw : Ws zs) (hn : n ≤ 1000000) : Sl W (some ⟨g, 0, none⟩) n n zs :=
  ⟨hl, Nat.le_refl _, by omega, hw, fun _ => ⟨g, 0, rfl, h.lt, fun j u hj => by
    rw [Nat.zero_add]
    rw [uvs, List.getElem?_map] at hj
    obtain ⟨x, hx, rfl⟩ := Option.map_eq_some_iff.1 hj
    exact h.cell hx⟩⟩
theorem Nu.zero {w w' : World} {A : Option Addr} {n c : Nat} {zs : List Nat} (h : Nu w w' A n c zs 0) : n = 0 := by
  have := (V_zero h.1.2.2.2.1 h.2.1).1 h.2.2.1
  rw [← h.1.1, this]; rfl
/-- a product that is too large -/
theorem big_prod {zs : List Nat} {N : Nat} (h : V zs = B64 ^ N) (hN : N + 1 = 4096) : Big ≤ prodl [[2, 1], zs] := by
  have h1 : Big = B64 ^ N * B64 := by rw [← Nat.pow_succ]; exact congrArg (B64 ^ ·) (show Most = N + 1 from hN.symm)
  rw [h1]
  show B64 ^ N * B64 ≤ V [2, 1] * (V zs * 1)
  rw [h, Nat.mul_one, Nat.mul_comm (V [2, 1])]
  exact Nat.mul_le_mul_left _ (by decide)
end Go.Proofs.Ytalcikmngglplaa
namespace Go.Proofs.Ytalcikmngglplaa.natLists
open Go.ChangeShapes Go.RowKit
set_option linter.unusedVariables false

set_option maxRecDepth 100000 in
set_option maxHeartbeats 8000000 in
theorem walk (w : World) (a0 : Option Addr) (n0 c0 : Nat) (ls0 : List (Option Addr × Nat × Nat)) (xss0 : List (List Nat)) (hx : Nl w a0 n0 c0 ls0 xss0) (hn0 : n0 ≤ 9223372036854775807) (a1 : Int) (w1 : (Lit.int .i64 a1).wf = true) :
    Calls Try.prog 9 #[.slice a0 n0 c0, .int .i64 a1] w fun e w' => e = .returned (.bool true) ∧ Below w.heap.size w w' := by
  have hb := bounds_i64 w1
  have Hx := Lib.hid (And.intro hx hn0)
  have H0 := Lib.hid hb
  obtain ⟨iN, hiN, hzN0, hzN1, hzN2⟩ := info_parts infoNat
  obtain ⟨i0, hi, hz0, hz1, hz2⟩ := info_parts Try.info37
  obtain ⟨u, hu⟩ : ∃ u : Nat, IntKind.u64.wrap a1 = (u : Int) := ⟨(a1 % 18446744073709551616).toNat, by rw [IntKind.wrap_u64]; omega⟩
  obtain ⟨q, hq, hq1, hq2⟩ : ∃ q : Nat, q < 3 ∧ (u : Int).tmod 3 = (q : Int) ∧ (u : Int) % 3 = (q : Int) := ⟨u % 3, Nat.mod_lt _ (by decide), by rw [Int.tmod_eq_emod_of_nonneg (by omega)]; omega, by omega⟩
  have hqw : IntKind.i64.wrap (q : Int) = (q : Int) := IntWalk.i64_in _ (by omega)
  obtain ⟨M, hM, hM2⟩ : ∃ M : Nat, (1001 : Int) + (q : Int) = (M : Int) ∧ (1000 < M ∧ M ≤ 1003) := ⟨1001 + q, by omega, by omega⟩
  have hMw : IntKind.i64.wrap (M : Int) = (M : Int) := IntWalk.i64_in _ (by omega)
  clear hx hn0 w1 hb
  go_enter Try.func9, Try.ntmps9
  go_wp2_with (fail)
  refine (list_ok _ _ _ _ _ _ Hx.out.2 Hx.out.1).mono ?_
  rintro e w2 ⟨A2, m, c2, rfl, hm, ⟨ls, xss, hN, h8⟩, b2⟩
  have H2 := Lib.hid (And.intro hN (And.intro h8 b2))
  have HS := Lib.hid (And.intro (show total xss < Big by rw [hN.all.1]; exact total_Big hN h8 hm (Nat.le_refl _)) (And.intro (show prodl xss < Big by rw [hN.all.2]; exact prodl_Big hN h8 hm (Nat.le_refl _)) (chkS_small fun s hs => Nat.le_trans (h8 s hs) (by decide))))
  clear hN h8 b2
  go_wp2_with (fail)
  refine (Sum_ok ls A2 m c2 xss w2 (by omega) HS.out.2.2 H2.out.1).mono ?_
  rintro e w3 hR3
  obtain ⟨A3, n3, c3, zs3, rfl, h3⟩ := hR3.open HS.out.1
  have H3 := Lib.hid (And.intro (H2.out.1.below h3.bel) (And.intro H2.out.2.1 (h3.from H2.out.2.2)))
  clear hR3 h3 H2
  go_wp2_with (fail)
  refine (Product_ok ls A2 m c2 xss w3 (by omega) HS.out.2.2 H3.out.1).mono ?_
  rintro e w4 hR4
  obtain ⟨A4, n4, c4, zs4, rfl, h4⟩ := hR4.open HS.out.2.1
  have H4 := Lib.hid (And.intro (H3.out.1.below h4.bel) (And.intro H3.out.2.1 (And.intro (H3.out.2.2.keep h4.bel) h4)))
  clear hR4 h4 H3
  go_wp2_with (fail)
  refine (R2Sum_ok A2 m c2 ls xss w4 hm H4.out.1 H4.out.2.1).mono ?_
  rintro e w5 hR5
  obtain ⟨A5, n5, c5, zs5, rfl, h5⟩ := hR5.open HS.out.1
  have H5 := Lib.hid (And.intro (H4.out.1.below h5.bel) (And.intro H4.out.2.1 (And.intro (H4.out.2.2.1.keep h5.bel) (And.intro (H4.out.2.2.2.keep h5.bel) h5))))
  clear hR5 h5 H4
  go_wp2_with (fail)
  refine (Is_two H5.out.2.2.1 H5.out.2.2.2.2).mono ?_
  rintro e w6 ⟨rfl, b6⟩
  have H6 := Lib.hid (And.intro (H5.out.1.below b6) (And.intro H5.out.2.1 (And.intro (H5.out.2.2.1.keep b6).bel (H5.out.2.2.2.1.keep b6))))
  clear b6 H5
  go_wp2_with (fail)
  refine (R2Product_ok A2 m c2 ls xss w6 hm H6.out.1 H6.out.2.1).mono ?_
  rintro e w7 hR7
  obtain ⟨A7, n7, c7, zs7, rfl, h7⟩ := hR7.open HS.out.2.1
  have H7 := Lib.hid (And.intro (H6.out.2.2.1.trans (h7.bel.mono H6.out.2.2.1.size)) (And.intro (H6.out.2.2.2.keep h7.bel) h7))
  clear hR7 h7 H6
  go_wp2_with (fail)
  refine (Is_two H7.out.2.1 H7.out.2.2).mono ?_
  rintro e w8 ⟨rfl, b8⟩
  have H8 := Lib.hid (H7.out.1.trans (b8.mono H7.out.1.size))
  clear b8 H7 HS
  go_wp2_with (at_make; refine wpList_make_full _ rfl _ _ 50 rfl w8.heap.size 23 iN (.slice none 0 0) 1 Try.underlying50 hiN hzN0 hzN1 .i64 .i64 _ _ M rfl rfl rfl rfl (by rw [hzN2]; omega) (by unfold maxLen; omega) (Nat.le_refl _) ?_)
  intro w9 hown9 hgrow9
  have hb9 := below_of_grown hgrow9 (Nat.le_refl _)
  have H9 := Lib.hid (H8.out.trans (hb9.mono H8.out.size))
  clear hown9 hgrow9 hb9 H8
  go_wp2_with (fail)
  refine (Sum_err (E := 1) rfl (checkList_many _ M _ w9 hM2.1)).mono ?_
  rintro e w10 ⟨rfl, rfl⟩
  go_wp2_with (fail)
  refine (Product_err (E := 1) rfl (checkList_many _ M _ w9 hM2.1)).mono ?_
  rintro e w10 ⟨rfl, rfl⟩
  clear hM hM2 hMw hq1 hq2 hqw hq hu
  have hb10 := H9.out
  go_wp2_with (at_make; refine wpList_make_full _ rfl _ _ 23 rfl (w9.heap.size + 1) 37 i0 (.int .u64 0) 1 Try.underlying23 hi hz0 hz1 .i64 .i64 _ _ 4096 rfl rfl rfl rfl (by rw [hz2]; omega) (by unfold maxLen; omega) (by simp) ?_)
  intro w11 hown11 hgrow11
  have hb11 := below_of_grown hgrow11 (Nat.le_refl _)
  have hrow := RowAt_zeros hown11
  have h21 : Sl w11 (some ⟨w9.heap.size, 0, none⟩) 2 2 [2, 1] := (two_sl w9 (by decide) (by decide)).below hb11
  obtain ⟨N, hN⟩ : ∃ N : Nat, N = 4095 := ⟨_, rfl⟩
  obtain ⟨zs, hzs, hzl, hzw, hzg, hzV⟩ : ∃ zs : List Nat, RowAt w11 (w9.heap.size + 1) zs ∧ zs.length = 4096 ∧ Ws zs ∧ zs[4095]? = some 0 ∧ V zs = 0 :=
    ⟨List.replicate 4096 0, by simpa using hrow, List.length_replicate .., fun x hx => by rw [List.eq_of_mem_replicate hx]; decide, by rw [List.getElem?_replicate]; rfl, V_rep _⟩
  have hcz := hzs.cell hzg
  have hfz := hzs.frozen 4095
  have hlt := hzs.lt
  have hput := V_put zs 4095 0 1 hzg
  rw [← hN] at hput
  rw [Nat.zero_mul, Nat.add_zero, hzV, Nat.zero_add, Nat.one_mul] at hput
  have hg9 : w.heap.size ≤ w9.heap.size + 1 := by have := hb10.size; omega
  have hb12 : Below w.heap.size w w11 := (hb10.alloc hb10.size _).trans (hb11.mono (by have := hb10.size; simp; omega))
  have H11 := Lib.hid (And.intro h21 (And.intro hzs (And.intro hzl (And.intro hzw (And.intro hput (And.intro hb12 (And.intro hg9 hN)))))))
  clear hb11 hrow h21 hzs hzl hzw hzg hzV hput hg9 hb12 hown11 hgrow11 hb10 H9 hN
  generalize hgg : w9.heap.size + 1 = gg at *
  have HGG := Lib.hid hgg
  clear hgg
  generalize w9.heap.size = g9 at *
  go_wp2_with (fail)
  have hW : Sl (w11.setCell ⟨gg, 4095, none⟩ (.int .u64 1)) (some ⟨g9, 0, none⟩) 2 2 [2, 1] := H11.out.1.grown (grown_set w11 gg 4095 _) (fun a ea e => by injection ea with ea; subst ea; injection e with e; have := HGG.out; simp at e; omega)
  have hZ : Sl (w11.setCell ⟨gg, 4095, none⟩ (.int .u64 1)) (some ⟨gg, 0, none⟩) 4096 4096 (zs.set 4095 1) := RowAt_sl (H11.out.2.1.set 4095 1) (by rw [List.length_set]; exact H11.out.2.2.1) (Ws_set H11.out.2.2.2.1 _ _ (by decide)) (by omega)
  have hT := three_nl (w11.setCell ⟨gg, 4095, none⟩ (.int .u64 1)) hW hZ
  have hbT : Below w.heap.size w ((w11.setCell ⟨gg, 4095, none⟩ (.int .u64 1)).alloc (.cells #[.slice (some ⟨g9, 0, none⟩) 2 2, .slice (some ⟨gg, 0, none⟩) 4096 4096, .slice none 0 0] 23)) :=
    (H11.out.2.2.2.2.2.1.setCell (p := ⟨gg, 4095, none⟩) H11.out.2.2.2.2.2.2.1 _).alloc (by have := H11.out.2.2.2.2.2.1.size; simp; omega) _
  have hV : V (zs.set 4095 1) = B64 ^ N := by
    have e := H11.out.2.2.2.2.2.2.2
    rw [show zs.set 4095 1 = zs.set N 1 by rw [e]]
    exact H11.out.2.2.2.2.1
  have hN1 : N + 1 = 4096 := by have := H11.out.2.2.2.2.2.2.2; omega
  have hbig := big_prod hV hN1
  simp only [World.size_setCell] at hT hbT
  generalize ((w11.setCell ⟨gg, 4095, none⟩ (.int .u64 1)).alloc (.cells #[.slice (some ⟨g9, 0, none⟩) 2 2, .slice (some ⟨gg, 0, none⟩) 4096 4096, .slice none 0 0] 23)) = w12 at *
  have HT := Lib.hid (And.intro hT (And.intro hbT hbig))
  clear hT hbT hbig hV hN1 hW hZ H11 hcz hfz hlt
  refine (Product_ok _ _ 3 3 _ w12 (by omega) (chkS_small fun s hs => by simp at hs; rcases hs with rfl | rfl | rfl <;> simp) HT.out.1.1).mono ?_
  rintro e w13 hR13
  rw [prodl_zero _ (k := 2) (xs := []) rfl rfl] at hR13
  obtain ⟨A13, n13, c13, zs13, rfl, h13⟩ := hR13.open (Nat.pow_pos B64_pos)
  have hn0 : n13 = 0 := h13.zero
  subst hn0
  have H13 := Lib.hid (And.intro (HT.out.1.2.below h13.bel) (HT.out.2.1.trans (h13.bel.mono HT.out.2.1.size)))
  clear hR13 h13
  go_wp2_with (fail)
  refine (Product_ok _ _ 2 2 _ w13 (by omega) (chkS_small fun s hs => by simp at hs; rcases hs with rfl | rfl <;> simp) H13.out.1).mono ?_
  rintro e w14 hR14
  obtain ⟨⟨_, _, _, hbad⟩ | ⟨rfl, _⟩, b14⟩ := hR14
  · exact absurd hbad (by have := HT.out.2.2; omega)
  have H14 := Lib.hid (H13.out.2.trans (b14.mono H13.out.2.size))
  clear b14 H13 HT
  go_wp2_with (fail)
  refine (nawake_any _).mono ?_
  rintro e w15 ⟨rfl, b15⟩
  go_wp2_with (fail)
  go_ret
  exact ⟨rfl, H14.out.trans (b15.mono H14.out.size)⟩
end Go.Proofs.Ytalcikmngglplaa.natLists
