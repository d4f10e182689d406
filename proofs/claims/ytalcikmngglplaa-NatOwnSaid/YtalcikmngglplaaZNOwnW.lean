/- The walk of the law NatOwn. -/
import Derived.Test.YtalcikmngglplaaZIt
import Derived.Test.YtalcikmngglplaaP2
import Derived.Test.YtalcikmngglplaaP4
import Derived.Test.YtalcikmngglplaaP7
import Derived.Test.YtalcikmngglplaaP3
namespace Go.Proofs.Ytalcikmngglplaa
open Go.RowKit
set_option linter.unusedVariables false
set_option linter.unusedSimpArgs false

/-- a slice of words in memory from block B on: it may be written -/
def St (B : Nat) (w : World) (A : Option Addr) (n : Nat) : Prop := n = 0 ∨ ∃ g cur, A = some ⟨g, 0, none⟩ ∧ B ≤ g ∧ w.heap[g]? = some (.cells cur 37 (0, 0)) ∧ n ≤ cur.size ∧ n ≤ maxLen
theorem St.of {w w' : World} {A : Option Addr} {n c B : Nat} {zs : List Nat} (h : Nw w w' (.slice A n c) n zs) (hB : B ≤ w.heap.size) : St B w' A n := by
  rcases h.2.2.2 with ⟨e, h0⟩ | ⟨g, cap, cur, e, hg, hh, hn, hc, hs, ht⟩
  · exact .inl h0
  · injection e with e1 e2 e3
    exact .inr ⟨g, cur, e1, by omega, hh, by omega, by omega⟩
theorem St.keep {B : Nat} {w w' : World} {A : Option Addr} {n : Nat} (h : St B w A n) (hb : Below w.heap.size w w') : St B w' A n := by
  rcases h with h | ⟨g, cur, e, hg, hh, hn⟩
  · exact .inl h
  · exact .inr ⟨g, cur, e, hg, (hb.block g (Array.getElem?_eq_some_iff.1 hh).1).trans hh, hn⟩
theorem St.set {B : Nat} {w : World} {A : Option Addr} {n : Nat} (h : St B w A n) (g j : Nat) (u : Value) : St B (w.setCell ⟨g, j, none⟩ u) A n := by
  rcases h with h | ⟨g', cur, e, hg, hh, hn⟩
  · exact .inl h
  · by_cases hgg : g' = g
    · subst hgg
      exact .inr ⟨g', cur.setIfInBounds j u, e, hg, heap_setCell_same w g' j cur 37 u hh, by simpa using hn.1, hn.2⟩
    · exact .inr ⟨g', cur, e, hg, (Below.heap_setCell w ⟨g, j, none⟩ u g' hgg).trans hh, hn⟩
theorem Rs.own {w w' : World} {e : Ending} {x : Nat} (h : Rs w w' e x) (hx : x < Big) : ∃ A n c zs, e = .returned (.tuple #[.slice A n c, .int .i64 0]) ∧ Nw w w' (.slice A n c) n zs ∧ Below w.heap.size w w' := by
  obtain ⟨⟨v, rfl, h1, _⟩ | ⟨rfl, h1⟩, h2⟩ := h
  · obtain ⟨A, n, c, zs, rfl, _, _, _, h3⟩ := h1.sl
    exact ⟨A, n, c, zs, rfl, h3, h2⟩
  · omega
theorem Rv.own {w w' : World} {e : Ending} {x : Nat} (h : Rv w w' e x) : ∃ A n c zs, e = .returned (.slice A n c) ∧ Nw w w' (.slice A n c) n zs ∧ Below w.heap.size w w' := by
  obtain ⟨v, rfl, h1, h2⟩ := h
  obtain ⟨A, n, c, zs, rfl, _, _, _, h3⟩ := h1.sl
  exact ⟨A, n, c, zs, rfl, h3, h2⟩
/-- a list of one number -/
theorem nl1 (W : World) {A1 : Option Addr} {n1 c1 : Nat} {x1 : List Nat} (h1 : Sl W A1 n1 c1 x1) :
    Nl (W.alloc (.cells #[.slice A1 n1 c1] 23)) (some ⟨W.heap.size, 0, none⟩) 1 1 [(A1, n1, c1)] [x1] := by
  have hb : Below W.heap.size W (W.alloc (.cells #[.slice A1 n1 c1] 23)) := (Below.refl _ _).alloc (Nat.le_refl _) _
  refine ⟨rfl, fun _ => ⟨W.heap.size, 0, rfl, by simp, fun j u hj => ?_⟩, rfl, fun i s xs e1 e2 => ?_⟩
  · match j, hj with
    | 0, hj => simp [svs] at hj; subst hj; simp
  · match i, e1, e2 with
    | 0, e1, e2 => simp at e1 e2; subst e1 e2; exact h1.below hb
/-- the slices that are written, and the slice of them in block h -/
def OwI (wB W : World) (h : Nat) (ls : List (Option Addr × Nat × Nat)) : Prop := W.heap[h]? = some (.cells (svs ls).toArray 23 (0, 0)) ∧ (∀ s ∈ ls, St wB.heap.size W s.1 s.2.1) ∧ Below wB.heap.size wB W
theorem OwI.load {wB W : World} {h : Nat} {ls : List (Option Addr × Nat × Nat)} (hI : OwI wB W h ls) {k : Nat} {s : Option Addr × Nat × Nat} (hk : ls[k]? = some s) : W.cell? ⟨h, k, none⟩ = some (.slice s.1 s.2.1 s.2.2) := by
  rw [cell_of_row W h k _ _ _ hI.1]
  simpa using svs_get hk
theorem OwI.set {wB W : World} {h : Nat} {ls : List (Option Addr × Nat × Nat)} (hI : OwI wB W h ls) {g j : Nat} {cur : Array Value} (hg : W.heap[g]? = some (.cells cur 37 (0, 0))) (hB : wB.heap.size ≤ g) (u : Value) : OwI wB (W.setCell ⟨g, j, none⟩ u) h ls := by
  have hne : h ≠ g := by
    intro e
    subst e
    have := hI.1
    rw [hg] at this
    injection this with this
    injection this with _ this _
    cases this
  exact ⟨(Below.heap_setCell W ⟨g, j, none⟩ u h hne).trans hI.1, fun s hs => (hI.2.1 s hs).set g j u, hI.2.2.setCell (p := ⟨g, j, none⟩) hB u⟩
end Go.Proofs.Ytalcikmngglplaa
namespace Go.Proofs.Ytalcikmngglplaa.natOwn
open Go.ChangeShapes Go.RowKit
set_option linter.unusedVariables false

set_option maxRecDepth 100000 in
set_option maxHeartbeats 8000000 in
theorem walk (w : World) (a0 : Option Addr) (n0 c0 : Nat) (xs : List Nat) (hx : Sl w a0 n0 c0 xs) (a1 : Option Addr) (n1 c1 : Nat) (ys : List Nat) (hy : Sl w a1 n1 c1 ys) :
    Calls Try.prog 13 #[.slice a0 n0 c0, .slice a1 n1 c1] w fun e w' => e = .returned (.bool true) ∧ Below w.heap.size w w' := by
  have Hx := Lib.hid (And.intro hx hy)
  clear hx hy
  go_enter Try.func13, Try.ntmps13
  go_wp2_with (fail)
  refine (few_row _ _ _ 20 xs _ Hx.out.1 (by omega)).mono ?_
  rintro e w1 ⟨A1, k1, d1, us, rfl, hk1, hs1, -, -, hb1⟩
  have H1 := Lib.hid (And.intro hs1 (And.intro (Hx.out.2.below hb1) hb1))
  clear hs1 hb1
  go_wp2_with (fail)
  refine (few_row _ _ _ 20 ys _ H1.out.2.1 (by omega)).mono ?_
  rintro e w2 ⟨A2, k2, d2, vs, rfl, hk2, hs2, -, -, hb2⟩
  have H2 := Lib.hid (And.intro (H1.out.1.below hb2) (And.intro hs2 (H1.out.2.2.trans (hb2.mono H1.out.2.2.size))))
  clear hs2 hb2 H1
  go_wp2_with (fail)
  refine (few_row _ _ _ 20 us _ H2.out.1 (by omega)).mono ?_
  rintro e w3 ⟨A3, k3, d3, us', rfl, hk3, hs3, hu3, -, hb3⟩
  rw [List.take_of_length_le (by rw [H2.out.1.1]; exact hk1)] at hu3
  subst hu3
  obtain rfl : k3 = k1 := by rw [← hs3.1, H2.out.1.1]
  have H3 := Lib.hid (And.intro (H2.out.1.below hb3) (And.intro (H2.out.2.1.below hb3) (And.intro hs3 (H2.out.2.2.trans (hb3.mono H2.out.2.2.size)))))
  clear hs3 hb3 H2 hk3
  go_wp2_with (fail)
  refine (few_row _ _ _ 20 vs _ H3.out.2.1 (by omega)).mono ?_
  rintro e wB ⟨A4, k4, d4, vs', rfl, hk4, hs4, hu4, -, hb4⟩
  rw [List.take_of_length_le (by rw [H3.out.2.1.1]; exact hk2)] at hu4
  subst hu4
  obtain rfl : k4 = k2 := by rw [← hs4.1, H3.out.2.1.1]
  have HS := Lib.hid (And.intro (H3.out.1.below hb4) (And.intro (H3.out.2.1.below hb4) (And.intro (H3.out.2.2.1.below hb4) (And.intro hs4 (H3.out.2.2.2.trans (hb4.mono H3.out.2.2.2.size))))))
  clear hs4 hb4 H3 hk4
  have hV : V us' < Big := Big_of HS.out.1.lt (by omega)
  have HV := Lib.hid hV
  have HB : Hid (Below wB.heap.size wB wB) := Below.refl _ _
  clear hV
  go_wp2_with (fail)
  refine (NAdd_ok _ none _ 0 _ 0 us' [] wB (by omega) (by omega) (HS.out.1.below HB.out) ⟨rfl, by omega, by omega, Ws_nil, Rd.nil⟩).mono ?_
  rintro e w5 hR5
  obtain ⟨A5, n5, c5, zs5, rfl, hw5, b5⟩ := hR5.own (by simp only [V, Nat.add_zero]; exact HV.out)
  have H5 := Lib.hid (And.intro (St.of hw5 HB.out.size) (HB.out.trans (b5.mono HB.out.size)))
  clear b5 hw5 HB
  go_wp2_with (fail)
  refine (NMul_ok _ _ _ _ _ _ us' [1] (W1 w5 1) (by omega) (by omega) ((HS.out.1.below H5.out.2).below (W1_below w5 1)) (Sl_one w5 1 (by decide))).mono ?_
  rintro e w6 hR6
  rw [V_one 1, Nat.mul_one] at hR6
  obtain ⟨A6, n6, c6, zs6, rfl, hw6, b0⟩ := hR6.own HV.out
  have hx6 := (W1_below w5 1).size
  have b6 := (W1_below w5 1).trans (b0.mono hx6)
  clear b0
  have H6 := Lib.hid (And.intro (H5.out.1.keep b6) (And.intro (St.of hw6 (Nat.le_trans H5.out.2.size hx6)) (H5.out.2.trans (b6.mono H5.out.2.size))))
  clear b6 hw6 H5
  go_wp2_with (fail)
  refine (NLeft_ok _ _ _ us' 0 w6 (by omega) (by omega) (HS.out.1.below H6.out.2.2)).mono ?_
  rintro e w7 hR7
  rw [Nat.pow_zero, Nat.mul_one] at hR7
  obtain ⟨A7, n7, c7, zs7, rfl, hw7, b7⟩ := hR7.own HV.out
  have H7 := Lib.hid (And.intro (H6.out.1.keep b7) (And.intro (H6.out.2.1.keep b7) (And.intro (St.of hw7 H6.out.2.2.size) (H6.out.2.2.trans (b7.mono H6.out.2.2.size)))))
  clear b7 hw7 H6
  go_wp2_with (fail)
  refine (Sum_ok _ _ 1 1 _ (w7.alloc _) (by omega) (chkS_one (by omega)) (nl1 w7 (HS.out.1.below H7.out.2.2.2))).mono ?_
  rintro e w8 hR8
  rw [show total [us'] = V us' by simp [total]] at hR8
  obtain ⟨A8, n8, c8, zs8, rfl, hw8, b0⟩ := hR8.own HV.out
  have hy8 : Below w7.heap.size w7 (w7.alloc (.cells #[.slice A1 k3 d1] 23)) := (Below.refl _ _).alloc (Nat.le_refl _) _
  have hx8 := hy8.size
  have b8 := hy8.trans (b0.mono hx8)
  clear b0 hy8
  have H8 := Lib.hid (And.intro (H7.out.1.keep b8) (And.intro (H7.out.2.1.keep b8) (And.intro (H7.out.2.2.1.keep b8) (And.intro (St.of hw8 (Nat.le_trans H7.out.2.2.2.size hx8)) (H7.out.2.2.2.trans (b8.mono H7.out.2.2.2.size))))))
  clear b8 hw8 H7
  go_wp2_with (fail)
  refine (NTrim_ok _ _ _ us' w8 (by omega) (HS.out.1.below H8.out.2.2.2.2)).mono ?_
  rintro e w9 hR9
  obtain ⟨A9, n9, c9, zs9, rfl, hw9, b9⟩ := hR9.own
  have H9 := Lib.hid (And.intro (H8.out.1.keep b9) (And.intro (H8.out.2.1.keep b9) (And.intro (H8.out.2.2.1.keep b9) (And.intro (H8.out.2.2.2.1.keep b9) (And.intro (St.of hw9 H8.out.2.2.2.2.size) (H8.out.2.2.2.2.trans (b9.mono H8.out.2.2.2.2.size)))))))
  clear b9 hw9 H8
  go_wp2_with (fail)
  refine (NDivMod_ok _ _ _ _ _ _ us' [1] (W1 w9 1) (by omega) (by omega) ((HS.out.1.below H9.out.2.2.2.2.2).below (W1_below w9 1)) (Sl_one w9 1 (by decide)) (by decide) (.inr (by decide))).mono ?_
  rintro e w10 ⟨v10, y10, rfl, hN10, hM10, b0⟩
  obtain ⟨A10, n10, c10, zs10, rfl, -, -, -, hw10⟩ := hN10.sl
  obtain ⟨A10r, n10r, c10r, zs10r, rfl, -, -, -, -⟩ := hM10.sl
  have hx10 := (W1_below w9 1).size
  have b10 := (W1_below w9 1).trans (b0.mono hx10)
  clear b0 hN10 hM10
  have H10 := Lib.hid (And.intro (H9.out.1.keep b10) (And.intro (H9.out.2.1.keep b10) (And.intro (H9.out.2.2.1.keep b10) (And.intro (H9.out.2.2.2.1.keep b10) (And.intro (H9.out.2.2.2.2.1.keep b10) (And.intro (St.of hw10 (Nat.le_trans H9.out.2.2.2.2.2.size hx10)) (H9.out.2.2.2.2.2.trans (b10.mono H9.out.2.2.2.2.2.size))))))))
  clear b10 hw10 H9
  obtain ⟨N, hN, hN4⟩ : ∃ N : Nat, Mx N k3 k4 ∧ N ≤ 20 := by
    unfold Mx
    rcases Nat.lt_or_ge k3 k4 with h | h
    · exact ⟨k4, ⟨by omega, by omega, by omega⟩, by omega⟩
    · exact ⟨k3, ⟨by omega, by omega, by omega⟩, by omega⟩
  have HM := Lib.hid hN
  clear hN
  go_wp2_with (fail)
  refine (NOr_ok _ _ _ _ _ _ us' vs' N w10 (by omega) (by omega) HM.out (HS.out.1.below H10.out.2.2.2.2.2.2) (HS.out.2.1.below H10.out.2.2.2.2.2.2)).mono ?_
  rintro e w11 ⟨v11, rfl, hN11, b11⟩
  obtain ⟨A11, n11, c11, zs11, rfl, -, -, -, hw11⟩ := hN11.sl
  clear hN11
  have H11 := Lib.hid (And.intro (H10.out.1.keep b11) (And.intro (H10.out.2.1.keep b11) (And.intro (H10.out.2.2.1.keep b11) (And.intro (H10.out.2.2.2.1.keep b11) (And.intro (H10.out.2.2.2.2.1.keep b11) (And.intro (H10.out.2.2.2.2.2.1.keep b11) (And.intro (St.of hw11 H10.out.2.2.2.2.2.2.size) (H10.out.2.2.2.2.2.2.trans (b11.mono H10.out.2.2.2.2.2.2.size)))))))))
  clear b11 hw11 H10
  go_wp2_with (fail)
  have hI0 : OwI wB (w11.alloc (.cells #[.slice A5 n5 c5, .slice A6 n6 c6, .slice A7 n7 c7, .slice A8 n8 c8, .slice A9 n9 c9, .slice A10 n10 c10, .slice A11 n11 c11] 23)) w11.heap.size [(A5, n5, c5), (A6, n6, c6), (A7, n7, c7), (A8, n8, c8), (A9, n9, c9), (A10, n10, c10), (A11, n11, c11)] := by
    have hb : Below w11.heap.size w11 (w11.alloc (.cells #[.slice A5 n5 c5, .slice A6 n6 c6, .slice A7 n7 c7, .slice A8 n8 c8, .slice A9 n9 c9, .slice A10 n10 c10, .slice A11 n11 c11] 23)) := (Below.refl _ _).alloc (Nat.le_refl _) _
    refine ⟨by rw [heap_alloc_new]; rfl, fun s hs => ?_, H11.out.2.2.2.2.2.2.2.trans (hb.mono H11.out.2.2.2.2.2.2.2.size)⟩
    simp only [List.mem_cons, List.not_mem_nil, or_false] at hs
    rcases hs with rfl | rfl | rfl | rfl | rfl | rfl | rfl
    · exact H11.out.1.keep hb
    · exact H11.out.2.1.keep hb
    · exact H11.out.2.2.1.keep hb
    · exact H11.out.2.2.2.1.keep hb
    · exact H11.out.2.2.2.2.1.keep hb
    · exact H11.out.2.2.2.2.2.1.keep hb
    · exact H11.out.2.2.2.2.2.2.1.keep hb
  have HI := Lib.hid hI0
  generalize hh : w11.heap.size = h at hI0 HI ⊢
  clear hI0
  obtain ⟨ls, hls⟩ : ∃ ls, [(A5, n5, c5), (A6, n6, c6), (A7, n7, c7), (A8, n8, c8), (A9, n9, c9), (A10, n10, c10), (A11, n11, c11)] = ls := ⟨_, rfl⟩
  rw [hls] at HI
  have HL := Lib.hid (show ls.length = 7 by rw [← hls]; rfl)
  generalize w11.alloc _ = wA at HI ⊢
  clear hls hh
  go_loopw [24] (fun kv wr => ∃ k : Nat, k ≤ 7 ∧ kv = .int .i64 k ∧ Hid (OwI wB wr h ls)) (fun kv _ => 7 - (intOf kv).toNat)
  case atStart => exact ⟨0, by omega, rfl, HI.out⟩
  case round =>
    clear HI
    obtain ⟨k, hk, rfl, hI⟩ := hrel
    by_cases hlt : k < 7
    · have hki : (k : Int) < 7 := by omega
      have hkl : k < ls.length := by rw [HL.out]; exact hlt
      obtain ⟨sa, sn, sc, hs⟩ : ∃ sa sn sc, ls[k]? = some (sa, sn, sc) := ⟨ls[k].1, ls[k].2.1, ls[k].2.2, List.getElem?_eq_getElem hkl⟩
      have Hs := Lib.hid hs
      have hcs0 := hI.out.load hs
      clear hkl hs
      go_wp2_with (fail)
      go_loopw [25] (fun mv wr => ∃ m : Nat, m ≤ sn ∧ mv = .int .i64 m ∧ Hid (OwI wB wr h ls)) (fun mv _ => sn - (intOf mv).toNat)
      case atStart => exact ⟨0, Nat.zero_le _, rfl, hI.out⟩
      case round =>
        clear hI hcs0
        obtain ⟨m, hm, rfl, hI⟩ := hrel
        have hcs := hI.out.load Hs.out
        simp only at hcs
        by_cases hmt : m < sn
        · obtain ⟨g, cur, rfl, hg, hh2, hn, hnx⟩ : ∃ g cur, sa = some ⟨g, 0, none⟩ ∧ wB.heap.size ≤ g ∧ wr.heap[g]? = some (.cells cur 37 (0, 0)) ∧ sn ≤ cur.size ∧ sn ≤ maxLen := by
            rcases hI.out.2.1 _ (List.mem_of_getElem? Hs.out) with h0 | h0
            · simp only at h0; omega
            · exact h0
          have hmi : (m : Int) < (sn : Int) := by omega
          have HW : Hid (RowKit.wrap64 ((m : Int) + 1) = ((m + 1 : Nat) : Int)) := by unfold maxLen at hnx; unfold Hid RowKit.wrap64; omega
          have hcz : wr.cell? ⟨g, m, none⟩ = some (cur[m]'(by omega)) := by
            rw [cell_of_row wr g m _ _ _ hh2]
            simp [show m < cur.size by omega]
          have hfz : wr.frozen? ⟨g, m, none⟩ = false := by simp [World.frozen?, hh2]
          have HN := Lib.hid (hI.out.set (j := m) hh2 hg (.int .u64 7))
          generalize cur[m] = z at *
          clear hI hh2 hn hnx
          go_wp2_with (fail)
          go_roundw
          case rel => exact ⟨m + 1, by omega, by rw [HW.out], HN⟩
          case measure => rw [HW.out]; simp [intOf]; omega
        · have hmi : ¬ (m : Int) < (sn : Int) := by omega
          go_wp2_with (fail)
          go_roundw
          case rel => exact ⟨k + 1, by omega, by go_num, hI⟩
          case measure => simp [intOf]; omega
    · have hki : ¬ (k : Int) < 7 := by omega
      have HE := Lib.hid hI.out.2.2
      clear hI
      go_wp2_with (fail)
      go_loopw [26] (fun iv wr2 => ∃ i : Nat, i ≤ k3 ∧ iv = .int .i64 i ∧ Hid (Below wB.heap.size wB wr2)) (fun iv _ => k3 - (intOf iv).toNat)
      case atStart => exact ⟨0, Nat.zero_le _, rfl, HE.out⟩
      case round =>
        clear HE
        obtain ⟨i, hi2, rfl, hI⟩ := hrel
        by_cases hit : i < k3
        · have hg := List.getElem?_eq_getElem (show i < us'.length by rw [HS.out.1.1]; exact hit)
          obtain ⟨b1, o1, rfl, -, hc1⟩ := (HS.out.1.below hI.out).2.2.2.2.at (uvs_get hg)
          obtain ⟨b3, o3, rfl, -, hc3⟩ := (HS.out.2.2.1.below hI.out).2.2.2.2.at (uvs_get hg)
          obtain ⟨x, hx⟩ : ∃ x, us'[i]'(by rw [HS.out.1.1]; exact hit) = x := ⟨_, rfl⟩
          rw [hx] at hc1 hc3
          have hii : (i : Int) < (k3 : Int) := by omega
          have HN := Lib.hid (fun q => below_drewN hI.out q)
          clear hg hI hx
          go_wp2_with (fail)
          go_quiet (fail)
          go_wp2_with (fail)
          go_roundw
          case rel => exact ⟨i + 1, by omega, by go_num, HN.out _⟩
          case measure => simp [intOf]; omega
        · have hii : ¬ (i : Int) < (k3 : Int) := by omega
          have HF := Lib.hid hI.out
          clear hI
          go_wp2_with (fail)
          go_loopw [27] (fun iv wr3 => ∃ i : Nat, i ≤ k4 ∧ iv = .int .i64 i ∧ Hid (Below wB.heap.size wB wr3)) (fun iv _ => k4 - (intOf iv).toNat)
          case atStart => exact ⟨0, Nat.zero_le _, rfl, HF.out⟩
          case round =>
            clear HF
            obtain ⟨j, hj2, rfl, hI⟩ := hrel
            by_cases hjt : j < k4
            · have hg := List.getElem?_eq_getElem (show j < vs'.length by rw [HS.out.2.1.1]; exact hjt)
              obtain ⟨b2, o2, rfl, -, hc2⟩ := (HS.out.2.1.below hI.out).2.2.2.2.at (uvs_get hg)
              obtain ⟨b4, o4, rfl, -, hc4⟩ := (HS.out.2.2.2.1.below hI.out).2.2.2.2.at (uvs_get hg)
              obtain ⟨x, hx⟩ : ∃ x, vs'[j]'(by rw [HS.out.2.1.1]; exact hjt) = x := ⟨_, rfl⟩
              rw [hx] at hc2 hc4
              have hjj : (j : Int) < (k4 : Int) := by omega
              have HN := Lib.hid (fun q => below_drewN hI.out q)
              clear hg hI hx
              go_wp2_with (fail)
              go_quiet (fail)
              go_wp2_with (fail)
              go_roundw
              case rel => exact ⟨j + 1, by omega, by go_num, HN.out _⟩
              case measure => simp [intOf]; omega
            · have hjj : ¬ (j : Int) < (k4 : Int) := by omega
              have HG := Lib.hid hI.out
              clear hI
              go_wp2_with (fail)
              refine (nawake_any _).mono ?_
              rintro e w99 ⟨rfl, b99⟩
              go_wp2_with (fail)
              go_ret
              refine ⟨rfl, ?_⟩
              have hb := HS.out.2.2.2.2.trans (HG.out.mono HS.out.2.2.2.2.size)
              exact hb.trans (b99.mono hb.size)
  
end Go.Proofs.Ytalcikmngglplaa.natOwn
