/- The walk of the law FastJoins. -/
import Derived.Test.YtalcikmngglplaaDoorZFJn
import Derived.Test.YtalcikmngglplaaDoorZFAwake
import Derived.Test.YtalcikmngglplaaDoorP6
import Derived.OpenShut
namespace Go.Proofs.YtalcikmngglplaaDoor
open Go.RowKit Go.Shelf
set_option linter.unusedVariables false
set_option linter.unusedSimpArgs false
set_option maxRecDepth 10000

/-- the list that the law has made -/
def FJs (w W : World) (P : Option Addr) (lp cp : Nat) (ls : List (Option Addr × Nat × Nat)) (f : Nat → Nat) : Prop := ls.length = lp ∧ Rd W W.heap.size P (svs ls) ∧ J12 W ls f ∧ TabF W ∧ Below w.heap.size w W
theorem FJs.below {w W W' : World} {P : Option Addr} {lp cp : Nat} {ls : List (Option Addr × Nat × Nat)} {f : Nat → Nat} (h : FJs w W P lp cp ls f) (hb : Below W.heap.size W W') : FJs w W' P lp cp ls f :=
  ⟨h.1, (h.2.1.below hb).more hb.size, h.2.2.1.below hb, h.2.2.2.1.below hb, h.2.2.2.2.trans (hb.mono h.2.2.2.2.size)⟩
theorem FJs.small {w W : World} {P : Option Addr} {lp cp : Nat} {ls : List (Option Addr × Nat × Nat)} {f : Nat → Nat} (h : FJs w W P lp cp ls f) : ∀ s ∈ ls, s.2.1 ≤ 4096 := fun s hs => by
  obtain ⟨i, hi⟩ := List.getElem?_of_mem hs
  obtain ⟨zs, -, h2, -⟩ := h.2.2.1 i s hi
  omega
theorem svs_made (n : Nat) : (madeCells #[Value.slice none 0 0] n).toList = svs (List.replicate n (none, 0, 0)) := by
  refine List.ext_getElem (by simp [madeCells, svs]) (fun i h1 h2 => ?_)
  simp [madeCells, svs, Nat.mod_one]
theorem jzero (n : Nat) : ∀ M, jsum (fun _ => 0) n M = 0
  | 0 => rfl
  | M + 1 => by rw [jsum, jzero n M, Nat.zero_mul]
theorem nt_len {w w' : World} {v : Value} {x : Nat} (h : Nt w w' v x) (hx : x < Big) : ∃ A n c zs, v = .slice A n c ∧ Sl w' A n c zs ∧ Cn zs ∧ V zs = x ∧ n ≤ 4096 := by
  obtain ⟨n, zs, h1, h2, h3⟩ := h
  obtain ⟨A, c, rfl, hs⟩ := h1.sl
  refine ⟨A, n, c, zs, rfl, hs, h2, h3, ?_⟩
  have := (Cn_len hs.2.2.2.1 h2 Most).2 (by rw [h3]; exact hx)
  rw [hs.1] at this
  exact this
end Go.Proofs.YtalcikmngglplaaDoor
namespace Go.Proofs.YtalcikmngglplaaDoor.fastJoins
open Go.ChangeShapes Go.RowKit
set_option linter.unusedVariables false

set_option maxRecDepth 100000 in
set_option maxHeartbeats 8000000 in
theorem walk (w : World) (a0 : Option Addr) (n0 c0 : Nat) (ls0 : List (Option Addr × Nat × Nat)) (xss0 : List (List Nat)) (hx : Nl w a0 n0 c0 ls0 xss0) (hn0 : n0 ≤ 9223372036854775807) (a1 : Int) (w1 : (Lit.int .i64 a1).wf = true) (hT : TabF w) :
    Calls Tryd.prog 4 #[.slice a0 n0 c0, .int .i64 a1] w fun e w' => e = .returned (.bool true) ∧ Below w.heap.size w w' := by
  obtain ⟨i0, hi, hz0, hz1, hz2⟩ := info_parts infoNat
  have Hx := Lib.hid (And.intro hx hT)
  clear hx hT w1
  go_enter Tryd.func4, Tryd.ntmps4
  go_wp2_with (fail)
  go_loopw [5, 6] (fun v i wr => ∃ (k : Nat) (ls' : List (Option Addr × Nat × Nat)) (xss' : List (List Nat)), k ≤ 12 ∧ k ≤ n0 ∧ i = .int .i64 k ∧ wr.ownsRow w.heap.size 23 1 v k (svs ls') ∧ Hid (LiI w v k 12 ls' xss' wr)) (fun _ i _ => 12 - (intOf i).toNat)
  case atStart => exact ⟨0, [], [], by omega, by omega, rfl, World.ownsRow_nil _ _ _ _, rfl, rfl, fun i s xs h => by simp at h, Below.refl _ _⟩
  case round =>
    obtain ⟨k, ls', xss', hk, hkn, rfl, hown, hH⟩ := hrel
    by_cases hlt : k < n0 ∧ k < 12
    · obtain ⟨hlt, hlt2⟩ := hlt
      have hki : (k : Int) < n0 := by omega
      have hki2 : (k : Int) < 12 := by omega
      have hkl : k < ls0.length := by rw [Hx.out.1.1]; exact hlt
      have hkx : k < xss0.length := by rw [Hx.out.1.2.2.1]; exact hlt
      obtain ⟨b, o, rfl, _, hcx⟩ := (Hx.out.1.below hH.out.2.2.2).2.1.at (svs_get (List.getElem?_eq_getElem hkl))
      have Hs := Lib.hid ((Hx.out.1.below hH.out.2.2.2).2.2.2 k _ _ (List.getElem?_eq_getElem hkl) (List.getElem?_eq_getElem hkx))
      generalize ls0[k] = z at *
      generalize xss0[k] = xs at *
      obtain ⟨za, zn, zc⟩ := z
      clear hkl hkx
      obtain ⟨A1, c1, rfl, _⟩ := own_form hown
      go_wp2_with (fail)
      refine (few3_row za zn zc 12 xs wr Hs.out (by omega)).mono ?_
      rintro e w1 ⟨A2, q, c2, us, rfl, hm8, hs2, hus, hN, hb1⟩
      have hfr := hN.fresh
      have hown1 := own_below hown hb1 (Nat.le_refl _)
      have hsz := Nat.le_trans hH.out.2.2.2.size hb1.size
      have H1 := Lib.hid (And.intro hs2 (And.intro hfr (And.intro hb1 hm8)))
      clear hs2 hfr hb1 hN hus
      go_wp2_with (at_builtin; refine wpList_append_at _ rfl _ _ 37 rfl w.heap.size 23 i0 (.slice none 0 0) 24 Tryd.underlying37 hi hz0 hz1 hz2 rfl (.slice A1 k c1) k _ rfl (hown1.alloc _) _ (some ⟨w1.heap.size, 0, none⟩) 1 1 [.slice A2 q c2] rfl rfl (Rd.one _ _ _) (by omega) (by simp [Value.oneCell']) (by unfold maxLen; omega) (by omega) (by simp; omega) ?_)
      intro v3 w3 hown3 hgrow hblk
      have hb3 : Below w.heap.size w w3 := ((hH.out.2.2.2.trans (H1.out.2.2.1.mono hH.out.2.2.2.size)).alloc hsz _).grown hgrow (by simp; omega) (fun j hj => (hown1.lt j hj).1)
      have hold : ∀ j, (Value.slice A1 k c1).ownBlock = some j → j < wr.heap.size := fun j hj => (hown.lt j hj).2
      have HN : Hid (LiI w v3 (k + 1) 12 (ls' ++ [(A2, q, c2)]) (xss' ++ [us]) w3) := by
        obtain ⟨g1, g2, g3, g4⟩ := hH.out
        obtain ⟨f1, f2, f3, f4⟩ := H1.out
        refine ⟨by simp [g1], by simp [g2], fun i s ys e1 e2 => ?_, hb3⟩
        have hw1s : wr.heap.size ≤ w1.heap.size := f3.size
        have hw3s : w1.heap.size + 1 ≤ w3.heap.size := by have := hgrow.size; simpa using this
        have hal : ∀ {s : Option Addr × Nat × Nat} {ys : List Nat}, Sl w1 s.1 s.2.1 s.2.2 ys → Sl (w1.alloc (.cells #[.slice A2 q c2] 23)) s.1 s.2.1 s.2.2 ys := fun h => h.below ((Below.refl _ _).alloc (Nat.le_refl _) _)
        have hlow : ∀ b : Nat, b < w1.heap.size → some b ≠ (Value.slice A1 k c1).ownBlock → some b ≠ v3.ownBlock := fun b h1 h2 e => by
          rcases hblk with h | h
          · exact h2 (e.trans h)
          · rw [h] at e; injection e with e; omega
        rcases Nat.lt_or_ge i k with hik | hik
        · rw [List.getElem?_append_left (by omega)] at e1 e2
          obtain ⟨h1, h2, h3⟩ := g3 i s ys e1 e2
          refine ⟨(hal (h1.below f3)).grown hgrow fun a ea => (h3 a ea).2, h2, fun a ea => ?_⟩
          obtain ⟨h4, h5⟩ := h3 a ea
          exact ⟨by omega, hlow _ (by omega) h5⟩
        · have hik2 : i = k := by
            have := (List.getElem?_eq_some_iff.1 e1).1
            simp [g1] at this
            omega
          subst hik2
          rw [List.getElem?_append_right (by omega), g1, Nat.sub_self] at e1
          rw [List.getElem?_append_right (by omega), g2, Nat.sub_self] at e2
          simp at e1 e2
          subst e1 e2
          have hne : ∀ a, A2 = some a → some a.block ≠ (Value.slice A1 i c1).ownBlock := fun a ea e => by
            have := (f2 a ea).1
            have := hold _ e.symm
            omega
          exact ⟨(hal (s := (A2, q, c2)) f1).grown hgrow hne, f4, fun a ea => ⟨by have := (f2 a ea).2; omega, hlow _ (f2 a ea).2 (hne a ea)⟩⟩
      have hown4 : w3.ownsRow w.heap.size 23 1 v3 (k + 1) (svs (ls' ++ [(A2, q, c2)])) := by rw [svs_append]; exact hown3
      clear hown hown1 hown3 hgrow hblk hold hb3 hsz H1 Hs hH
      go_wp2_with (fail)
      go_roundw
      case rel => exact ⟨k + 1, _, _, by omega, by omega, by go_num, hown4, HN⟩
      case measure => simp [intOf]; omega
    · obtain ⟨A1, c1, rfl, _⟩ := own_form hown
      obtain ⟨g1, g2, g3, g4⟩ := hH.out
      have HF : Hid (FJs w wr A1 k c1 ls' (fun i => V (xss'.getD i []))) := ⟨g1, Rd.of_own hown, fun i s hi => by
        have hx2 : i < xss'.length := by have := (List.getElem?_eq_some_iff.1 hi).1; omega
        have h := g3 i s _ hi (List.getElem?_eq_getElem hx2)
        exact ⟨_, h.1, h.2.1, by show V xss'[i] = V (xss'.getD i []); rw [List.getD_eq_getElem?_getD, List.getElem?_eq_getElem hx2]; rfl⟩, Hx.out.2.below g4, g4⟩
      generalize (fun i => V (xss'.getD i [])) = f at HF
      clear g1 g2 g3 g4 hown hH
      rcases (show (¬ k < n0) ∨ (k < n0 ∧ ¬ k < 12) by omega) with h1 | ⟨h1, h2⟩
      have hki : ¬ (k : Int) < (n0 : Int) := by omega
      focus
        go_wp2_with (fail)
      rotate_left
      have hki : (k : Int) < (n0 : Int) := by omega
      have hki2 : ¬ (k : Int) < 12 := by omega
      focus
        go_wp2_with (fail)
      rotate_left
      all_goals
        clear hki
        go_loopw [1, 7, 8, 9, 10] (fun bv kv _ _ _ wr => ∃ (q : Nat) (b : Int), q ≤ 2 ∧ kv = .int .i64 q ∧ bv = .int .i64 b ∧ Hid (FJs w wr A1 k c1 ls' f)) (fun _ kv _ _ _ _ => 2 - (intOf kv).toNat)
        case atStart => exact ⟨0, a1, by omega, rfl, rfl, HF⟩
        case round =>
          clear HF
          obtain ⟨q, b, hq, rfl, rfl, H⟩ := hrel
          by_cases hlt : q < 2
          · have hqi : (q : Int) < 2 := by omega
            obtain ⟨s, hs⟩ : ∃ s, (IntKind.u64.wrap b % 9).toNat = s := ⟨_, rfl⟩
            have hw := IntKind.wrap_u64 b
            have hs8 : s ≤ 8 := by omega
            have hs1 : IntKind.u64.wrap b % 9 = (s : Int) := by omega
            have hs2 : (IntKind.u64.wrap b).tmod 9 = (s : Int) := by rw [Int.tmod_eq_emod_of_nonneg (by rw [hw]; omega)]; exact hs1
            clear hs hw
            by_cases h1 : b < 1
            · go_wp2_with (fail)
              refine (FJoin_arg ls' A1 k c1 b _ H.out.1 (by omega) (Or.inl h1) H.out.2.1 H.out.small).mono ?_
              rintro e w4 ⟨rfl, hb4⟩
              have H4 := Lib.hid (H.out.below hb4)
              clear hb4 H
              go_wp2_with (fail)
              refine ⟨⟨q + 1, 1 + (s : Int), by omega, by go_num, rfl, H4⟩, ?_⟩
              simp [intOf]; omega
            by_cases h2 : 1000 < b
            · go_wp2_with (fail)
              refine (FJoin_arg ls' A1 k c1 b _ H.out.1 (by omega) (Or.inr (Or.inl h2)) H.out.2.1 H.out.small).mono ?_
              rintro e w4 ⟨rfl, hb4⟩
              have H4 := Lib.hid (H.out.below hb4)
              clear hb4 H
              go_wp2_with (fail)
              refine ⟨⟨q + 1, 1 + (s : Int), by omega, by go_num, rfl, H4⟩, ?_⟩
              simp [intOf]; omega
            obtain ⟨m, rfl⟩ := Int.eq_ofNat_of_zero_le (show 0 ≤ b by omega)
            have hm1 : 1 ≤ m := by omega
            have hm2 : m ≤ 1000 := by omega
            have hm9 : (m : Int) % 9 = (s : Int) := by have hw := IntKind.wrap_u64 (m : Int); omega
            go_wp2_with (fail)
            refine (Join_ok ls' f A1 k c1 m _ H.out.1 (by omega) hm1 hm2 H.out.2.1 H.out.2.2.1.jl).mono ?_
            rintro e w4 ⟨⟨v, rfl, hN, hbig⟩ | ⟨rfl, hbig⟩, hb4⟩
            · obtain ⟨A4, n4, c4, z4, rfl, hs4, hc4, hv4, hn4⟩ := nt_len hN hbig
              have H4 := Lib.hid (And.intro (H.out.below hb4) (And.intro hs4 (And.intro hc4 (And.intro hv4 hbig))))
              clear hN hs4 hc4 hv4 hbig hb4 H
              go_wp2_with (fail)
              refine (RJoin3_ok ls' f A1 k c1 m _ H4.out.1.1 (by omega) hm1 hm2 H4.out.1.2.1 H4.out.1.2.2.1).mono ?_
              rintro e w5 ⟨A5, n5, c5, z5, rfl, hN5, hc5, hv5, hb5⟩
              have hs5 := (hN5.sc hc5).1
              have hn5 : n5 ≤ 4096 := by
                have h := (Cn_len hs5.2.2.2.1 hc5 Most).2 (by rw [hv5]; exact H4.out.2.2.2.2)
                rw [hs5.1] at h
                exact h
              have hn5i : ¬ (4096 : Int) < (n5 : Int) := by omega
              have H5 := Lib.hid (And.intro (H4.out.1.below hb5) (And.intro (H4.out.2.1.below hb5) (And.intro H4.out.2.2.1 (And.intro hs5 (H4.out.2.2.2.1.trans hv5.symm)))))
              clear hN5 hc5 hv5 hb5 hs5 H4
              go_wp2_with (fail)
              refine (R2Large_ok _ _ _ _).mono ?_
              rintro e w6 ⟨rfl, rfl⟩
              rw [show decide ((4096 : Int) < (n5 : Int)) = false from decide_eq_false (by omega)]
              go_wp2_with (fail)
              refine (R2Large_ok _ _ _ _).mono ?_
              rintro e w6 ⟨rfl, rfl⟩
              rw [show decide ((4096 : Int) < (n5 : Int)) = false from decide_eq_false (by omega)]
              go_wp2_with (fail)
              refine (Is_ok A4 A5 n4 n5 c4 c5 z4 z5 _ hn4 hn5 H5.out.2.1 H5.out.2.2.2.1 H5.out.2.2.1 H5.out.2.2.2.2).mono ?_
              rintro e w6 ⟨rfl, hb6⟩
              have H6 := Lib.hid (H5.out.1.below hb6)
              clear hb6 H5
              go_wp2_with (fail)
              refine ⟨⟨q + 1, 1 + (s : Int), by omega, by go_num, rfl, H6⟩, ?_⟩
              simp [intOf]; omega
            · have H4 := Lib.hid (And.intro (H.out.below hb4) hbig)
              clear hbig hb4 H
              go_wp2_with (fail)
              refine (RJoin3_ok ls' f A1 k c1 m _ H4.out.1.1 (by omega) hm1 hm2 H4.out.1.2.1 H4.out.1.2.2.1).mono ?_
              rintro e w5 ⟨A5, n5, c5, z5, rfl, hN5, hc5, hv5, hb5⟩
              have hs5 := (hN5.sc hc5).1
              have hn5i : (4096 : Int) < (n5 : Int) := by
                have h : ¬ z5.length ≤ Most := fun h => absurd ((Cn_len hs5.2.2.2.1 hc5 Most).1 h) (by rw [hv5]; exact Nat.not_lt.2 H4.out.2)
                rw [hs5.1] at h
                have h2 : ¬ n5 ≤ 4096 := h
                omega
              have H5 := Lib.hid (H4.out.1.below hb5)
              clear hN5 hc5 hv5 hb5 hs5 H4
              go_wp2_with (fail)
              refine (R2Large_ok _ _ _ _).mono ?_
              rintro e w6 ⟨rfl, rfl⟩
              rw [show decide ((4096 : Int) < (n5 : Int)) = true from decide_eq_true (by omega)]
              go_wp2_with (fail)
              refine (R2Large_ok _ _ _ _).mono ?_
              rintro e w6 ⟨rfl, rfl⟩
              rw [show decide ((4096 : Int) < (n5 : Int)) = true from decide_eq_true (by omega)]
              go_wp2_with (fail)
              refine ⟨⟨q + 1, 1 + (s : Int), by omega, by go_num, rfl, H5⟩, ?_⟩
              simp [intOf]; omega
          · have hqi : ¬ (q : Int) < 2 := by omega
            go_wp2_with (at_make; refine wpList_make_full _ rfl _ _ 37 rfl wr.heap.size 23 i0 (.slice none 0 0) 1 Tryd.underlying37 hi hz0 hz1 .i64 .i64 _ _ 5001 rfl rfl rfl rfl (by rw [hz2]; omega) (by unfold maxLen; omega) (Nat.le_refl _) ?_)
            intro w4 hown hgrow
            have hb4 := below_of_grown hgrow (Nat.le_refl _)
            rw [svs_made] at hown
            have H4 := Lib.hid (And.intro (H.out.below hb4) (Rd.of_own hown))
            clear hown hgrow hb4 H
            go_wp2_with (fail)
            refine (FJoin_arg (List.replicate 5001 (none, 0, 0)) _ 5001 5001 1 _ List.length_replicate (by omega) (Or.inr (Or.inr (by omega))) H4.out.2 (fun s hs => by rw [List.eq_of_mem_replicate hs]; exact Nat.zero_le _)).mono ?_
            rintro e w5 ⟨rfl, hb5⟩
            have H5 := Lib.hid (H4.out.1.below hb5)
            clear hb5 H4
            go_wp2_with (at_make; refine wpList_make_full _ rfl _ _ 37 rfl w5.heap.size 23 i0 (.slice none 0 0) 1 Tryd.underlying37 hi hz0 hz1 .i64 .i64 _ _ 5000 rfl rfl rfl rfl (by rw [hz2]; omega) (by unfold maxLen; omega) (Nat.le_refl _) ?_)
            intro w6 hown hgrow
            have hb6 := below_of_grown hgrow (Nat.le_refl _)
            rw [svs_made] at hown
            have H6 := Lib.hid (And.intro (H5.out.below hb6) (Rd.of_own hown))
            clear hown hgrow hb6 H5
            go_wp2_with (fail)
            refine (Join_ok (List.replicate 5000 (none, 0, 0)) (fun _ => 0) _ 5000 5000 1000 _ List.length_replicate (by omega) (by omega) (by omega) H6.out.2 (fun i s hs => by
              have := List.eq_of_mem_replicate (List.mem_of_getElem? hs)
              subst this
              exact ⟨[], (Sc.nil _).1, Nat.zero_le _, rfl⟩)).mono ?_
            rintro e w7 ⟨⟨v, rfl, hN, hbig⟩ | ⟨rfl, hbig⟩, hb7⟩
            · rw [jzero] at hN
              obtain ⟨A7, n7, c7, z7, rfl, hs7, hc7, hv7, -⟩ := nt_len hN (by rw [jzero] at hbig; exact hbig)
              have hn7 : n7 = 0 := by
                have := (V_zero hs7.2.2.2.1 hc7).1 hv7
                rw [← hs7.1, this]; rfl
              subst hn7
              have H7 := Lib.hid (H6.out.1.below hb7)
              clear hN hs7 hc7 hv7 hbig hb7 H6
              go_wp2_with (fail)
              refine (fawake_any _ H7.out.2.2.2.1).mono ?_
              rintro e w8 ⟨rfl, hb8⟩
              have H8 := Lib.hid (H7.out.below hb8)
              clear hb8 H7
              go_wp2_with (fail)
              go_ret
              exact ⟨rfl, H8.out.2.2.2.2⟩
            · rw [jzero] at hbig
              exact absurd hbig (Nat.not_le.2 (Nat.pow_pos B64_pos))
end Go.Proofs.YtalcikmngglplaaDoor.fastJoins
