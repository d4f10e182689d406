/- The contract of fast.fromThirds. -/
import Derived.Test.YthpgdpkemnhneaaGreatDoorP9
import Derived.Deep.MidRow
namespace Go.Proofs.YthpgdpkemnhneaaGreatDoor
open Go.RowKit Go.Shelf
set_option linter.unusedVariables false
set_option linter.unusedSimpArgs false
set_option maxRecDepth 10000

abbrev ftT (a : Sn) (p : Nat) : Tm := ⟨a.s, a.A, a.n, a.c, a.xs, 1, p⟩
/-- the terms of the first k that are not 0, each n words above the one before -/
def FT (l : List Sn) (n k : Nat) : List Tm := (List.range k).flatMap fun i => match l[i]? with
  | some a => if a.n = 0 then [] else [ftT a (n * i)]
  | none => []
theorem FT_succ {l : List Sn} {n k : Nat} {x : Sn} (h : l[k]? = some x) : FT l n (k + 1) = FT l n k ++ (if x.n = 0 then [] else [ftT x (n * k)]) := by
  simp [FT, List.range_succ, h]
theorem FT_len {l : List Sn} {n : Nat} : ∀ k, (FT l n k).length ≤ k
  | 0 => by simp [FT]
  | k + 1 => by
    have ih := FT_len (l := l) (n := n) k
    cases h : l[k]? with
    | none => simp [FT, List.range_succ, h] at ih ⊢; omega
    | some x => rw [FT_succ h, List.length_append]; split <;> simp <;> omega
theorem FT_mem {l : List Sn} {n k : Nat} {t : Tm} (h : t ∈ FT l n k) : ∃ i, i < k ∧ ∃ a, l[i]? = some a ∧ t = ftT a (n * i) := by
  rw [FT, List.mem_flatMap] at h
  obtain ⟨i, hi, ht⟩ := h
  cases h : l[i]? with
  | none => rw [h] at ht; cases ht
  | some a =>
    rw [h] at ht
    simp only at ht
    split at ht
    · cases ht
    · exact ⟨i, by simpa using hi, a, h, by simpa using ht⟩
theorem FT_wsum {l : List Sn} {n : Nat} : ∀ k, wsum (FT l n k) ≤ k
  | 0 => by simp [FT, wsum]
  | k + 1 => by
    have ih := FT_wsum (l := l) (n := n) k
    cases h : l[k]? with
    | none => simp [FT, List.range_succ, h, wsum] at ih ⊢; omega
    | some x =>
      rw [FT_succ h]
      split
      · simp; omega
      · simp [wsum] at ih ⊢; omega
theorem tsum_app (ts us : List Tm) : tsum (ts ++ us) = tsum ts + tsum us := by simp [tsum]
theorem FT_sum {l : List Sn} {n k : Nat} {x : Sn} (h : l[k]? = some x) (h0 : x.n = 0 → x.v = 0) : tsum (FT l n (k + 1)) = tsum (FT l n k) + x.v * ((B64 ^ (n * k) : Nat) : Int) := by
  rw [FT_succ h, tsum_app]
  congr 1
  split
  · rename_i e
    rw [h0 e]; simp [tsum]
  · simp [tsum, tval, Sn.v]
/-- the box of fromThirds's argument -/
def FB (w W : World) (a b c d e : Sn) : Prop := Bk W w.heap.size (snL a b c d e) ∧ Below w.heap.size w W ∧ w.heap.size < W.heap.size
theorem FB.grown {w W W' : World} {a b c d e : Sn} (h : FB w W a b c d e) (hb : Below (w.heap.size + 1) W W') : FB w W' a b c d e :=
  ⟨h.1.below hb (by omega), h.2.1.trans (hb.mono (by omega)), Nat.lt_of_lt_of_le h.2.2 hb.size⟩

set_option maxHeartbeats 4000000 in
theorem fromThirds_ok (a b c d e : Sn) (n : Nat) (w : World) (ha : a.ok w) (hb : b.ok w) (hc : c.ok w) (hd : d.ok w) (he : e.ok w) (hn : n ≤ 2000) :
    Calls Tryz.prog 75 #[snV a b c d e, .int .i64 (n : Int)] w fun z w' => SumW w w' z (tsum (FT [a, b, c, d, e] n 5)) := by
  obtain ⟨i0, hi, hz0, hz1, hz2⟩ := info_parts Tryz.info61
  have Hx := Lib.hid (show ∀ (i : Nat) (x : Sn), [a, b, c, d, e][i]? = some x → x.ok w by
    intro i x hx
    have hm := List.mem_of_getElem? hx
    simp only [List.mem_cons, List.not_mem_nil, or_false] at hm
    rcases hm with h | h | h | h | h <;> (rw [h]; assumption))
  clear ha hb hc hd he
  obtain ⟨l, hl⟩ : ∃ l, [a, b, c, d, e] = l := ⟨_, rfl⟩
  have HL := Lib.hid hl
  rw [hl] at Hx ⊢
  clear hl
  go_enter Tryz.func75, Tryz.ntmps75
  go_wp2_with (at_make; refine wpList_make_own _ rfl _ _ 55 rfl (w.heap.size + 1) 61 i0 (.agg #[.bool false, .slice none 0 0, .int .i64 0, .int .i64 0]) 4 Tryz.underlying55 hi hz0 hz1 .i64 .i64 _ 5 rfl rfl rfl (by rw [hz2]; omega) (by unfold maxLen; omega) (by simp only [World.size_alloc]; omega) ?_)
  intro w1 hown hgrow
  have HW : Hid (FB w w1 a b c d e) := by
    have h := below_of_grown hgrow (Nat.le_refl _)
    simp only [World.size_alloc] at h
    exact ⟨(Bk.new w (snL a b c d e) 72).below h (by omega), ((Below.refl _ w).alloc (Nat.le_refl _) _).trans (h.mono (by omega)), by have := h.size; simp at this; omega⟩
  have HO := Lib.hid hown
  have HR := Lib.hid HW.out.1.range
  clear hown hgrow
  go_wp2_with (first | (refine wpList_load_mid rfl 72 _ rfl w.heap.size 0 rfl (snL a b c d e) _ HR.out Tryz.underlying72 rfl (by kernel_rfl) ?_))
  clear HR
  go_loopw [5, 6, 7, 10] (fun v _ _ iv wr => ∃ k : Nat, k ≤ 5 ∧ iv = .int .i64 k ∧ Hid (wr.ownsRow (w.heap.size + 1) 61 4 v (FT l n k).length (tvs (FT l n k)) ∧ FB w wr a b c d e)) (fun _ _ _ iv _ => 5 - (intOf iv).toNat)
  case atStart => exact ⟨0, by omega, rfl, HO.out, HW.out⟩
  case round =>
    clear HW HO
    obtain ⟨k, hk, rfl, H⟩ := hrel
    rcases (show k = 0 ∨ k = 1 ∨ k = 2 ∨ k = 3 ∨ k = 4 ∨ k = 5 by omega) with rfl | rfl | rfl | rfl | rfl | rfl
    · -- round 0
      have hx : l[0]? = some a := by rw [← HL.out]; rfl
      by_cases h0 : a.n = 0
      · have hb1 : ¬ (0 : Int) < (a.n : Int) := by omega
        have HN : Hid (wr.ownsRow (w.heap.size + 1) 61 4 u5 (FT l n 1).length (tvs (FT l n 1)) ∧ FB w (wr.alloc (.cells #[.bool a.s, .slice a.A a.n a.c] 59)) a b c d e) := by
          have e1 : FT l n 1 = FT l n 0 := by rw [FT_succ hx, if_pos h0, List.append_nil]
          rw [e1]
          exact ⟨H.out.1, H.out.2.grown ((Below.refl _ _).alloc (by have := H.out.2.2.2; omega) _)⟩
        have HN2 := Lib.hid (And.intro (HN.out.1.alloc (.cells #[.bool a.s, .slice a.A a.n a.c] 59)) HN.out.2)
        simp only [h0] at HN2
        clear H hx HN
        go_wp2_with (refine wpList_index rfl rfl (.agg #[.bool a.s, .slice a.A a.n a.c]) (fun w => by kernel_rfl) ?_)
        refine ⟨⟨1, by omega, rfl, HN2⟩, ?_⟩
        simp [intOf]
      · have hb1 : (0 : Int) < (a.n : Int) := by omega
        have hb2 : 0 < a.n := by omega
        have hl5 : (FT l n 0).length ≤ 5 := Nat.le_trans (FT_len _) (by omega)
        have hws := H.out.2.2.2
        have hnews := World.news_of_block (heap_alloc_new (wr.alloc (.cells #[.bool a.s, .slice a.A a.n a.c] 59)) (.cells (tcs (ftT a 0)).toArray 61))
        simp only [World.size_alloc] at hnews
        have Hnews := Lib.hid hnews
        clear hnews
        go_wp2_with (first | (refine wpList_index rfl rfl (.agg #[.bool a.s, .slice a.A a.n a.c]) (fun w => by kernel_rfl) ?_) | (at_builtin; refine wpList_append_own_at _ rfl (.tmp 18) (.tmp 24) 55 rfl (w.heap.size + 1) 61 i0 (.agg #[.bool false, .slice none 0 0, .int .i64 0, .int .i64 0]) 4 48 Tryz.underlying55 hi hz0 hz1 hz2 rfl (by omega) u5 _ _ rfl ((H.out.1.alloc _).alloc _) ⟨wr.heap.size + 1, 0, none⟩ 1 1 (tcs (ftT a 0)) rfl rfl Hnews.out (by simp [tcs, Value.oneCell']) (by unfold maxLen; omega) (by omega) (by simp; omega) ?_))
        intro v' w2 hown2 hgrow2 hnil2 hblk2
        have HN : Hid (w2.ownsRow (w.heap.size + 1) 61 4 v' (FT l n 1).length (tvs (FT l n 1)) ∧ FB w w2 a b c d e) := by
          rw [FT_succ hx, if_neg h0, Nat.mul_zero n, tvs_app, List.length_append, List.length_singleton]
          exact ⟨hown2, H.out.2.grown ((((Below.refl _ wr).alloc (by omega) _).alloc (by simp; omega) _).grown hgrow2 (by simp; omega) (fun j hj => (H.out.1.lt j hj).1))⟩
        clear h0 H hown2 hgrow2 hnil2 hblk2 hx Hnews
        go_wp2_with (fail)
        refine ⟨⟨1, by omega, rfl, HN⟩, ?_⟩
        simp [intOf]
    · -- round 1
      have hx : l[1]? = some b := by rw [← HL.out]; rfl
      by_cases h0 : b.n = 0
      · have hb1 : ¬ (0 : Int) < (b.n : Int) := by omega
        have HN : Hid (wr.ownsRow (w.heap.size + 1) 61 4 u5 (FT l n 2).length (tvs (FT l n 2)) ∧ FB w (wr.alloc (.cells #[.bool b.s, .slice b.A b.n b.c] 59)) a b c d e) := by
          have e1 : FT l n 2 = FT l n 1 := by rw [FT_succ hx, if_pos h0, List.append_nil]
          rw [e1]
          exact ⟨H.out.1, H.out.2.grown ((Below.refl _ _).alloc (by have := H.out.2.2.2; omega) _)⟩
        have HN2 := Lib.hid (And.intro (HN.out.1.alloc (.cells #[.bool b.s, .slice b.A b.n b.c] 59)) HN.out.2)
        simp only [h0] at HN2
        clear H hx HN
        go_wp2_with (refine wpList_index rfl rfl (.agg #[.bool b.s, .slice b.A b.n b.c]) (fun w => by kernel_rfl) ?_)
        refine ⟨⟨2, by omega, rfl, HN2⟩, ?_⟩
        simp [intOf]
      · have hb1 : (0 : Int) < (b.n : Int) := by omega
        have hb2 : 0 < b.n := by omega
        have hl5 : (FT l n 1).length ≤ 5 := Nat.le_trans (FT_len _) (by omega)
        have hws := H.out.2.2.2
        have hnews := World.news_of_block (heap_alloc_new (wr.alloc (.cells #[.bool b.s, .slice b.A b.n b.c] 59)) (.cells (tcs (ftT b n)).toArray 61))
        simp only [World.size_alloc] at hnews
        have Hnews := Lib.hid hnews
        clear hnews
        go_wp2_with (first | (refine wpList_index rfl rfl (.agg #[.bool b.s, .slice b.A b.n b.c]) (fun w => by kernel_rfl) ?_) | (at_builtin; refine wpList_append_own_at _ rfl (.tmp 18) (.tmp 24) 55 rfl (w.heap.size + 1) 61 i0 (.agg #[.bool false, .slice none 0 0, .int .i64 0, .int .i64 0]) 4 48 Tryz.underlying55 hi hz0 hz1 hz2 rfl (by omega) u5 _ _ rfl ((H.out.1.alloc _).alloc _) ⟨wr.heap.size + 1, 0, none⟩ 1 1 (tcs (ftT b n)) rfl rfl Hnews.out (by simp [tcs, Value.oneCell']) (by unfold maxLen; omega) (by omega) (by simp; omega) ?_))
        intro v' w2 hown2 hgrow2 hnil2 hblk2
        have HN : Hid (w2.ownsRow (w.heap.size + 1) 61 4 v' (FT l n 2).length (tvs (FT l n 2)) ∧ FB w w2 a b c d e) := by
          rw [FT_succ hx, if_neg h0, Nat.mul_one n, tvs_app, List.length_append, List.length_singleton]
          exact ⟨hown2, H.out.2.grown ((((Below.refl _ wr).alloc (by omega) _).alloc (by simp; omega) _).grown hgrow2 (by simp; omega) (fun j hj => (H.out.1.lt j hj).1))⟩
        clear h0 H hown2 hgrow2 hnil2 hblk2 hx Hnews
        go_wp2_with (fail)
        refine ⟨⟨2, by omega, rfl, HN⟩, ?_⟩
        simp [intOf]
    · -- round 2
      have hx : l[2]? = some c := by rw [← HL.out]; rfl
      obtain ⟨q, hq⟩ : ∃ q, n * 2 = q := ⟨_, rfl⟩
      have hq1 : (n : Int) * 2 = (q : Int) := by omega
      have hq2 : q ≤ 10000 := by omega
      have Hq := Lib.hid hq
      clear hq
      by_cases h0 : c.n = 0
      · have hb1 : ¬ (0 : Int) < (c.n : Int) := by omega
        have HN : Hid (wr.ownsRow (w.heap.size + 1) 61 4 u5 (FT l n 3).length (tvs (FT l n 3)) ∧ FB w (wr.alloc (.cells #[.bool c.s, .slice c.A c.n c.c] 59)) a b c d e) := by
          have e1 : FT l n 3 = FT l n 2 := by rw [FT_succ hx, if_pos h0, List.append_nil]
          rw [e1]
          exact ⟨H.out.1, H.out.2.grown ((Below.refl _ _).alloc (by have := H.out.2.2.2; omega) _)⟩
        have HN2 := Lib.hid (And.intro (HN.out.1.alloc (.cells #[.bool c.s, .slice c.A c.n c.c] 59)) HN.out.2)
        simp only [h0] at HN2
        clear H hx HN
        go_wp2_with (refine wpList_index rfl rfl (.agg #[.bool c.s, .slice c.A c.n c.c]) (fun w => by kernel_rfl) ?_)
        refine ⟨⟨3, by omega, rfl, HN2⟩, ?_⟩
        simp [intOf]
      · have hb1 : (0 : Int) < (c.n : Int) := by omega
        have hb2 : 0 < c.n := by omega
        have hl5 : (FT l n 2).length ≤ 5 := Nat.le_trans (FT_len _) (by omega)
        have hws := H.out.2.2.2
        have hnews := World.news_of_block (heap_alloc_new (wr.alloc (.cells #[.bool c.s, .slice c.A c.n c.c] 59)) (.cells (tcs (ftT c q)).toArray 61))
        simp only [World.size_alloc] at hnews
        have Hnews := Lib.hid hnews
        clear hnews
        go_wp2_with (first | (refine wpList_index rfl rfl (.agg #[.bool c.s, .slice c.A c.n c.c]) (fun w => by kernel_rfl) ?_) | (at_builtin; refine wpList_append_own_at _ rfl (.tmp 18) (.tmp 24) 55 rfl (w.heap.size + 1) 61 i0 (.agg #[.bool false, .slice none 0 0, .int .i64 0, .int .i64 0]) 4 48 Tryz.underlying55 hi hz0 hz1 hz2 rfl (by omega) u5 _ _ rfl ((H.out.1.alloc _).alloc _) ⟨wr.heap.size + 1, 0, none⟩ 1 1 (tcs (ftT c q)) rfl rfl Hnews.out (by simp [tcs, Value.oneCell']) (by unfold maxLen; omega) (by omega) (by simp; omega) ?_))
        intro v' w2 hown2 hgrow2 hnil2 hblk2
        have HN : Hid (w2.ownsRow (w.heap.size + 1) 61 4 v' (FT l n 3).length (tvs (FT l n 3)) ∧ FB w w2 a b c d e) := by
          rw [FT_succ hx, if_neg h0, Hq.out, tvs_app, List.length_append, List.length_singleton]
          exact ⟨hown2, H.out.2.grown ((((Below.refl _ wr).alloc (by omega) _).alloc (by simp; omega) _).grown hgrow2 (by simp; omega) (fun j hj => (H.out.1.lt j hj).1))⟩
        clear h0 H hown2 hgrow2 hnil2 hblk2 hx Hnews
        go_wp2_with (fail)
        refine ⟨⟨3, by omega, rfl, HN⟩, ?_⟩
        simp [intOf]
    · -- round 3
      have hx : l[3]? = some d := by rw [← HL.out]; rfl
      obtain ⟨q, hq⟩ : ∃ q, n * 3 = q := ⟨_, rfl⟩
      have hq1 : (n : Int) * 3 = (q : Int) := by omega
      have hq2 : q ≤ 10000 := by omega
      have Hq := Lib.hid hq
      clear hq
      by_cases h0 : d.n = 0
      · have hb1 : ¬ (0 : Int) < (d.n : Int) := by omega
        have HN : Hid (wr.ownsRow (w.heap.size + 1) 61 4 u5 (FT l n 4).length (tvs (FT l n 4)) ∧ FB w (wr.alloc (.cells #[.bool d.s, .slice d.A d.n d.c] 59)) a b c d e) := by
          have e1 : FT l n 4 = FT l n 3 := by rw [FT_succ hx, if_pos h0, List.append_nil]
          rw [e1]
          exact ⟨H.out.1, H.out.2.grown ((Below.refl _ _).alloc (by have := H.out.2.2.2; omega) _)⟩
        have HN2 := Lib.hid (And.intro (HN.out.1.alloc (.cells #[.bool d.s, .slice d.A d.n d.c] 59)) HN.out.2)
        simp only [h0] at HN2
        clear H hx HN
        go_wp2_with (refine wpList_index rfl rfl (.agg #[.bool d.s, .slice d.A d.n d.c]) (fun w => by kernel_rfl) ?_)
        refine ⟨⟨4, by omega, rfl, HN2⟩, ?_⟩
        simp [intOf]
      · have hb1 : (0 : Int) < (d.n : Int) := by omega
        have hb2 : 0 < d.n := by omega
        have hl5 : (FT l n 3).length ≤ 5 := Nat.le_trans (FT_len _) (by omega)
        have hws := H.out.2.2.2
        have hnews := World.news_of_block (heap_alloc_new (wr.alloc (.cells #[.bool d.s, .slice d.A d.n d.c] 59)) (.cells (tcs (ftT d q)).toArray 61))
        simp only [World.size_alloc] at hnews
        have Hnews := Lib.hid hnews
        clear hnews
        go_wp2_with (first | (refine wpList_index rfl rfl (.agg #[.bool d.s, .slice d.A d.n d.c]) (fun w => by kernel_rfl) ?_) | (at_builtin; refine wpList_append_own_at _ rfl (.tmp 18) (.tmp 24) 55 rfl (w.heap.size + 1) 61 i0 (.agg #[.bool false, .slice none 0 0, .int .i64 0, .int .i64 0]) 4 48 Tryz.underlying55 hi hz0 hz1 hz2 rfl (by omega) u5 _ _ rfl ((H.out.1.alloc _).alloc _) ⟨wr.heap.size + 1, 0, none⟩ 1 1 (tcs (ftT d q)) rfl rfl Hnews.out (by simp [tcs, Value.oneCell']) (by unfold maxLen; omega) (by omega) (by simp; omega) ?_))
        intro v' w2 hown2 hgrow2 hnil2 hblk2
        have HN : Hid (w2.ownsRow (w.heap.size + 1) 61 4 v' (FT l n 4).length (tvs (FT l n 4)) ∧ FB w w2 a b c d e) := by
          rw [FT_succ hx, if_neg h0, Hq.out, tvs_app, List.length_append, List.length_singleton]
          exact ⟨hown2, H.out.2.grown ((((Below.refl _ wr).alloc (by omega) _).alloc (by simp; omega) _).grown hgrow2 (by simp; omega) (fun j hj => (H.out.1.lt j hj).1))⟩
        clear h0 H hown2 hgrow2 hnil2 hblk2 hx Hnews
        go_wp2_with (fail)
        refine ⟨⟨4, by omega, rfl, HN⟩, ?_⟩
        simp [intOf]
    · -- round 4
      have hx : l[4]? = some e := by rw [← HL.out]; rfl
      obtain ⟨q, hq⟩ : ∃ q, n * 4 = q := ⟨_, rfl⟩
      have hq1 : (n : Int) * 4 = (q : Int) := by omega
      have hq2 : q ≤ 10000 := by omega
      have Hq := Lib.hid hq
      clear hq
      by_cases h0 : e.n = 0
      · have hb1 : ¬ (0 : Int) < (e.n : Int) := by omega
        have HN : Hid (wr.ownsRow (w.heap.size + 1) 61 4 u5 (FT l n 5).length (tvs (FT l n 5)) ∧ FB w (wr.alloc (.cells #[.bool e.s, .slice e.A e.n e.c] 59)) a b c d e) := by
          have e1 : FT l n 5 = FT l n 4 := by rw [FT_succ hx, if_pos h0, List.append_nil]
          rw [e1]
          exact ⟨H.out.1, H.out.2.grown ((Below.refl _ _).alloc (by have := H.out.2.2.2; omega) _)⟩
        have HN2 := Lib.hid (And.intro (HN.out.1.alloc (.cells #[.bool e.s, .slice e.A e.n e.c] 59)) HN.out.2)
        simp only [h0] at HN2
        clear H hx HN
        go_wp2_with (refine wpList_index rfl rfl (.agg #[.bool e.s, .slice e.A e.n e.c]) (fun w => by kernel_rfl) ?_)
        refine ⟨⟨5, by omega, rfl, HN2⟩, ?_⟩
        simp [intOf]
      · have hb1 : (0 : Int) < (e.n : Int) := by omega
        have hb2 : 0 < e.n := by omega
        have hl5 : (FT l n 4).length ≤ 5 := Nat.le_trans (FT_len _) (by omega)
        have hws := H.out.2.2.2
        have hnews := World.news_of_block (heap_alloc_new (wr.alloc (.cells #[.bool e.s, .slice e.A e.n e.c] 59)) (.cells (tcs (ftT e q)).toArray 61))
        simp only [World.size_alloc] at hnews
        have Hnews := Lib.hid hnews
        clear hnews
        go_wp2_with (first | (refine wpList_index rfl rfl (.agg #[.bool e.s, .slice e.A e.n e.c]) (fun w => by kernel_rfl) ?_) | (at_builtin; refine wpList_append_own_at _ rfl (.tmp 18) (.tmp 24) 55 rfl (w.heap.size + 1) 61 i0 (.agg #[.bool false, .slice none 0 0, .int .i64 0, .int .i64 0]) 4 48 Tryz.underlying55 hi hz0 hz1 hz2 rfl (by omega) u5 _ _ rfl ((H.out.1.alloc _).alloc _) ⟨wr.heap.size + 1, 0, none⟩ 1 1 (tcs (ftT e q)) rfl rfl Hnews.out (by simp [tcs, Value.oneCell']) (by unfold maxLen; omega) (by omega) (by simp; omega) ?_))
        intro v' w2 hown2 hgrow2 hnil2 hblk2
        have HN : Hid (w2.ownsRow (w.heap.size + 1) 61 4 v' (FT l n 5).length (tvs (FT l n 5)) ∧ FB w w2 a b c d e) := by
          rw [FT_succ hx, if_neg h0, Hq.out, tvs_app, List.length_append, List.length_singleton]
          exact ⟨hown2, H.out.2.grown ((((Below.refl _ wr).alloc (by omega) _).alloc (by simp; omega) _).grown hgrow2 (by simp; omega) (fun j hj => (H.out.1.lt j hj).1))⟩
        clear h0 H hown2 hgrow2 hnil2 hblk2 hx Hnews
        go_wp2_with (fail)
        refine ⟨⟨5, by omega, rfl, HN⟩, ?_⟩
        simp [intOf]
    · obtain ⟨A, c', rfl⟩ := own_slice H.out.1
      obtain ⟨m, hm⟩ : ∃ m, (FT l n 5).length = m := ⟨_, rfl⟩
      have hm5 : m ≤ 5 := by rw [← hm]; exact FT_len _
      rw [hm] at H ⊢
      have hmem : ∀ x ∈ FT l n 5, Sl wr x.A x.n x.c x.xs ∧ x.pl + x.n ≤ 50000 := fun x hx => by
        obtain ⟨i, hi5, y, hy, rfl⟩ := FT_mem hx
        have h1 := (Hx.out i y hy).below H.out.2.2.1
        refine ⟨h1.1, ?_⟩
        have h2 := h1.2
        have h3 : n * i ≤ 2000 * 4 := Nat.mul_le_mul hn (by omega)
        simp only
        omega
      go_wp2_with (fail)
      refine (fsum_ok (FT l n 5) A m c' 50000 _ (by omega) (Tl.own H.out.1 hm (fun x hx => (hmem x hx).1)) (fun x hx => (hmem x hx).2) (by omega) (Nat.lt_of_le_of_lt (FT_wsum 5) (by decide))).mono ?_
      rintro e' w3 ⟨s3, A3, n3, c3, zs, rfl, hS, hb3⟩
      have HS := Lib.hid (And.intro (show Sg w w3 s3 A3 n3 c3 zs _ from hS.base (by have := H.out.2.2.2; omega)) (H.out.2.2.1.trans (hb3.mono (by have := H.out.2.2.2; omega))))
      have hfw := field_words s3 A3 n3 c3
      clear hS hb3 hmem H hm
      go_wp2_with (fail)
      go_ret
      exact ⟨s3, A3, n3, c3, zs, rfl, HS.out.1, HS.out.2⟩
end Go.Proofs.YthpgdpkemnhneaaGreatDoor
