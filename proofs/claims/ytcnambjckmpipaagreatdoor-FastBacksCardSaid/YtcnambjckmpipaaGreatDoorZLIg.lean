/- The contract of the law's integers. -/
import Derived.Test.YtcnambjckmpipaaGreatDoorZLInts
import Derived.Test.YtcnambjckmpipaaGreatDoorZLawF
import Derived.Test.YtcnambjckmpipaaGreatDoorP8
import Derived.Deep.AppendLies
namespace Go.Proofs.YtcnambjckmpipaaGreatDoor
open Go.RowKit Go.Shelf
set_option linter.unusedVariables false
set_option linter.unusedSimpArgs false
set_option maxRecDepth 10000

/-- the first k integers, copied with a limit on their words -/
def IgP (w W : World) (al bl : List Sn) (most : Nat) : Prop := ∀ (i : Nat) (b : Sn), bl[i]? = some b → ∃ a, al[i]? = some a ∧ b.s = a.s ∧ b.xs = a.xs.take most ∧ Nw w W (.slice b.A b.n b.c) b.n b.xs
def IgA (w : World) (al : List Sn) (most k : Nat) (v : Value) (bl : List Sn) (W : World) : Prop :=
  W.ownsRow w.heap.size 26 2 v k (bl.flatMap sncs) ∧ bl.length = k ∧ IgP w W al bl most ∧ Below w.heap.size w W
theorem IgA.next {w W w3 W2 : World} {al : List Sn} {most k : Nat} {v v' : Value} {a b : Sn} {bl : List Sn} (h : IgA w al most k v bl W) (hk : al[k]? = some a) (hb : Below W.heap.size W w3) (hs : b.s = a.s) (hx : b.xs = a.xs.take most) (hz : Nw W w3 (.slice b.A b.n b.c) b.n b.xs)
    (hown : W2.ownsRow w.heap.size 26 2 v' (k + 1) (bl.flatMap sncs ++ sncs b))
    (hgrow : (w3.alloc (.cells (sncs b).toArray 26)).grownBy W2 v.ownBlock) : IgA w al most (k + 1) v' (bl ++ [b]) W2 := by
  obtain ⟨h1, h2, h3, h5⟩ := h
  have h1' := own_below h1 hb (Nat.le_refl _)
  have hal : Below w3.heap.size w3 (w3.alloc (.cells (sncs b).toArray 26)) := (Below.refl _ _).alloc (Nat.le_refl _) _
  have e2 : 26 ≠ 51 := by decide
  have hb3 : Below w.heap.size w w3 := h5.trans (hb.mono h5.size)
  have key : ∀ {B : Option Addr} {m e : Nat} {ys : List Nat}, Nw w w3 (.slice B m e) m ys → Nw w W2 (.slice B m e) m ys := fun {B m e ys} hY =>
    have hY' := hY.later (Nat.le_refl _) hal
    ⟨hY'.1, hY'.2.1, own_off hY'.2.2 hgrow (own_ne (own_below h1' hal (Nat.le_refl _)) hY'.2.2 e2)⟩
  refine ⟨?_, by simp [h2], fun i x hi => ?_, ?_⟩
  · rwa [List.flatMap_append, show [b].flatMap sncs = sncs b by simp]
  · rcases Nat.lt_or_ge i k with h6 | h6
    · rw [List.getElem?_append_left (by omega)] at hi
      obtain ⟨y, f1, f2, f3, f4⟩ := h3 i x hi
      exact ⟨y, f1, f2, f3, key (f4.later (Nat.le_refl _) hb)⟩
    · have hik : i = k := by
        have := (List.getElem?_eq_some_iff.1 hi).1
        simp at this
        omega
      subst hik
      rw [List.getElem?_append_right (by omega), h2, Nat.sub_self] at hi
      simp at hi
      subst hi
      exact ⟨a, hk, hs, hx, key (hz.later h5.size (Below.refl _ _))⟩
  · exact (hb3.trans (hal.mono hb3.size)).grown hgrow (by have := hb3.size; have := hal.size; omega) (fun j hj => (h1.lt j hj).1)
/-- what integers answers -/
def IgR (w w' : World) (e : Ending) (al : List Sn) (many most : Nat) : Prop := ∃ A' k c' bl, e = .returned (.slice A' k c') ∧ bl.length = k ∧ k ≤ many ∧ k = min al.length many ∧ Zl w' A' k c' bl ∧ IgP w w' al bl most ∧ Below w.heap.size w w'
theorem IgA.done {w W : World} {al bl : List Sn} {most many k : Nat} {A : Option Addr} {c : Nat} (h : IgA w al most k (.slice A k c) bl W) (hk : k ≤ many) (hk2 : k = min al.length many) : IgR w W (.returned (.slice A k c)) al many most :=
  ⟨A, k, c, bl, rfl, h.2.1, hk, hk2, Zl.own h.1 h.2.1 (fun t ht => by
    obtain ⟨i, hi⟩ := List.getElem?_of_mem ht
    obtain ⟨_, _, _, _, f4⟩ := h.2.2.1 i t hi
    obtain ⟨A', c', e, hs⟩ := f4.sl
    injection e with e1 e2 e3
    rw [e1, e3]; exact hs), h.2.2.1, h.2.2.2⟩

/-- what integers answers, and whose the memory is -/
def IgO (w w' : World) (e : Ending) (al : List Sn) (many most : Nat) : Prop := ∃ A' k c' bl, e = .returned (.slice A' k c') ∧ bl.length = k ∧ k ≤ many ∧ k = min al.length many ∧ Zl w' A' k c' bl ∧ IgP w w' al bl most ∧ Below w.heap.size w w' ∧ w'.ownsRow w.heap.size 26 2 (.slice A' k c') k (bl.flatMap sncs)
theorem IgA.doneO {w W : World} {al bl : List Sn} {most many k : Nat} {A : Option Addr} {c : Nat} (h : IgA w al most k (.slice A k c) bl W) (hk : k ≤ many) (hk2 : k = min al.length many) : IgO w W (.returned (.slice A k c)) al many most := by
  obtain ⟨A', k', c', bl', e, h1, h2, h3, h4, h5, h6⟩ := h.done hk hk2
  exact ⟨A, k, c, bl, rfl, h.2.1, hk, hk2, Zl.own h.1 h.2.1 (fun t ht => by
    obtain ⟨i, hi⟩ := List.getElem?_of_mem ht
    obtain ⟨_, _, _, _, f4⟩ := h.2.2.1 i t hi
    obtain ⟨A', c', e, hs⟩ := f4.sl
    injection e with e1 e2 e3
    rw [e1, e3]; exact hs), h.2.2.1, h.2.2.2, h.1⟩

set_option maxHeartbeats 4000000 in
theorem integers_own (al : List Sn) (A : Option Addr) (m c many most : Nat) (w : World) (hmany : many ≤ 100) (hmost : most ≤ 4096) (hx : Zl w A m c al) :
    Calls Tryz.prog 5 #[.slice A m c, .int .i64 (many : Int), .int .i64 (most : Int)] w fun e w' => IgO w w' e al many most := by
  obtain ⟨i0, hi, hz0, hz1, hz2⟩ := info_parts Tryz.info26
  have hmix : Tryz.prog.follows Departure.mixedOrders = true := by kernel_rfl
  have Hx := Lib.hid hx
  clear hx
  go_enter Tryz.func5, Tryz.ntmps5
  go_wp2
  go_loopw [7, 8] (fun v kv wr => ∃ k : Nat, k ≤ m ∧ k ≤ many ∧ kv = .int .i64 k ∧ Hid (∃ bl, IgA w al most k v bl wr)) (fun _ kv _ => m - (intOf kv).toNat)
  case atStart => exact ⟨0, Nat.zero_le _, Nat.zero_le _, rfl, [], World.ownsRow_nil _ _ _ _, rfl, fun i b h => by simp at h, Below.refl _ _⟩
  case round =>
    obtain ⟨k, hk, hk2, rfl, HE⟩ := hrel
    obtain ⟨bl, hI⟩ := HE.out
    have HI := Lib.hid hI
    clear HE hI
    by_cases hlt : k < m ∧ k < many
    · obtain ⟨h1, h2⟩ := hlt
      have hkl : k < al.length := by rw [Hx.out.1]; exact h1
      have hg := List.getElem?_eq_getElem hkl
      obtain ⟨b, o, rfl, hbw, c0', c1'⟩ := Hx.out.at hg
      have c0 := (HI.out.2.2.2.cell (World.block_lt_of_cell? _ _ c0')).trans c0'
      have c1 := (HI.out.2.2.2.cell (World.block_lt_of_cell? _ _ c1')).trans c1'
      clear c0' c1'
      have hsl := Hx.out.2.2.2.2 _ (List.getElem_mem hkl)
      generalize al[k] = a at *
      obtain ⟨ag, aA, an, ac, axs⟩ := a
      simp only at c0 c1 hsl
      have HQ := Lib.hid (And.intro hg (show Sl w aA an ac axs from hsl))
      have hki : (k : Int) < (m : Int) := by omega
      have hki2 : (k : Int) < (many : Int) := by omega
      have HS0 : Hid (wr.drew.cell? ⟨b, o + k * 2, none⟩ = some (.bool ag) ∧ wr.drew.cell? ⟨b, o + k * 2 + 1, none⟩ = some (.slice aA an ac)) := ⟨c0, c1⟩
      clear hkl hg hsl c0 c1
      go_wp2_with (fail)
      refine wp_region_M 16 (fun w' => w'.cell? ⟨b, o + k * 2, none⟩ = some (.bool ag) ∧ w'.cell? ⟨b, o + k * 2 + 1, none⟩ = some (.slice aA an ac)) hmix ?_
      refine wpAnyM_take (i := 0) (v := ?_) rfl rfl (by kernel_rfl) (by kernel_rfl) (by kernel_rfl) (by kernel_rfl) (by kernel_rfl) (by kernel_rfl) (fun _ _ _ h => h) HS0.out (Or.inl ⟨by rfl, ?_⟩) ?_
      rotate_left
      · rintro w ⟨q0, q1⟩; go_simp; try with_reducible rfl
      try simp only [Act.put, List.getElem_toArray, List.getElem_cons_zero, List.getElem_cons_succ, List.setIfInBounds_toArray, List.set_cons_zero, List.set_cons_succ]
      refine wpAnyM_take (i := 1) (v := ?_) rfl rfl (by kernel_rfl) (by kernel_rfl) (by kernel_rfl) (by kernel_rfl) (by kernel_rfl) (by kernel_rfl) (fun _ _ _ h => h) HS0.out (Or.inl ⟨by rfl, ?_⟩) ?_
      rotate_left
      · rintro w ⟨q0, q1⟩; go_simp; try with_reducible rfl
      try simp only [Act.put, List.getElem_toArray, List.getElem_cons_zero, List.getElem_cons_succ, List.setIfInBounds_toArray, List.set_cons_zero, List.set_cons_succ]
      refine wpAnyM_take (i := 2) (v := ?_) rfl rfl (by kernel_rfl) (by kernel_rfl) (by kernel_rfl) (by kernel_rfl) (by kernel_rfl) (by kernel_rfl) (fun _ _ _ h => h) HS0.out (Or.inl ⟨by rfl, ?_⟩) ?_
      rotate_left
      · rintro w ⟨q0, q1⟩; go_simp; try with_reducible rfl
      try simp only [Act.put, List.getElem_toArray, List.getElem_cons_zero, List.getElem_cons_succ, List.setIfInBounds_toArray, List.set_cons_zero, List.set_cons_succ]
      refine wpAnyM_take (i := 3) (v := ?_) rfl rfl (by kernel_rfl) (by kernel_rfl) (by kernel_rfl) (by kernel_rfl) (by kernel_rfl) (by kernel_rfl) (fun _ _ _ h => h) HS0.out (Or.inl ⟨by rfl, ?_⟩) ?_
      rotate_left
      · rintro w ⟨q0, q1⟩; go_simp; try with_reducible rfl
      try simp only [Act.put, List.getElem_toArray, List.getElem_cons_zero, List.getElem_cons_succ, List.setIfInBounds_toArray, List.set_cons_zero, List.set_cons_succ]
      refine wpAnyM_take (i := 4) (v := ?_) rfl rfl (by kernel_rfl) (by kernel_rfl) (by kernel_rfl) (by kernel_rfl) (by kernel_rfl) (by kernel_rfl) (fun _ _ _ h => h) HS0.out (Or.inl ⟨by rfl, ?_⟩) ?_
      rotate_left
      · rintro w ⟨q0, q1⟩; go_simp; try with_reducible rfl
      try simp only [Act.put, List.getElem_toArray, List.getElem_cons_zero, List.getElem_cons_succ, List.setIfInBounds_toArray, List.set_cons_zero, List.set_cons_succ]
      refine wpAnyM_take (i := 5) (v := ?_) rfl rfl (by kernel_rfl) (by kernel_rfl) (by kernel_rfl) (by kernel_rfl) (by kernel_rfl) (by kernel_rfl) (fun _ _ _ h => h) HS0.out (Or.inl ⟨by rfl, ?_⟩) ?_
      rotate_left
      · rintro w ⟨q0, q1⟩; go_simp; try with_reducible rfl
      try simp only [Act.put, List.getElem_toArray, List.getElem_cons_zero, List.getElem_cons_succ, List.setIfInBounds_toArray, List.set_cons_zero, List.set_cons_succ]
      refine wpAnyM_take (i := 6) (v := ?_) rfl rfl (by kernel_rfl) (by kernel_rfl) (by kernel_rfl) (by kernel_rfl) (by kernel_rfl) (by kernel_rfl) (fun _ _ _ h => h) HS0.out (Or.inl ⟨by rfl, ?_⟩) ?_
      rotate_left
      · rintro w ⟨q0, q1⟩; go_simp; try with_reducible rfl
      try simp only [Act.put, List.getElem_toArray, List.getElem_cons_zero, List.getElem_cons_succ, List.setIfInBounds_toArray, List.set_cons_zero, List.set_cons_succ]
      refine wpAnyM_take (i := 7) (v := ?_) rfl rfl (by kernel_rfl) (by kernel_rfl) (by kernel_rfl) (by kernel_rfl) (by kernel_rfl) (by kernel_rfl) (fun _ _ _ h => h) HS0.out (Or.inl ⟨by rfl, ?_⟩) ?_
      rotate_left
      · rintro w ⟨q0, q1⟩; go_simp; try with_reducible rfl
      try simp only [Act.put, List.getElem_toArray, List.getElem_cons_zero, List.getElem_cons_succ, List.setIfInBounds_toArray, List.set_cons_zero, List.set_cons_succ]
      refine wpAnyM_take (i := 8) (v := ?_) rfl rfl (by kernel_rfl) (by kernel_rfl) (by kernel_rfl) (by kernel_rfl) (by kernel_rfl) (by kernel_rfl) (fun _ _ _ h => h) HS0.out (Or.inl ⟨by rfl, ?_⟩) ?_
      rotate_left
      · rintro w ⟨q0, q1⟩; go_simp; try with_reducible rfl
      try simp only [Act.put, List.getElem_toArray, List.getElem_cons_zero, List.getElem_cons_succ, List.setIfInBounds_toArray, List.set_cons_zero, List.set_cons_succ]
      refine wpAnyM_take (i := 9) (v := ?_) rfl rfl (by kernel_rfl) (by kernel_rfl) (by kernel_rfl) (by kernel_rfl) (by kernel_rfl) (by kernel_rfl) (fun _ _ _ h => h) HS0.out (Or.inl ⟨by rfl, ?_⟩) ?_
      rotate_left
      · rintro w ⟨q0, q1⟩; go_simp; try with_reducible rfl
      try simp only [Act.put, List.getElem_toArray, List.getElem_cons_zero, List.getElem_cons_succ, List.setIfInBounds_toArray, List.set_cons_zero, List.set_cons_succ]
      refine wpAnyM_take (i := 10) (v := ?_) rfl rfl (by kernel_rfl) (by kernel_rfl) (by kernel_rfl) (by kernel_rfl) (by kernel_rfl) (by kernel_rfl) (fun _ _ _ h => h) HS0.out (Or.inl ⟨by rfl, ?_⟩) ?_
      rotate_left
      · rintro w ⟨q0, q1⟩; go_simp; try with_reducible rfl
      try simp only [Act.put, List.getElem_toArray, List.getElem_cons_zero, List.getElem_cons_succ, List.setIfInBounds_toArray, List.set_cons_zero, List.set_cons_succ]
      refine wpAnyM_take (i := 11) (v := ?_) rfl rfl (by kernel_rfl) (by kernel_rfl) (by kernel_rfl) (by kernel_rfl) (by kernel_rfl) (by kernel_rfl) (fun _ _ _ h => h) HS0.out (Or.inl ⟨by rfl, ?_⟩) ?_
      rotate_left
      · rintro w ⟨q0, q1⟩; go_simp; try with_reducible rfl
      try simp only [Act.put, List.getElem_toArray, List.getElem_cons_zero, List.getElem_cons_succ, List.setIfInBounds_toArray, List.set_cons_zero, List.set_cons_succ]
      refine wpAnyM_one (i := 12) rfl (by kernel_rfl) (fun K hK => ?_)
      go_simp
      refine (few3_row aA an ac most axs wr.drew (show Sl wr aA an ac axs from HQ.out.2.below HI.out.2.2.2) hmost).mono ?_
      rintro e w3 ⟨A3, n3, c3, z3, rfl, -, -, hz3, hw3, hb3⟩
      have hb3' : Below wr.heap.size wr w3 := belowA hb3
      have HS1 : Hid ((fun w' => w'.cell? ⟨b, o + k * 2, none⟩ = some (.bool ag) ∧ w'.cell? ⟨b, o + k * 2 + 1, none⟩ = some (.slice aA an ac)) w3) := ⟨(hb3'.cell (World.block_lt_of_cell? _ _ HS0.out.1)).trans HS0.out.1, (hb3'.cell (World.block_lt_of_cell? _ _ HS0.out.2)).trans HS0.out.2⟩
      have H3 := Lib.hid (And.intro (show Nw wr w3 (.slice A3 n3 c3) n3 z3 from hw3) (And.intro hz3 (And.intro hb3' (own_below HI.out.1 hb3' (Nat.le_refl _)))))
      have hws := HI.out.2.2.2.size
      have hws3 := hb3'.size
      clear hw3 hb3 hb3' hz3
      refine hK.out _ _ (fun _ => HS1.out) ?_
      clear hK K HS0
      try simp only [Act.put, List.getElem_toArray, List.getElem_cons_zero, List.getElem_cons_succ, List.setIfInBounds_toArray, List.set_cons_zero, List.set_cons_succ]
      refine wpAnyM_take (i := 13) (v := ?_) rfl rfl (by kernel_rfl) (by kernel_rfl) (by kernel_rfl) (by kernel_rfl) (by kernel_rfl) (by kernel_rfl) (fun _ _ _ h => h) HS1.out (Or.inl ⟨by rfl, ?_⟩) ?_
      rotate_left
      · rintro w ⟨q0, q1⟩; go_simp; try with_reducible rfl
      try simp only [Act.put, List.getElem_toArray, List.getElem_cons_zero, List.getElem_cons_succ, List.setIfInBounds_toArray, List.set_cons_zero, List.set_cons_succ]
      refine wpAnyM_one (i := 14) rfl (by kernel_rfl) (fun K hK => ?_)
      go_simp
      have hal : Below w3.heap.size w3 (w3.alloc (.cells #[.bool ag, .slice A3 n3 c3] 26)) := (Below.refl _ _).alloc (Nat.le_refl _) _
      have HS2 : Hid ((fun w' => w'.cell? ⟨b, o + k * 2, none⟩ = some (.bool ag) ∧ w'.cell? ⟨b, o + k * 2 + 1, none⟩ = some (.slice aA an ac)) (w3.alloc (.cells #[.bool ag, .slice A3 n3 c3] 26))) := ⟨(hal.cell (World.block_lt_of_cell? _ _ HS1.out.1)).trans HS1.out.1, (hal.cell (World.block_lt_of_cell? _ _ HS1.out.2)).trans HS1.out.2⟩
      refine hK.out _ _ (fun _ => HS2.out) ?_
      clear hK K HS1 hal
      try simp only [Act.put, List.getElem_toArray, List.getElem_cons_zero, List.getElem_cons_succ, List.setIfInBounds_toArray, List.set_cons_zero, List.set_cons_succ]
      refine wpAnyM_one (i := 15) rfl (by kernel_rfl) (fun K hK => ?_)
      refine step_append_lies _ (by rfl) _ _ 22 (by rfl) w.heap.size 26 i0 _ 2 32 Tryz.underlying22 hi hz0 hz1 hz2 rfl (by omega) u7 k (bl.flatMap sncs) (by rfl) (H3.out.2.2.2.alloc _) ⟨w3.heap.size, 0, none⟩ 1 1 [.bool ag, .slice A3 n3 c3] (by rfl) (by rfl) (World.news_of_block (cs := #[.bool ag, .slice A3 n3 c3]) (t := 26) (fr := (0, 0)) (heap_alloc_new w3 _)) (by simp [Value.oneCell']) (by omega) (by unfold maxLen; omega) (by omega) (by simp; omega) (w3.heap.size + 1) (by simp) ?_
      intro gg cap w5 hown1 hgrow hat hlt1
      have hoff : ∀ g, u7.ownBlock = some g → w.heap.size ≤ g := fun g hg => (HI.out.1.lt g hg).1
      have HS5 : Hid ((fun w' => w'.cell? ⟨b, o + k * 2, none⟩ = some (.bool ag) ∧ w'.cell? ⟨b, o + k * 2 + 1, none⟩ = some (.slice aA an ac)) w5) := ⟨hgrow.cell HS2.out.1 (fun e => by have := hoff b e.symm; omega), hgrow.cell HS2.out.2 (fun e => by have := hoff b e.symm; omega)⟩
      have HN : Hid (∃ bl, IgA w al most (k + 1) (.slice (some ⟨gg, 0, none⟩) (k + 1) cap) bl w5) := ⟨_, HI.out.next (b := ⟨ag, A3, n3, c3, z3⟩) HQ.out.1 H3.out.2.2.1 rfl H3.out.2.1 H3.out.1 hown1 hgrow⟩
      clear hown1 hgrow hat hlt1 hoff HI H3 HS2 HQ
      refine hK.out _ _ (fun _ => HS5.out) ?_
      clear hK K
      try simp only [Act.put, List.getElem_toArray, List.getElem_cons_zero, List.getElem_cons_succ, List.setIfInBounds_toArray, List.set_cons_zero, List.set_cons_succ]
      refine wpAnyM_one (i := 16) rfl (by kernel_rfl) (fun K hK => ?_)
      go_simp
      refine hK.out _ _ (fun h => absurd h (by decide)) ?_
      clear hK K HS5
      refine wpAnyM_done (by kernel_rfl) ?_ _
      go_wp2_with (fail)
      refine ⟨⟨k + 1, by omega, by omega, by go_num, HN⟩, ?_⟩
      simp [intOf]; omega
    · obtain ⟨A', c', rfl⟩ := own_slice HI.out.1
      have HF := Lib.hid (HI.out.doneO hk2 (by have := Hx.out.1; omega))
      by_cases h1 : k < m
      · have hki : (k : Int) < (m : Int) := by omega
        have hki2 : ¬ (k : Int) < (many : Int) := by omega
        clear hlt HI
        go_wp2_with (fail)
        go_ret
        exact HF.out
      · have hki : ¬ (k : Int) < (m : Int) := by omega
        clear hlt HI
        go_wp2_with (fail)
        go_ret
        exact HF.out
theorem integers_ok (al : List Sn) (A : Option Addr) (m c many most : Nat) (w : World) (hmany : many ≤ 100) (hmost : most ≤ 4096) (hx : Zl w A m c al) :
    Calls Tryz.prog 5 #[.slice A m c, .int .i64 (many : Int), .int .i64 (most : Int)] w fun e w' => IgR w w' e al many most :=
  (integers_own al A m c many most w hmany hmost hx).mono fun e w' ⟨A', k, c', bl, h0, h1, h2, h3, h4, h5, h6, _⟩ => ⟨A', k, c', bl, h0, h1, h2, h3, h4, h5, h6⟩
end Go.Proofs.YtcnambjckmpipaaGreatDoor
