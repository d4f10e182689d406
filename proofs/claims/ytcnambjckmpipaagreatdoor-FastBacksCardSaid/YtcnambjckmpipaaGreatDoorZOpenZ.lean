/- A slice of integers that a law is given, opened. -/
import Derived.Test.YtcnambjckmpipaaGreatDoorZOpen
import Derived.Test.YtcnambjckmpipaaGreatDoorZLInts
import Derived.ChangeSame
import Derived.ChangeArms
namespace Go.Proofs.YtcnambjckmpipaaGreatDoor
open Go.ChangeShapes Go.WideShapes Go.ChangeAt Go.RowKit
set_option linter.unusedVariables false
set_option linter.unusedSimpArgs false
set_option maxRecDepth 100000

theorem pick_list {α : Type} (P : Nat → α → Prop) : ∀ n : Nat, (∀ i, i < n → ∃ a, P i a) → ∃ ls : List α, ls.length = n ∧ ∀ i a, ls[i]? = some a → P i a
  | 0, _ => ⟨[], rfl, fun i a h => by simp at h⟩
  | n + 1, h => by
    obtain ⟨ls, h1, h3⟩ := pick_list P n fun i hi => h i (by omega)
    obtain ⟨a, ha⟩ := h n (by omega)
    refine ⟨ls ++ [a], by simp [h1], fun i x hx => ?_⟩
    rcases Nat.lt_or_ge i n with hi | hi
    · rw [List.getElem?_append_left (by omega)] at hx
      exact h3 i x hx
    · have hin : i = n := by
        have := (List.getElem?_eq_some_iff.1 hx).1
        simp at this
        omega
      subst hin
      rw [List.getElem?_append_right (by omega), h1, Nat.sub_self] at hx
      simp at hx
      subst hx
      exact ha
section
variable {H : Type} {enc : TypeId × Value → H} {W : World} {spare : Nat → Bool} {held : Bool} {d : DataW H} {p : List MemPlace}
theorem open_ints {t : TypeId} {A : Option Addr} {n c : Nat} (ht : Tryz.prog.underlying t = some (.slice 26)) (h : DataW.Trod enc Tryz.prog W 0 spare held t (.slice A n c) d p) : ∃ al : List Sn, Zl W A n c al := by
  obtain ⟨fuel, hf⟩ := h
  rcases DataW.trod_slice ht hf with ⟨hcs, _⟩ | ⟨a, len, cap, elems, rest, m, _, hcs, _, hb, hl, hm, hlen, hel, _, _⟩
  · simp [Value.cells] at hcs
    obtain ⟨rfl, rfl, rfl⟩ := hcs
    exact ⟨[], rfl, Nat.le_refl _, by omega, Rd.nil, fun a ha => by simp at ha⟩
  · simp [Value.cells] at hcs
    obtain ⟨rfl, rfl, rfl⟩ := hcs
    have hc2 : Tryz.prog.cellsOf 26 = 2 := by kernel_rfl
    have each : ∀ i, i < n → ∃ s : Sn, W.cell? (a.add (i * 2)) = some (.bool s.s) ∧ W.cell? ((a.add (i * 2)).add 1) = some (.slice s.A s.n s.c) ∧ Sl W s.A s.n s.c s.xs := fun i hi => by
      have h1 := hel i hi
      rw [List.getElem?_eq_getElem (show i < elems.length by omega), hc2, Option.bind_eq_some_iff] at h1
      obtain ⟨cs', h2, h3⟩ := h1
      have h4 := World.cells?_some h2
      obtain ⟨x0, x1, rfl⟩ : ∃ x0 x1, cs' = [x0, x1] := by
        match cs', h4.2.1 with
        | [x0, x1], _ => exact ⟨x0, x1, rfl⟩
      obtain ⟨y0, y1, k, -, -, h5, h6⟩ := trod_struct2 Tryz.underlying26 h3
      have e4 : Tryz.prog.cellsOf 4 = 1 := by kernel_rfl
      have e23 : Tryz.prog.cellsOf 24 = 1 := by kernel_rfl
      simp only [e4, e23, List.drop_zero, List.take_succ_cons, List.take_zero, List.drop_succ_cons] at h5 h6
      obtain ⟨s, e1, -⟩ := DataW.trod_bool Tryz.underlying4 h5
      injection e1 with e1 _
      subst e1
      have hv : ∃ s : Option Addr × Nat × Nat, [x1] = [.slice s.1 s.2.1 s.2.2] := by
        rcases DataW.trod_slice Tryz.underlying24 h6 with ⟨h7, _⟩ | ⟨a', l', c', _, _, _, _, h7, _⟩
        · exact ⟨(none, 0, 0), h7⟩
        · exact ⟨(some a', l', c'), h7⟩
      obtain ⟨⟨sA, sn, sc⟩, e2⟩ := hv
      injection e2 with e2 _
      subst e2
      obtain ⟨xs, hs⟩ := open_row (spare := spare) (held := held) (enc := enc) (W := W) Tryz.underlying24 (A := sA) (n := sn) (c := sc) (d := y1.1) (p := y1.2) ⟨_, h6⟩
      have g0 := h4.2.2 0 (by omega)
      have g1 := h4.2.2 1 (by omega)
      exact ⟨⟨s, sA, sn, sc, xs⟩, by simpa [Addr.add] using g0, g1, hs⟩
    obtain ⟨al, h1, h3⟩ := pick_list (fun i (s : Sn) => W.cell? (a.add (i * 2)) = some (.bool s.s) ∧ W.cell? ((a.add (i * 2)).add 1) = some (.slice s.A s.n s.c) ∧ Sl W s.A s.n s.c s.xs) n each
    refine ⟨al, h1, hl, by unfold maxLen at hm; exact hm, fun hne => ?_, fun t ht => ?_⟩
    · have hn0 : 0 < n := by
        rcases Nat.eq_zero_or_pos n with h0 | h0
        · exact absurd (by rw [List.eq_nil_of_length_eq_zero (show al.length = 0 by omega)]; rfl) hne
        · exact h0
      have get : ∀ i (hi : i < n), W.cell? (a.add (i * 2)) = some (.bool al[i].s) ∧ W.cell? ((a.add (i * 2)).add 1) = some (.slice al[i].A al[i].n al[i].c) := fun i hi => ⟨(h3 i al[i] (List.getElem?_eq_getElem _)).1, (h3 i al[i] (List.getElem?_eq_getElem _)).2.1⟩
      obtain ⟨b, off, spot⟩ := a
      have hspot : spot = none := by simpa [Addr.add] using World.cell?_spot (get 0 hn0).1
      subst hspot
      refine ⟨b, off, rfl, World.block_lt_of_cell? W (a := (⟨b, off, none⟩ : Addr).add (0 * 2)) (get 0 hn0).1, fun j u hj => ?_⟩
      have hfl := flat_len al
      have hjl : j < 2 * n := by
        have := (List.getElem?_eq_some_iff.1 hj).1
        omega
      obtain ⟨i, r, hi, hr, rfl⟩ : ∃ i r, i < n ∧ r < 2 ∧ j = 2 * i + r := ⟨j / 2, j % 2, by omega, by omega, by omega⟩
      have gi := get i hi
      have g2 := sncs_get2 al i (List.getElem?_eq_getElem (show i < al.length by omega))
      simp only [Go.WideShapes.add_plain] at gi
      rcases (show r = 0 ∨ r = 1 by omega) with rfl | rfl
      · rw [Nat.add_zero, g2.1] at hj
        injection hj with hj
        rw [← hj, Nat.add_zero, Nat.mul_comm 2 i]
        exact gi.1
      · rw [g2.2] at hj
        injection hj with hj
        rw [← hj, Nat.mul_comm 2 i, ← Nat.add_assoc]
        exact gi.2
    · obtain ⟨i, hi⟩ := List.getElem?_of_mem ht
      exact (h3 i t hi).2.2
end
end Go.Proofs.YtcnambjckmpipaaGreatDoor
