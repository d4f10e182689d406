/- A slice of numbers that a law is given, opened. -/
import Derived.Test.YtalcikmngglplaaDoorZOpen
import Derived.Test.YtalcikmngglplaaDoorP6
namespace Go.Proofs.YtalcikmngglplaaDoor
open Go.ChangeShapes Go.WideShapes Go.ChangeAt Go.RowKit
set_option linter.unusedVariables false
set_option linter.unusedSimpArgs false
set_option maxRecDepth 100000

theorem pick_lists {α β : Type} (P : Nat → α → β → Prop) : ∀ n : Nat, (∀ i, i < n → ∃ a b, P i a b) → ∃ (ls : List α) (ms : List β), ls.length = n ∧ ms.length = n ∧ ∀ i a b, ls[i]? = some a → ms[i]? = some b → P i a b
  | 0, _ => ⟨[], [], rfl, rfl, fun i a b h => by simp at h⟩
  | n + 1, h => by
    obtain ⟨ls, ms, h1, h2, h3⟩ := pick_lists P n fun i hi => h i (by omega)
    obtain ⟨a, b, hab⟩ := h n (by omega)
    refine ⟨ls ++ [a], ms ++ [b], by simp [h1], by simp [h2], fun i x y hx hy => ?_⟩
    rcases Nat.lt_or_ge i n with hi | hi
    · rw [List.getElem?_append_left (by omega)] at hx hy
      exact h3 i x y hx hy
    · have hin : i = n := by
        have := (List.getElem?_eq_some_iff.1 hx).1
        simp at this
        omega
      subst hin
      rw [List.getElem?_append_right (by omega), h1, Nat.sub_self] at hx
      rw [List.getElem?_append_right (by omega), h2, Nat.sub_self] at hy
      simp at hx hy
      subst hx hy
      exact hab
section
variable {H : Type} {enc : TypeId × Value → H} {W : World} {spare : Nat → Bool} {held : Bool} {d : DataW H} {p : List MemPlace}
theorem open_nats {t : TypeId} {A : Option Addr} {n c : Nat} (ht : Tryd.prog.underlying t = some (.slice 23)) (h : DataW.Trod enc Tryd.prog W 0 spare held t (.slice A n c) d p) : ∃ ls xss, Nl W A n c ls xss ∧ n ≤ c ∧ c ≤ 9223372036854775807 := by
  obtain ⟨fuel, hf⟩ := h
  rcases DataW.trod_slice ht hf with ⟨hcs, _⟩ | ⟨a, len, cap, elems, rest, m, _, hcs, _, hb, hl, hm, hlen, hel, _, _⟩
  · simp [Value.cells] at hcs
    obtain ⟨rfl, rfl, rfl⟩ := hcs
    exact ⟨[], [], ⟨rfl, Rd.nil, rfl, fun i s xs h => by simp at h⟩, Nat.le_refl _, by omega⟩
  · simp [Value.cells] at hcs
    obtain ⟨rfl, rfl, rfl⟩ := hcs
    have hc1 : Tryd.prog.cellsOf 23 = 1 := by kernel_rfl
    have each : ∀ i, i < n → ∃ (s : Option Addr × Nat × Nat) (xs : List Nat), W.cell? (a.add i) = some (.slice s.1 s.2.1 s.2.2) ∧ Sl W s.1 s.2.1 s.2.2 xs := fun i hi => by
      have h1 := hel i hi
      rw [List.getElem?_eq_getElem (show i < elems.length by omega), hc1, Nat.mul_one, Option.bind_eq_some_iff] at h1
      obtain ⟨cs', h2, h3⟩ := h1
      have h4 := World.cells?_some h2
      have hv : ∃ s : Option Addr × Nat × Nat, cs' = [.slice s.1 s.2.1 s.2.2] := by
        rcases DataW.trod_slice Tryd.underlying23 h3 with ⟨h5, _⟩ | ⟨a', l', c', _, _, _, _, h5, _⟩
        · exact ⟨(none, 0, 0), h5⟩
        · exact ⟨(some a', l', c'), h5⟩
      obtain ⟨s, rfl⟩ := hv
      obtain ⟨xs, hs⟩ := open_row (spare := spare) (held := held) (enc := enc) (W := W) Tryd.underlying23 (A := s.1) (n := s.2.1) (c := s.2.2) (d := elems[i].1) (p := elems[i].2) ⟨_, h3⟩
      exact ⟨s, xs, cell_of_cells?_one h2, hs⟩
    obtain ⟨ls, xss, h1, h2, h3⟩ := pick_lists (fun i (s : Option Addr × Nat × Nat) xs => W.cell? (a.add i) = some (.slice s.1 s.2.1 s.2.2) ∧ Sl W s.1 s.2.1 s.2.2 xs) n each
    refine ⟨ls, xss, ⟨h1, fun hne => ?_, h2, fun i s xs e1 e2 => (h3 i s xs e1 e2).2⟩, hl, by unfold maxLen at hm; exact hm⟩
    have get : ∀ i (hi : i < n), W.cell? (a.add i) = some (.slice ls[i].1 ls[i].2.1 ls[i].2.2) := fun i hi => (h3 i ls[i] xss[i] (List.getElem?_eq_getElem _) (List.getElem?_eq_getElem _)).1
    have hn0 : 0 < n := by
      rcases Nat.eq_zero_or_pos n with h0 | h0
      · exact absurd (by rw [List.eq_nil_of_length_eq_zero (show ls.length = 0 by omega)]; rfl) hne
      · exact h0
    obtain ⟨b, off, spot⟩ := a
    have hspot : spot = none := by simpa [Addr.add] using World.cell?_spot (get 0 hn0)
    subst hspot
    refine ⟨b, off, rfl, World.block_lt_of_cell? W (a := (⟨b, off, none⟩ : Addr).add 0) (get 0 hn0), fun j u hj => ?_⟩
    have hjl : j < ls.length := by
      have := (List.getElem?_eq_some_iff.1 hj).1
      simpa [svs] using this
    rw [svs_get (List.getElem?_eq_getElem hjl)] at hj
    injection hj with hj
    rw [← hj, ← Go.WideShapes.add_plain]
    exact get j (by omega)
end
end Go.Proofs.YtalcikmngglplaaDoor
