/- The arguments of the laws, opened: rows of words, arrays of words. -/
import Derived.Test.YthpgdpkemnhneaaGreatDoorP1
import Derived.ProofKit
import Derived.OpenShut
import Derived.ShutString
import Derived.ChangeOld
import Derived.Below
namespace Go.Proofs.YthpgdpkemnhneaaGreatDoor
open Go.ChangeShapes Go.WideShapes Go.ChangeAt Go.RowKit
set_option linter.unusedVariables false
set_option linter.unusedSimpArgs false
set_option maxRecDepth 100000

theorem laidOut : laidOutB Tryz.prog = true := by kernel_rfl
theorem own : ownKnob Tryz.prog.godebug = none := by kernel_rfl

/-- Numbers that fit a word, as words. -/
theorem words_of (zs : List Int) (h : ∀ n ∈ zs, (Lit.int .u64 n).wf = true) : ∃ xs : List Nat, zs = xs.map (fun x : Nat => (x : Int)) ∧ Ws xs := by
  refine ⟨zs.map Int.toNat, ?_, ?_⟩
  · rw [List.map_map]
    refine List.ext_getElem (by simp) (fun i h1 h2 => ?_)
    have := bounds_u64 (h _ (List.getElem_mem h1))
    simp
    omega
  · intro x hx
    obtain ⟨z, hz, rfl⟩ := List.mem_map.1 hx
    have := bounds_u64 (h z hz)
    have hB : B64 = 18446744073709551616 := rfl
    omega
section
variable {H : Type} {enc : TypeId × Value → H} {W : World} {spare : Nat → Bool} {held : Bool} {d : DataW H} {p : List MemPlace}
theorem open_row {t : TypeId} {A : Option Addr} {n c : Nat} (ht : Tryz.prog.underlying t = some (.slice 44)) (h : DataW.Trod enc Tryz.prog W 0 spare held t (.slice A n c) d p) : ∃ xs, Sl W A n c xs := by
  have k := h
  have lt : ∀ x ∈ p, x.block < W.heap.size := by obtain ⟨m, hm⟩ := k; exact DataW.trod_lt m _ _ _ hm
  obtain ⟨fuel, hf⟩ := h
  rcases open_ints ht Tryz.underlying44 (by kernel_rfl) hf with ⟨hcs, _⟩ | ⟨x, l, cp, zs, hcs, _, hl, hm, hz, hx, hcell, hwz⟩
  · simp [Value.cells] at hcs
    obtain ⟨rfl, rfl, rfl⟩ := hcs
    exact ⟨[], rfl, Nat.le_refl _, by omega, Ws_nil, Rd.nil⟩
  · simp [Value.cells] at hcs
    obtain ⟨rfl, rfl, rfl⟩ := hcs
    obtain ⟨ys, rfl, hw⟩ := words_of zs hwz
    have hln : n ≤ ys.length := by
      rw [List.length_map] at hz
      split at hz <;> omega
    refine ⟨ys.take n, by simp; omega, hl, by unfold maxLen at hm; exact hm, fun y hy => hw y (List.mem_of_mem_take hy), fun hne => ?_⟩
    have hpos : 0 < (ys.map (fun x : Nat => (x : Int))).length := by
      rw [List.length_map]
      rcases Nat.eq_zero_or_pos ys.length with h0 | h0
      · exact absurd (by rw [List.eq_nil_of_length_eq_zero h0]; simp [uvs]) hne
      · exact h0
    obtain ⟨b, off, rfl, hc⟩ := ints_at hcell hpos
    refine ⟨b, off, rfl, World.block_lt_of_cell? W (a := ⟨b, off + 0, none⟩) (hc 0 hpos), fun j u hj => ?_⟩
    have hj2 : ∃ y, ys[j]? = some y ∧ u = .int .u64 (y : Int) ∧ j < n := by
      rw [uvs, List.getElem?_map] at hj
      obtain ⟨y, hy, rfl⟩ := Option.map_eq_some_iff.1 hj
      rw [List.getElem?_take] at hy
      split at hy
      · exact ⟨y, hy, rfl, by omega⟩
      · cases hy
    obtain ⟨y, hy, rfl, hjn⟩ := hj2
    rw [hc j (by rw [List.length_map]; omega)]
    simp [List.getD, hy]

theorem okWide_arr {P : Program} {r : Reach} {base n : Nat} {t e : TypeId} {v : Value} (ht : P.underlying t = some (.array n e)) (h : Value.okWide P W r base t v) : ∃ cs, v = .agg cs ∧ cs.size = P.cellsOf t := by
  simp only [Value.okWide, ht] at h
  obtain ⟨cs, h1, h2, _⟩ := h
  exact ⟨cs, h1, h2⟩

theorem open_arr {r : Reach} {base n : Nat} {t : TypeId} {v : Value} (ht : Tryz.prog.underlying t = some (.array n 44)) (hct : Tryz.prog.cellsOf t = n) (hv : Value.okWide Tryz.prog W r base t v)
    (h : DataW.Trod enc Tryz.prog W 0 spare held t v d p) : ∃ xs : List Nat, xs.length = n ∧ Ws xs ∧ v = .agg (uvs xs).toArray := by
  obtain ⟨cs, rfl, hsz⟩ := okWide_arr ht hv
  obtain ⟨fuel, hf⟩ := h
  obtain ⟨xs, m, rfl, hx, hl, hn, hel⟩ := DataW.trod_array ht hf
  have hc1 : Tryz.prog.cellsOf 44 = 1 := by kernel_rfl
  rw [hc1] at hel
  simp only [Value.cells, Nat.mul_one] at hel hl
  have each : ∀ i, i < n → ∃ z : Nat, cs[i]? = some (.int .u64 (z : Int)) ∧ z < B64 := fun i hi => by
    have h1 := hel i hi
    rw [List.getElem?_eq_getElem (by omega)] at h1
    obtain ⟨z, h2, _, h3⟩ := DataW.trod_int Tryz.underlying44 h1
    have hb := bounds_u64 h3
    have hB : B64 = 18446744073709551616 := rfl
    refine ⟨z.toNat, ?_, by omega⟩
    have h4 : ((cs.toList.drop i).take 1)[0]? = some (.int .u64 z) := by rw [h2]; rfl
    rw [List.getElem?_take] at h4
    simp at h4
    rw [h4]
    congr 2
    omega
  refine ⟨(List.range n).map fun i => match cs[i]? with | some (Value.int IntKind.u64 z) => z.toNat | _ => 0, by simp, ?_, ?_⟩
  · intro x hx
    obtain ⟨i, hi, rfl⟩ := List.mem_map.1 hx
    obtain ⟨z, hz, hlt⟩ := each i (by simpa using hi)
    rw [hz]
    simpa using hlt
  · congr 1
    refine Array.ext (by simp [uvs]; omega) (fun i h1 h2 => ?_)
    obtain ⟨z, hz, hlt⟩ := each i (by omega)
    rw [Array.getElem?_eq_getElem h1] at hz
    injection hz with hz
    simp only [uvs, List.map_map, List.getElem_toArray, List.getElem_map, List.getElem_range, Function.comp]
    rw [Array.getElem?_eq_getElem h1, hz]
    simp
end
end Go.Proofs.YthpgdpkemnhneaaGreatDoor
