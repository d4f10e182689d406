/- What the laid tables of package fast give the walks, and the door's own heap. -/
import Derived.Test.YthpgdpkemnhneaaGreatDoorP9
import Derived.Test.YthpgdpkemnhneaaGreatDoorRows
import Derived.Test.YthpgdpkemnhneaaGreatDoorZOpen
import Derived.OpenShut
import Derived.ProofKit
import Derived.LaidMore
import Derived.LaidLaws
import Derived.Stop.Joined
namespace Go.Proofs.YthpgdpkemnhneaaGreatDoor
open Go.ChangeShapes Go.WideShapes Go.ChangeAt Go.RowKit
set_option linter.unusedVariables false
set_option linter.unusedSimpArgs false

def laidT : List (String × DataW Unit) := [("reckoner/fast.fiveWeights", Rows.laid_reckoner_fast_fiveWeights), ("reckoner/fast.backWeights", Rows.laid_reckoner_fast_backWeights), ("reckoner/fast.backDivisors", Rows.laid_reckoner_fast_backDivisors)]
theorem gFive : Tryz.prog.globalNamed "reckoner/fast.fiveWeights" = some 0 := by kernel_rfl
theorem gBack : Tryz.prog.globalNamed "reckoner/fast.backWeights" = some 1 := by kernel_rfl
theorem gDiv : Tryz.prog.globalNamed "reckoner/fast.backDivisors" = some 2 := by kernel_rfl
theorem tFive : (Tryz.prog.globals[0]?).map (·.type) = some 102 := by kernel_rfl
theorem tBack : (Tryz.prog.globals[1]?).map (·.type) = some 102 := by kernel_rfl
theorem tDiv : (Tryz.prog.globals[2]?).map (·.type) = some 106 := by kernel_rfl
theorem cells5 : Tryz.prog.cellsOf 101 = 5 := by kernel_rfl
theorem cells1 : Tryz.prog.cellsOf 3 = 1 := by kernel_rfl
theorem cells1u : Tryz.prog.cellsOf 44 = 1 := by kernel_rfl
theorem ints_of {H : Type} {enc : TypeId × Value → H} {W : World} {base : Nat} {spare : Nat → Bool} {held : Bool} {fuel : Nat} {cs : List Value} {l : List Int} {x : DataW H × List MemPlace}
    (h : DataW.trod enc Tryz.prog W base spare held fuel 101 cs = some x) (hx1 : x.1 = .agg (l.map fun y : Int => .lit (.int .i64 y))) (hl : l.length = 5) (f : Nat) (hf : f < 5) : cs[f]? = some (.int .i64 (l.getD f 0)) := by
  obtain ⟨xs, m, rfl, rfl, hlen, hn, hel⟩ := DataW.trod_array Tryz.underlying101 h
  rw [cells1] at hel
  have h1 := hel f hf
  have hfl : f < xs.length := by omega
  rw [List.getElem?_eq_getElem hfl] at h1
  obtain ⟨n, e1, e2, _⟩ := DataW.trod_int Tryz.underlying3 h1
  have hx2 : xs.map (·.1) = l.map fun y : Int => (.lit (.int .i64 y) : DataW H) := by simpa using hx1
  have h3 := congrArg (fun z => z[f]?) hx2
  simp only [List.getElem?_map, List.getElem?_eq_getElem hfl, List.getElem?_eq_getElem (show f < l.length by omega), Option.map_some, Option.some.injEq, e2, DataW.lit.injEq, Lit.int.injEq, true_and] at h3
  have h4 : cs[f]? = some (.int .i64 n) := by
    have h5 := congrArg (fun z => z[0]?) e1
    simpa [List.getElem?_take, List.getElem?_drop] using h5
  rw [h4, h3, List.getD_eq_getElem?_getD, List.getElem?_eq_getElem (show f < l.length by omega)]
  rfl
theorem words_of5 {H : Type} {enc : TypeId × Value → H} {W : World} {base : Nat} {spare : Nat → Bool} {held : Bool} {fuel : Nat} {cs : List Value} {l : List Int} {x : DataW H × List MemPlace}
    (h : DataW.trod enc Tryz.prog W base spare held fuel 106 cs = some x) (hx1 : x.1 = .agg (l.map fun y : Int => .lit (.int .u64 y))) (hl : l.length = 5) (f : Nat) (hf : f < 5) : cs[f]? = some (.int .u64 (l.getD f 0)) := by
  obtain ⟨xs, m, rfl, rfl, hlen, hn, hel⟩ := DataW.trod_array Tryz.underlying106 h
  rw [cells1u] at hel
  have h1 := hel f hf
  have hfl : f < xs.length := by omega
  rw [List.getElem?_eq_getElem hfl] at h1
  obtain ⟨n, e1, e2, _⟩ := DataW.trod_int Tryz.underlying44 h1
  have hx2 : xs.map (·.1) = l.map fun y : Int => (.lit (.int .u64 y) : DataW H) := by simpa using hx1
  have h3 := congrArg (fun z => z[f]?) hx2
  simp only [List.getElem?_map, List.getElem?_eq_getElem hfl, List.getElem?_eq_getElem (show f < l.length by omega), Option.map_some, Option.some.injEq, e2, DataW.lit.injEq, Lit.int.injEq, true_and] at h3
  have h4 : cs[f]? = some (.int .u64 n) := by
    have h5 := congrArg (fun z => z[0]?) e1
    simpa [List.getElem?_take, List.getElem?_drop] using h5
  rw [h4, h3, List.getD_eq_getElem?_getD, List.getElem?_eq_getElem (show f < l.length by omega)]
  rfl
/-- a table of five rows -/
theorem tab_of {W : World} {base : Nat} {spare : Nat → Bool} {held : Bool} {fuel : Nat} {cs : List Value} {L : List (List Int)} {x : DataW Unit × List MemPlace} {enc : TypeId × Value → Unit}
    (h : DataW.trod enc Tryz.prog W base spare held fuel 102 cs = some x) (hx1 : x.1 = .agg (L.map fun l => .agg (l.map fun y : Int => .lit (.int .i64 y)))) (hL : L.length = 5) (hl : ∀ l ∈ L, l.length = 5) (i f : Nat) (hi : i < 5) (hf : f < 5) : cs[i * 5 + f]? = some (.int .i64 ((L.getD i []).getD f 0)) := by
  obtain ⟨xs, m, rfl, rfl, hlen, hn, hel⟩ := DataW.trod_array Tryz.underlying102 h
  rw [cells5] at hel
  have h1 := hel i hi
  have hil : i < xs.length := by omega
  rw [List.getElem?_eq_getElem hil] at h1
  have hx2 : xs.map (·.1) = L.map fun l => (.agg (l.map fun y : Int => .lit (.int .i64 y)) : DataW Unit) := by simpa using hx1
  have h3 := congrArg (fun z => z[i]?) hx2
  simp only [List.getElem?_map, List.getElem?_eq_getElem hil, List.getElem?_eq_getElem (show i < L.length by omega), Option.map_some, Option.some.injEq] at h3
  have h5 := ints_of h1 h3 (hl _ (List.getElem_mem _)) f hf
  rw [List.getD_eq_getElem?_getD (l := L), List.getElem?_eq_getElem (show i < L.length by omega), Option.getD_some]
  rw [← h5, List.getElem?_take, if_pos hf, List.getElem?_drop]
theorem of_laid {W : World} (h : laidMetH Tryz.prog laidT W) : TabF W := by
  rw [MakeChecks.laidMetH_plain _ _ _ (by kernel_rfl)] at h
  obtain ⟨ps, ⟨g0, t0, cs0, f0, p0, q0, hg0, ht0, hv0, hd0, hr0, _⟩, _, _⟩ := h
  obtain ⟨g1, t1, cs1, f1, p1, q1, hg1, ht1, hv1, hd1, hr1, _⟩ := hr0
  obtain ⟨g2, t2, cs2, f2, p2, q2, hg2, ht2, hv2, hd2, _, _⟩ := hr1
  obtain rfl := Option.some.inj (gFive.symm.trans hg0)
  obtain rfl := Option.some.inj (gBack.symm.trans hg1)
  obtain rfl := Option.some.inj (gDiv.symm.trans hg2)
  obtain rfl := Option.some.inj (tFive.symm.trans ht0)
  obtain rfl := Option.some.inj (tBack.symm.trans ht1)
  obtain rfl := Option.some.inj (tDiv.symm.trans ht2)
  have key : ∀ (j : Nat), j < 25 → j / 5 < 5 ∧ j % 5 < 5 ∧ j / 5 * 5 + j % 5 = j := fun j hj => by omega
  refine ⟨fun j v hj => ?_, fun j v hj => ?_, fun j v hj => ?_⟩
  · have hj25 : j < 25 := (List.getElem?_eq_some_iff.1 hj).1
    obtain ⟨k1, k2, k3⟩ := key j hj25
    have h4 := tab_of (L := [[1, 0, 0, 0, 0], [1, 1, 1, 1, 1], [1, -1, 1, -1, 1], [1, 2, 4, 8, 16], [0, 0, 0, 0, 1]]) hd0 rfl rfl (by decide) _ _ k1 k2
    rw [k3] at h4
    rw [Nat.zero_add]
    refine (World.var?_cell hg0 hv0 j).trans ?_
    have h5 : fiveL[j]? = some (([[1, 0, 0, 0, 0], [1, 1, 1, 1, 1], [1, -1, 1, -1, 1], [1, 2, 4, 8, 16], [0, 0, 0, 0, 1]].getD (j / 5) []).getD (j % 5) 0) := (by decide : ∀ j, j < 25 → fiveL[j]? = some (([[1, 0, 0, 0, 0], [1, 1, 1, 1, 1], [1, -1, 1, -1, 1], [1, 2, 4, 8, 16], [0, 0, 0, 0, 1]].getD (j / 5) []).getD (j % 5) (0 : Int))) j hj25
    rw [ivs5, List.getElem?_map, h5] at hj
    injection hj with hj
    rw [← hj, ← h4]
    simp
  · have hj25 : j < 25 := (List.getElem?_eq_some_iff.1 hj).1
    obtain ⟨k1, k2, k3⟩ := key j hj25
    have h4 := tab_of (L := [[1, 0, 0, 0, 0], [-3, 6, -2, -1, 12], [-2, 1, 1, 0, -2], [3, -3, -1, 1, -12], [0, 0, 0, 0, 1]]) hd1 rfl rfl (by decide) _ _ k1 k2
    rw [k3] at h4
    rw [Nat.zero_add]
    refine (World.var?_cell hg1 hv1 j).trans ?_
    have h5 : backL[j]? = some (([[1, 0, 0, 0, 0], [-3, 6, -2, -1, 12], [-2, 1, 1, 0, -2], [3, -3, -1, 1, -12], [0, 0, 0, 0, 1]].getD (j / 5) []).getD (j % 5) 0) := (by decide : ∀ j, j < 25 → backL[j]? = some (([[1, 0, 0, 0, 0], [-3, 6, -2, -1, 12], [-2, 1, 1, 0, -2], [3, -3, -1, 1, -12], [0, 0, 0, 0, 1]].getD (j / 5) []).getD (j % 5) (0 : Int))) j hj25
    rw [ivs5, List.getElem?_map, h5] at hj
    injection hj with hj
    rw [← hj, ← h4]
    simp
  · have hj5 : j < 5 := (List.getElem?_eq_some_iff.1 hj).1
    have h4 := words_of5 (l := [1, 6, 2, 6, 1]) hd2 rfl rfl j hj5
    rw [Nat.zero_add]
    refine (World.var?_cell hg2 hv2 j).trans ?_
    have h6 : cs2[j]? = cs2.toList[j]? := by simp
    rw [h6, h4, ← hj]
    rcases (show j = 0 ∨ j = 1 ∨ j = 2 ∨ j = 3 ∨ j = 4 by omega) with rfl | rfl | rfl | rfl | rfl <;> rfl
theorem door_met (os : Os) (args : Array Value) : laidMetH Tryz.prog laidT ((World.doorLaid Tryz.prog 34 os).forCall (fun _ _ => 0) ⟨#[], args, []⟩).memory :=
  laidMetH_of_parts3 (fuel := 8) (laidMet_of_run' 8 (by kernel_rfl) (by kernel_rfl)) (by kernel_rfl) (by kernel_rfl)
end Go.Proofs.YthpgdpkemnhneaaGreatDoor
