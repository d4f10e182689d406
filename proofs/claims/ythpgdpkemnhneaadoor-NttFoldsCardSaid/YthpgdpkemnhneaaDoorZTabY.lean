/- What the laid tables of math/bits give the walks, and the door's own heap. -/
import Derived.Test.YthpgdpkemnhneaaDoorP13
import Derived.Test.YthpgdpkemnhneaaDoorRows
import Derived.Test.YthpgdpkemnhneaaDoorZOpen
import Derived.OpenShut
import Derived.ProofKit
import Derived.LaidMore
import Derived.LaidLaws
import Derived.Stop.Joined
namespace Go.Proofs.YthpgdpkemnhneaaDoor
open Go.ChangeShapes Go.WideShapes Go.ChangeAt Go.RowKit
set_option linter.unusedVariables false
set_option linter.unusedSimpArgs false

def laidT : List (String × DataW Unit) := [("math/bits.deBruijn32tab", Rows.laid_math_bits_deBruijn32tab), ("math/bits.deBruijn64tab", Rows.laid_math_bits_deBruijn64tab)]
theorem gB32 : Tryd.prog.globalNamed "math/bits.deBruijn32tab" = some 0 := by kernel_rfl
theorem gB64 : Tryd.prog.globalNamed "math/bits.deBruijn64tab" = some 1 := by kernel_rfl
theorem tB64 : (Tryd.prog.globals[1]?).map (·.type) = some 110 := by kernel_rfl
theorem cells1b : Tryd.prog.cellsOf 5 = 1 := by kernel_rfl
theorem bytes_of64 {H : Type} {enc : TypeId × Value → H} {W : World} {base : Nat} {spare : Nat → Bool} {held : Bool} {fuel : Nat} {cs : List Value} {l : List Nat} {x : DataW H × List MemPlace}
    (h : DataW.trod enc Tryd.prog W base spare held fuel 110 cs = some x) (hx1 : x.1 = .agg (l.map fun y : Nat => .lit (.int .u8 (y : Int)))) (hl : l.length = 64) (f : Nat) (hf : f < 64) : cs[f]? = some (.int .u8 ((l.getD f 0 : Nat) : Int)) := by
  obtain ⟨xs, m, rfl, rfl, hlen, hn, hel⟩ := DataW.trod_array Tryd.underlying110 h
  rw [cells1b] at hel
  have h1 := hel f hf
  have hfl : f < xs.length := by omega
  rw [List.getElem?_eq_getElem hfl] at h1
  obtain ⟨n, e1, e2, _⟩ := DataW.trod_int Tryd.underlying5 h1
  have hx2 : xs.map (·.1) = l.map fun y : Nat => (.lit (.int .u8 (y : Int)) : DataW H) := by simpa using hx1
  have h3 := congrArg (fun z => z[f]?) hx2
  simp only [List.getElem?_map, List.getElem?_eq_getElem hfl, List.getElem?_eq_getElem (show f < l.length by omega), Option.map_some, Option.some.injEq, e2, DataW.lit.injEq, Lit.int.injEq, true_and] at h3
  have h4 : cs[f]? = some (.int .u8 n) := by
    have h5 := congrArg (fun z => z[0]?) e1
    simpa [List.getElem?_take, List.getElem?_drop] using h5
  rw [h4, h3, List.getD_eq_getElem?_getD, List.getElem?_eq_getElem (show f < l.length by omega)]
  rfl
theorem cell_lt {W : World} {p : Addr} {v : Value} (h : W.cell? p = some v) : p.block < W.heap.size := by
  rcases Nat.lt_or_ge p.block W.heap.size with h1 | h1
  · exact h1
  · exfalso
    have h2 : W.heap[p.block]? = none := by simp; omega
    simp [World.cell?, h2] at h
theorem of_laid {W : World} (h : laidMetH Tryd.prog laidT W) : TabY W := by
  rw [MakeChecks.laidMetH_plain _ _ _ (by kernel_rfl)] at h
  obtain ⟨ps, ⟨g0, t0, cs0, f0, p0, q0, hg0, ht0, hv0, hd0, hr0, _⟩, _, _⟩ := h
  obtain ⟨g1, t1, cs1, f1, p1, q1, hg1, ht1, hv1, hd1, _, _⟩ := hr0
  obtain rfl := Option.some.inj (gB64.symm.trans hg1)
  obtain rfl := Option.some.inj (tB64.symm.trans ht1)
  have key : ∀ j, j < 64 → W.cell? ⟨1, j, none⟩ = some (.int .u8 ((Lib.deBruijn64tab.getD j 0 : Nat) : Int)) := fun j hj => by
    have h4 := bytes_of64 (l := Lib.deBruijn64tab) hd1 rfl rfl j hj
    refine (World.var?_cell hg1 hv1 j).trans ?_
    rw [← h4]
    simp
  exact ⟨fun j hj => key j hj, cell_lt (key 0 (by decide))⟩
theorem door_met (os : Os) (args : Array Value) : laidMetH Tryd.prog laidT ((World.doorLaid Tryd.prog 19 os).forCall (fun _ _ => 0) ⟨#[], args, []⟩).memory :=
  laidMetH_of_parts3 (fuel := 8) (laidMet_of_run' 8 (by kernel_rfl) (by kernel_rfl)) (by kernel_rfl) (by kernel_rfl)
end Go.Proofs.YthpgdpkemnhneaaDoor
