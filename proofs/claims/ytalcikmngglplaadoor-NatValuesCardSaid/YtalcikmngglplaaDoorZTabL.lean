/- What the laid table gives the walks, and the door's own heap. -/
import Derived.Test.YtalcikmngglplaaDoorZCnt
import Derived.Test.YtalcikmngglplaaDoorRows
import Derived.Test.YtalcikmngglplaaDoorZOpen
import Derived.OpenShut
import Derived.ProofKit
import Derived.LaidMore
import Derived.LaidLaws
import Derived.Stop.Joined
namespace Go.Proofs.YtalcikmngglplaaDoor
open Go.ChangeShapes Go.WideShapes Go.ChangeAt Go.RowKit
set_option linter.unusedVariables false
set_option linter.unusedSimpArgs false

def laidT : List (String × DataW Unit) := [("reckoner/words.counts", Rows.laid_reckoner_words_counts)]
theorem gCounts : Tryd.prog.globalNamed "reckoner/words.counts" = some 0 := by kernel_rfl
theorem tCounts : (Tryd.prog.globals[0]?).map (·.type) = some 93 := by kernel_rfl
theorem cells16 : Tryd.prog.cellsOf 92 = 16 := by kernel_rfl
theorem cells1 : Tryd.prog.cellsOf 3 = 1 := by kernel_rfl
theorem row_of {H : Type} {enc : TypeId × Value → H} {W : World} {base : Nat} {spare : Nat → Bool} {held : Bool} {fuel : Nat} {cs : List Value} {l : List Nat} {x : DataW H × List MemPlace}
    (h : DataW.trod enc Tryd.prog W base spare held fuel 92 cs = some x) (hx1 : x.1 = .agg (l.map fun y : Nat => .lit (.int .i64 (y : Int)))) (hl : l.length = 16) (f : Nat) (hf : f < 16) : cs[f]? = some (.int .i64 ((l.getD f 0 : Nat) : Int)) := by
  obtain ⟨xs, m, rfl, rfl, hlen, hn, hel⟩ := DataW.trod_array Tryd.underlying92 h
  rw [cells1] at hel
  have h1 := hel f hf
  have hfl : f < xs.length := by omega
  rw [List.getElem?_eq_getElem hfl] at h1
  obtain ⟨n, e1, e2, _⟩ := DataW.trod_int Tryd.underlying3 h1
  have hx2 : xs.map (·.1) = l.map fun y : Nat => (.lit (.int .i64 (y : Int)) : DataW H) := by simpa using hx1
  have h3 := congrArg (fun z => z[f]?) hx2
  simp only [List.getElem?_map, List.getElem?_eq_getElem hfl, List.getElem?_eq_getElem (show f < l.length by omega), Option.map_some, Option.some.injEq, e2, DataW.lit.injEq, Lit.int.injEq, true_and] at h3
  have h4 : cs[f]? = some (.int .i64 n) := by
    have h5 := congrArg (fun z => z[0]?) e1
    simpa [List.getElem?_take, List.getElem?_drop] using h5
  rw [h4, h3, List.getD_eq_getElem?_getD, List.getElem?_eq_getElem (show f < l.length by omega)]
  rfl
theorem of_laid {W : World} (h : laidMetH Tryd.prog laidT W) : TabC W := by
  rw [MakeChecks.laidMetH_plain _ _ _ (by kernel_rfl)] at h
  obtain ⟨ps, ⟨g0, t0, cs0, f0, p0, q0, hg0, ht0, hv0, hd0, _, _⟩, _, _⟩ := h
  obtain rfl := Option.some.inj (gCounts.symm.trans hg0)
  obtain rfl := Option.some.inj (tCounts.symm.trans ht0)
  obtain ⟨xs, m, rfl, hx, hlen, hn, hel⟩ := DataW.trod_array Tryd.underlying93 hd0
  rw [cells16] at hel
  have hx1 : xs.map (·.1) = [DataW.agg (tab0.map fun y : Nat => .lit (.int .i64 (y : Int))), DataW.agg (tab1.map fun y : Nat => .lit (.int .i64 (y : Int))), DataW.agg (tab2.map fun y : Nat => .lit (.int .i64 (y : Int)))] := by
    have := congrArg Prod.fst hx
    exact (DataW.agg.inj this).symm
  match xs, hn, hx1, hel with
  | [x0, x1, x2], _, hx1, hel =>
    simp only [List.map_cons, List.map_nil, List.cons.injEq, and_true] at hx1
    intro f hf
    have a0 := row_of (hel 0 (by decide)) hx1.1 rfl f hf
    have a1 := row_of (hel 1 (by decide)) hx1.2.1 rfl f hf
    have a2 := row_of (hel 2 (by decide)) hx1.2.2 rfl f hf
    refine ⟨(World.var?_cell hg0 hv0 f).trans ?_, (World.var?_cell hg0 hv0 (16 + f)).trans ?_, (World.var?_cell hg0 hv0 (32 + f)).trans ?_⟩
    · simpa [List.getElem?_take, List.getElem?_drop, hf] using a0
    · simpa [List.getElem?_take, List.getElem?_drop, hf] using a1
    · simpa [List.getElem?_take, List.getElem?_drop, hf] using a2
theorem door_met (os : Os) (args : Array Value) : laidMetH Tryd.prog laidT ((World.doorLaid Tryd.prog 42 os).forCall (fun _ _ => 0) ⟨#[], args, []⟩).memory :=
  laidMetH_of_parts3 (fuel := 8) (laidMet_of_run' 8 (by kernel_rfl) (by kernel_rfl)) (by kernel_rfl) (by kernel_rfl)
end Go.Proofs.YtalcikmngglplaaDoor
