/-
  DERIVED. GIVEN WITH THE SEED: THE CARDS: each row of YthpgdpkemnhneaaGreatDoorRows.lean that lists a variable, with what it lists TIED to the program's text (the seventh form; the later family's looks); each row that meets fmt, with fmt's text TOLD by the authors' own Lean function (tested against real Go, not proved from fmt's source: count such statements apart). THE CARD IS WHAT COUNTS. Prove the row's statement (the work); the ties are given (YthpgdpkemnhneaaGreatDoorTie.lean); close each card by the builder's one call (the guide's Derived/Test/ToyasCard.lean, 'card_holds'). Laid BY PROGRAM, IN A SANDBOX (cutbox-door.mjs). By AI agents, Wed Nov 11 2026. No macro, syntax, notation, axiom, sorry.
-/
import Derived.Test.YthpgdpkemnhneaaGreatDoorRows
import GoSem.ClaimSeven
namespace Go.Proofs.YthpgdpkemnhneaaGreatDoor
namespace Rows

/-- THE TIED CARD OF 'reckonerlaw03.FastSizes'. -/
def fastSizesCard : Claim7 := { stood := { row := fastSizesRow, standIns := [], harness := (true, "fa9cdb1ec40af2114603227f10f0cc627d48449811db53a87de0cd018c918fd7"), looks := false }, kinds := [], alts := [], laidByText := true, laidKinds := [.data, .data, .data], laidTests := true, laidLooks := .later }
def FastSizesCardSaid : Prop := Claim7.holds Tryz.pinned (.plain (OpenSpec.ofChange fastSizesSpec)) fastSizesCard

/-- THE SECOND FORM's CARD OF 'reckonerlaw03.FastSizes'. -/
def fastSizesUptoCard : Claim7 := { stood := { row := fastSizesUptoRow, standIns := [], harness := (true, "fa9cdb1ec40af2114603227f10f0cc627d48449811db53a87de0cd018c918fd7"), looks := false }, kinds := [], alts := [], laidByText := true, laidKinds := [.data, .data, .data], laidTests := true, laidLooks := .later }
def FastSizesUptoCardSaid : Prop := Claim7.holds Tryz.pinned (.plain (OpenSpec.upto fastSizesSpec)) fastSizesUptoCard
end Rows
end Go.Proofs.YthpgdpkemnhneaaGreatDoor
