/-
  DERIVED. GIVEN WITH THE SEED: THE CARDS: each row of YtalcikmngglplabDoorRows.lean that lists a variable, with what it lists TIED to the program's text (the seventh form; the later family's looks); each row that meets fmt, with fmt's text TOLD by the authors' own Lean function (tested against real Go, not proved from fmt's source: count such statements apart). THE CARD IS WHAT COUNTS. Prove the row's statement (the work); the ties are given (YtalcikmngglplabDoorTie.lean); close each card by the builder's one call (the guide's Derived/Test/ToyasCard.lean, 'card_holds'). Laid BY PROGRAM, IN A SANDBOX (cutbox-door.mjs). By AI agents, Wed Nov 11 2026. No macro, syntax, notation, axiom, sorry.
-/
import Derived.Test.YtalcikmngglplabDoorRows
import GoSem.ClaimSeven
namespace Go.Proofs.YtalcikmngglplabDoor
namespace Rows

/-- THE TIED CARD OF 'reckonerlaw03.FastValues'. -/
def fastValuesCard : Claim7 := { stood := { row := fastValuesRow, standIns := [], harness := (true, "e3ad4b9263cba08f028da36ccb801fe0939a4cd625aeb3d85c3f2d3973f3073c"), looks := false }, kinds := [], alts := [], laidByText := true, laidKinds := [.data, .data, .data], laidTests := true, laidLooks := .later }
def FastValuesCardSaid : Prop := Claim7.holds Tryd.pinned (.plain (OpenSpec.ofChange fastValuesSpec)) fastValuesCard

/-- THE TIED CARD OF 'reckonerlaw03.FastPoints'. -/
def fastPointsCard : Claim7 := { stood := { row := fastPointsRow, standIns := [], harness := (true, "e3ad4b9263cba08f028da36ccb801fe0939a4cd625aeb3d85c3f2d3973f3073c"), looks := false }, kinds := [], alts := [], laidByText := true, laidKinds := [.data, .data, .data], laidTests := true, laidLooks := .later }
def FastPointsCardSaid : Prop := Claim7.holds Tryd.pinned (.plain (OpenSpec.ofChange fastPointsSpec)) fastPointsCard

/-- THE SECOND FORM's CARD OF 'reckonerlaw03.FastValues'. -/
def fastValuesUptoCard : Claim7 := { stood := { row := fastValuesUptoRow, standIns := [], harness := (true, "e3ad4b9263cba08f028da36ccb801fe0939a4cd625aeb3d85c3f2d3973f3073c"), looks := false }, kinds := [], alts := [], laidByText := true, laidKinds := [.data, .data, .data], laidTests := true, laidLooks := .later }
def FastValuesUptoCardSaid : Prop := Claim7.holds Tryd.pinned (.plain (OpenSpec.upto fastValuesSpec)) fastValuesUptoCard

/-- THE SECOND FORM's CARD OF 'reckonerlaw03.FastPoints'. -/
def fastPointsUptoCard : Claim7 := { stood := { row := fastPointsUptoRow, standIns := [], harness := (true, "e3ad4b9263cba08f028da36ccb801fe0939a4cd625aeb3d85c3f2d3973f3073c"), looks := false }, kinds := [], alts := [], laidByText := true, laidKinds := [.data, .data, .data], laidTests := true, laidLooks := .later }
def FastPointsUptoCardSaid : Prop := Claim7.holds Tryd.pinned (.plain (OpenSpec.upto fastPointsSpec)) fastPointsUptoCard
end Rows
end Go.Proofs.YtalcikmngglplabDoor
