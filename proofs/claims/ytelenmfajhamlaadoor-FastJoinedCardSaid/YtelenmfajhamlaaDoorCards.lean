/-
  DERIVED. GIVEN WITH THE SEED: THE CARDS: each row of YtelenmfajhamlaaDoorRows.lean that lists a variable, with what it lists TIED to the program's text (the seventh form; the later family's looks); each row that meets fmt, with fmt's text TOLD by the authors' own Lean function (tested against real Go, not proved from fmt's source: count such statements apart). THE CARD IS WHAT COUNTS. Prove the row's statement (the work); the ties are given (YtelenmfajhamlaaDoorTie.lean); close each card by the builder's one call (the guide's Derived/Test/ToyasCard.lean, 'card_holds'). Laid BY PROGRAM, IN A SANDBOX (cutbox-door.mjs). By AI agents, Wed Nov 11 2026. No macro, syntax, notation, axiom, sorry.
-/
import Derived.Test.YtelenmfajhamlaaDoorRows
import GoSem.ClaimSeven
namespace Go.Proofs.YtelenmfajhamlaaDoor
namespace Rows

/-- THE TIED CARD OF 'reckonerlaw03.FastPieces'. -/
def fastPiecesCard : Claim7 := { stood := { row := fastPiecesRow, standIns := [], harness := (true, "6a469b195d8039b8324edf593fecbd7f6c170096de608c14d76177d7ae5685f4"), looks := false }, kinds := [], alts := [], laidByText := true, laidKinds := [.data, .data, .data], laidTests := true, laidLooks := .later }
def FastPiecesCardSaid : Prop := Claim7.holds Tryd.pinned (.plain (OpenSpec.ofChange fastPiecesSpec)) fastPiecesCard

/-- THE TIED CARD OF 'reckonerlaw03.FastJoins'. -/
def fastJoinsCard : Claim7 := { stood := { row := fastJoinsRow, standIns := [], harness := (true, "6a469b195d8039b8324edf593fecbd7f6c170096de608c14d76177d7ae5685f4"), looks := false }, kinds := [], alts := [], laidByText := true, laidKinds := [.data, .data, .data], laidTests := true, laidLooks := .later }
def FastJoinsCardSaid : Prop := Claim7.holds Tryd.pinned (.plain (OpenSpec.ofChange fastJoinsSpec)) fastJoinsCard

/-- THE TIED CARD OF 'reckonerlaw03.FastValues'. -/
def fastValuesCard : Claim7 := { stood := { row := fastValuesRow, standIns := [], harness := (true, "6a469b195d8039b8324edf593fecbd7f6c170096de608c14d76177d7ae5685f4"), looks := false }, kinds := [], alts := [], laidByText := true, laidKinds := [.data, .data, .data], laidTests := true, laidLooks := .later }
def FastValuesCardSaid : Prop := Claim7.holds Tryd.pinned (.plain (OpenSpec.ofChange fastValuesSpec)) fastValuesCard

/-- THE TIED CARD OF 'reckonerlaw03.FastMuls'. -/
def fastMulsCard : Claim7 := { stood := { row := fastMulsRow, standIns := [], harness := (true, "6a469b195d8039b8324edf593fecbd7f6c170096de608c14d76177d7ae5685f4"), looks := false }, kinds := [], alts := [], laidByText := true, laidKinds := [.data, .data, .data], laidTests := true, laidLooks := .later }
def FastMulsCardSaid : Prop := Claim7.holds Tryd.pinned (.plain (OpenSpec.ofChange fastMulsSpec)) fastMulsCard

/-- THE TIED CARD OF 'reckonerlaw03.FastLows'. -/
def fastLowsCard : Claim7 := { stood := { row := fastLowsRow, standIns := [], harness := (true, "6a469b195d8039b8324edf593fecbd7f6c170096de608c14d76177d7ae5685f4"), looks := false }, kinds := [], alts := [], laidByText := true, laidKinds := [.data, .data, .data], laidTests := true, laidLooks := .later }
def FastLowsCardSaid : Prop := Claim7.holds Tryd.pinned (.plain (OpenSpec.ofChange fastLowsSpec)) fastLowsCard

/-- THE TIED CARD OF 'reckonerlaw03.FastCosts'. -/
def fastCostsCard : Claim7 := { stood := { row := fastCostsRow, standIns := [], harness := (true, "6a469b195d8039b8324edf593fecbd7f6c170096de608c14d76177d7ae5685f4"), looks := false }, kinds := [], alts := [], laidByText := true, laidKinds := [.data, .data, .data], laidTests := true, laidLooks := .later }
def FastCostsCardSaid : Prop := Claim7.holds Tryd.pinned (.plain (OpenSpec.ofChange fastCostsSpec)) fastCostsCard

/-- THE TIED CARD OF 'reckonerlaw03.FastJoined'. -/
def fastJoinedCard : Claim7 := { stood := { row := fastJoinedRow, standIns := [], harness := (true, "6a469b195d8039b8324edf593fecbd7f6c170096de608c14d76177d7ae5685f4"), looks := false }, kinds := [], alts := [], laidByText := true, laidKinds := [.data, .data, .data], laidTests := true, laidLooks := .later }
def FastJoinedCardSaid : Prop := Claim7.holds Tryd.pinned (.plain (OpenSpec.ofChange fastJoinedSpec)) fastJoinedCard

/-- THE TIED CARD OF 'reckonerlaw03.FastPoints'. -/
def fastPointsCard : Claim7 := { stood := { row := fastPointsRow, standIns := [], harness := (true, "6a469b195d8039b8324edf593fecbd7f6c170096de608c14d76177d7ae5685f4"), looks := false }, kinds := [], alts := [], laidByText := true, laidKinds := [.data, .data, .data], laidTests := true, laidLooks := .later }
def FastPointsCardSaid : Prop := Claim7.holds Tryd.pinned (.plain (OpenSpec.ofChange fastPointsSpec)) fastPointsCard

/-- THE SECOND FORM's CARD OF 'reckonerlaw03.FastPieces'. -/
def fastPiecesUptoCard : Claim7 := { stood := { row := fastPiecesUptoRow, standIns := [], harness := (true, "6a469b195d8039b8324edf593fecbd7f6c170096de608c14d76177d7ae5685f4"), looks := false }, kinds := [], alts := [], laidByText := true, laidKinds := [.data, .data, .data], laidTests := true, laidLooks := .later }
def FastPiecesUptoCardSaid : Prop := Claim7.holds Tryd.pinned (.plain (OpenSpec.upto fastPiecesSpec)) fastPiecesUptoCard

/-- THE SECOND FORM's CARD OF 'reckonerlaw03.FastJoins'. -/
def fastJoinsUptoCard : Claim7 := { stood := { row := fastJoinsUptoRow, standIns := [], harness := (true, "6a469b195d8039b8324edf593fecbd7f6c170096de608c14d76177d7ae5685f4"), looks := false }, kinds := [], alts := [], laidByText := true, laidKinds := [.data, .data, .data], laidTests := true, laidLooks := .later }
def FastJoinsUptoCardSaid : Prop := Claim7.holds Tryd.pinned (.plain (OpenSpec.upto fastJoinsSpec)) fastJoinsUptoCard

/-- THE SECOND FORM's CARD OF 'reckonerlaw03.FastValues'. -/
def fastValuesUptoCard : Claim7 := { stood := { row := fastValuesUptoRow, standIns := [], harness := (true, "6a469b195d8039b8324edf593fecbd7f6c170096de608c14d76177d7ae5685f4"), looks := false }, kinds := [], alts := [], laidByText := true, laidKinds := [.data, .data, .data], laidTests := true, laidLooks := .later }
def FastValuesUptoCardSaid : Prop := Claim7.holds Tryd.pinned (.plain (OpenSpec.upto fastValuesSpec)) fastValuesUptoCard

/-- THE SECOND FORM's CARD OF 'reckonerlaw03.FastMuls'. -/
def fastMulsUptoCard : Claim7 := { stood := { row := fastMulsUptoRow, standIns := [], harness := (true, "6a469b195d8039b8324edf593fecbd7f6c170096de608c14d76177d7ae5685f4"), looks := false }, kinds := [], alts := [], laidByText := true, laidKinds := [.data, .data, .data], laidTests := true, laidLooks := .later }
def FastMulsUptoCardSaid : Prop := Claim7.holds Tryd.pinned (.plain (OpenSpec.upto fastMulsSpec)) fastMulsUptoCard

/-- THE SECOND FORM's CARD OF 'reckonerlaw03.FastLows'. -/
def fastLowsUptoCard : Claim7 := { stood := { row := fastLowsUptoRow, standIns := [], harness := (true, "6a469b195d8039b8324edf593fecbd7f6c170096de608c14d76177d7ae5685f4"), looks := false }, kinds := [], alts := [], laidByText := true, laidKinds := [.data, .data, .data], laidTests := true, laidLooks := .later }
def FastLowsUptoCardSaid : Prop := Claim7.holds Tryd.pinned (.plain (OpenSpec.upto fastLowsSpec)) fastLowsUptoCard

/-- THE SECOND FORM's CARD OF 'reckonerlaw03.FastCosts'. -/
def fastCostsUptoCard : Claim7 := { stood := { row := fastCostsUptoRow, standIns := [], harness := (true, "6a469b195d8039b8324edf593fecbd7f6c170096de608c14d76177d7ae5685f4"), looks := false }, kinds := [], alts := [], laidByText := true, laidKinds := [.data, .data, .data], laidTests := true, laidLooks := .later }
def FastCostsUptoCardSaid : Prop := Claim7.holds Tryd.pinned (.plain (OpenSpec.upto fastCostsSpec)) fastCostsUptoCard

/-- THE SECOND FORM's CARD OF 'reckonerlaw03.FastJoined'. -/
def fastJoinedUptoCard : Claim7 := { stood := { row := fastJoinedUptoRow, standIns := [], harness := (true, "6a469b195d8039b8324edf593fecbd7f6c170096de608c14d76177d7ae5685f4"), looks := false }, kinds := [], alts := [], laidByText := true, laidKinds := [.data, .data, .data], laidTests := true, laidLooks := .later }
def FastJoinedUptoCardSaid : Prop := Claim7.holds Tryd.pinned (.plain (OpenSpec.upto fastJoinedSpec)) fastJoinedUptoCard

/-- THE SECOND FORM's CARD OF 'reckonerlaw03.FastPoints'. -/
def fastPointsUptoCard : Claim7 := { stood := { row := fastPointsUptoRow, standIns := [], harness := (true, "6a469b195d8039b8324edf593fecbd7f6c170096de608c14d76177d7ae5685f4"), looks := false }, kinds := [], alts := [], laidByText := true, laidKinds := [.data, .data, .data], laidTests := true, laidLooks := .later }
def FastPointsUptoCardSaid : Prop := Claim7.holds Tryd.pinned (.plain (OpenSpec.upto fastPointsSpec)) fastPointsUptoCard
end Rows
end Go.Proofs.YtelenmfajhamlaaDoor
