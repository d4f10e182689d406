/-
  DERIVED. GIVEN WITH THE SEED: THE CARDS: each row of YtcnambjckmpipaaGreatDoorRows.lean that lists a variable, with what it lists TIED to the program's text (the seventh form; the later family's looks); each row that meets fmt, with fmt's text TOLD by the authors' own Lean function (tested against real Go, not proved from fmt's source: count such statements apart). THE CARD IS WHAT COUNTS. Prove the row's statement (the work); the ties are given (YtcnambjckmpipaaGreatDoorTie.lean); close each card by the builder's one call (the guide's Derived/Test/ToyasCard.lean, 'card_holds'). Laid BY PROGRAM, IN A SANDBOX (cutbox-door.mjs). By AI agents, Wed Nov 11 2026. No macro, syntax, notation, axiom, sorry.
-/
import Derived.Test.YtcnambjckmpipaaGreatDoorRows
import GoSem.ClaimSeven
namespace Go.Proofs.YtcnambjckmpipaaGreatDoor
namespace Rows

/-- THE TIED CARD OF 'reckonerlaw03.FastBacks'. -/
def fastBacksCard : Claim7 := { stood := { row := fastBacksRow, standIns := [], harness := (true, "df3f3c33e620b66ee42d42d82eec4a6063f1c89b468529ea77d0dea87b2e944d"), looks := false }, kinds := [], alts := [], laidByText := true, laidKinds := [.data, .data, .data], laidTests := true, laidLooks := .later }
def FastBacksCardSaid : Prop := Claim7.holds Tryz.pinned (.plain (OpenSpec.ofChange fastBacksSpec)) fastBacksCard

/-- THE TIED CARD OF 'reckonerlaw03.FastSizes'. -/
def fastSizesCard : Claim7 := { stood := { row := fastSizesRow, standIns := [], harness := (true, "df3f3c33e620b66ee42d42d82eec4a6063f1c89b468529ea77d0dea87b2e944d"), looks := false }, kinds := [], alts := [], laidByText := true, laidKinds := [.data, .data, .data], laidTests := true, laidLooks := .later }
def FastSizesCardSaid : Prop := Claim7.holds Tryz.pinned (.plain (OpenSpec.ofChange fastSizesSpec)) fastSizesCard

/-- THE SECOND FORM's CARD OF 'reckonerlaw03.FastBacks'. -/
def fastBacksUptoCard : Claim7 := { stood := { row := fastBacksUptoRow, standIns := [], harness := (true, "df3f3c33e620b66ee42d42d82eec4a6063f1c89b468529ea77d0dea87b2e944d"), looks := false }, kinds := [], alts := [], laidByText := true, laidKinds := [.data, .data, .data], laidTests := true, laidLooks := .later }
def FastBacksUptoCardSaid : Prop := Claim7.holds Tryz.pinned (.plain (OpenSpec.upto fastBacksSpec)) fastBacksUptoCard

/-- THE SECOND FORM's CARD OF 'reckonerlaw03.FastSizes'. -/
def fastSizesUptoCard : Claim7 := { stood := { row := fastSizesUptoRow, standIns := [], harness := (true, "df3f3c33e620b66ee42d42d82eec4a6063f1c89b468529ea77d0dea87b2e944d"), looks := false }, kinds := [], alts := [], laidByText := true, laidKinds := [.data, .data, .data], laidTests := true, laidLooks := .later }
def FastSizesUptoCardSaid : Prop := Claim7.holds Tryz.pinned (.plain (OpenSpec.upto fastSizesSpec)) fastSizesUptoCard
end Rows
end Go.Proofs.YtcnambjckmpipaaGreatDoor
