/-
  DERIVED. GIVEN WITH THE SEED: THE CARDS: each row of YtalcikmngglplaaDoorRows.lean that lists a variable, with what it lists TIED to the program's text (the seventh form; the later family's looks); each row that meets fmt, with fmt's text TOLD by the authors' own Lean function (tested against real Go, not proved from fmt's source: count such statements apart). THE CARD IS WHAT COUNTS. Prove the row's statement (the work); the ties are given (YtalcikmngglplaaDoorTie.lean); close each card by the builder's one call (the guide's Derived/Test/ToyasCard.lean, 'card_holds'). Laid BY PROGRAM, IN A SANDBOX (cutbox-door.mjs). By AI agents, Wed Nov 11 2026. No macro, syntax, notation, axiom, sorry.
-/
import Derived.Test.YtalcikmngglplaaDoorRows
import GoSem.ClaimSeven
namespace Go.Proofs.YtalcikmngglplaaDoor
namespace Rows

/-- THE TIED CARD OF 'reckonerlaw02.NatValues'. -/
def natValuesCard : Claim7 := { stood := { row := natValuesRow, standIns := [], harness := (true, "625af21ec4c7588da524687847c341f8c857c319a56e8f130f132de80b29d488"), looks := false }, kinds := [], alts := [], laidByText := true, laidKinds := [.data], laidTests := true, laidLooks := .later }
def NatValuesCardSaid : Prop := Claim7.holds Tryd.pinned (.plain (OpenSpec.ofChange natValuesSpec)) natValuesCard

/-- THE TIED CARD OF 'reckonerlaw03.FastJoins'. -/
def fastJoinsCard : Claim7 := { stood := { row := fastJoinsRow, standIns := [], harness := (true, "625af21ec4c7588da524687847c341f8c857c319a56e8f130f132de80b29d488"), looks := false }, kinds := [], alts := [], laidByText := true, laidKinds := [.data, .data, .data], laidTests := true, laidLooks := .later }
def FastJoinsCardSaid : Prop := Claim7.holds Tryd.pinned (.plain (OpenSpec.ofChange fastJoinsSpec)) fastJoinsCard

/-- THE SECOND FORM's CARD OF 'reckonerlaw02.NatValues'. -/
def natValuesUptoCard : Claim7 := { stood := { row := natValuesUptoRow, standIns := [], harness := (true, "625af21ec4c7588da524687847c341f8c857c319a56e8f130f132de80b29d488"), looks := false }, kinds := [], alts := [], laidByText := true, laidKinds := [.data], laidTests := true, laidLooks := .later }
def NatValuesUptoCardSaid : Prop := Claim7.holds Tryd.pinned (.plain (OpenSpec.upto natValuesSpec)) natValuesUptoCard

/-- THE SECOND FORM's CARD OF 'reckonerlaw03.FastJoins'. -/
def fastJoinsUptoCard : Claim7 := { stood := { row := fastJoinsUptoRow, standIns := [], harness := (true, "625af21ec4c7588da524687847c341f8c857c319a56e8f130f132de80b29d488"), looks := false }, kinds := [], alts := [], laidByText := true, laidKinds := [.data, .data, .data], laidTests := true, laidLooks := .later }
def FastJoinsUptoCardSaid : Prop := Claim7.holds Tryd.pinned (.plain (OpenSpec.upto fastJoinsSpec)) fastJoinsUptoCard
end Rows
end Go.Proofs.YtalcikmngglplaaDoor
