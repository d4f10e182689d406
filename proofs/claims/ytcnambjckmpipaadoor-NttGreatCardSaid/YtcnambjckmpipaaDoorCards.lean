/-
  DERIVED. GIVEN WITH THE SEED: THE CARDS: each row of YtcnambjckmpipaaDoorRows.lean that lists a variable, with what it lists TIED to the program's text (the seventh form; the later family's looks); each row that meets fmt, with fmt's text TOLD by the authors' own Lean function (tested against real Go, not proved from fmt's source: count such statements apart). THE CARD IS WHAT COUNTS. Prove the row's statement (the work); the ties are given (YtcnambjckmpipaaDoorTie.lean); close each card by the builder's one call (the guide's Derived/Test/ToyasCard.lean, 'card_holds'). Laid BY PROGRAM, IN A SANDBOX (cutbox-door.mjs). By AI agents, Wed Nov 11 2026. No macro, syntax, notation, axiom, sorry.
-/
import Derived.Test.YtcnambjckmpipaaDoorRows
import GoSem.ClaimSeven
namespace Go.Proofs.YtcnambjckmpipaaDoor
namespace Rows

/-- THE TIED CARD OF 'reckonerlaw04.NttResidues'. -/
def nttResiduesCard : Claim7 := { stood := { row := nttResiduesRow, standIns := [], harness := (true, "5d778525acaa207f7dcd9274b9c67f1750a71540df79bd05c2ddc66dbb5efdfd"), looks := false }, kinds := [], alts := [], laidByText := true, laidKinds := [.data, .data], laidTests := true, laidLooks := .later }
def NttResiduesCardSaid : Prop := Claim7.holds Tryd.pinned (.plain (OpenSpec.ofChange nttResiduesSpec)) nttResiduesCard

/-- THE TIED CARD OF 'reckonerlaw04.NttRoots'. -/
def nttRootsCard : Claim7 := { stood := { row := nttRootsRow, standIns := [], harness := (true, "5d778525acaa207f7dcd9274b9c67f1750a71540df79bd05c2ddc66dbb5efdfd"), looks := false }, kinds := [], alts := [], laidByText := true, laidKinds := [.data, .data], laidTests := true, laidLooks := .later }
def NttRootsCardSaid : Prop := Claim7.holds Tryd.pinned (.plain (OpenSpec.ofChange nttRootsSpec)) nttRootsCard

/-- THE TIED CARD OF 'reckonerlaw04.NttTransforms'. -/
def nttTransformsCard : Claim7 := { stood := { row := nttTransformsRow, standIns := [], harness := (true, "5d778525acaa207f7dcd9274b9c67f1750a71540df79bd05c2ddc66dbb5efdfd"), looks := false }, kinds := [], alts := [], laidByText := true, laidKinds := [.data, .data], laidTests := true, laidLooks := .later }
def NttTransformsCardSaid : Prop := Claim7.holds Tryd.pinned (.plain (OpenSpec.ofChange nttTransformsSpec)) nttTransformsCard

/-- THE TIED CARD OF 'reckonerlaw04.NttProducts'. -/
def nttProductsCard : Claim7 := { stood := { row := nttProductsRow, standIns := [], harness := (true, "5d778525acaa207f7dcd9274b9c67f1750a71540df79bd05c2ddc66dbb5efdfd"), looks := false }, kinds := [], alts := [], laidByText := true, laidKinds := [.data, .data], laidTests := true, laidLooks := .later }
def NttProductsCardSaid : Prop := Claim7.holds Tryd.pinned (.plain (OpenSpec.ofChange nttProductsSpec)) nttProductsCard

/-- THE TIED CARD OF 'reckonerlaw04.NttLongs'. -/
def nttLongsCard : Claim7 := { stood := { row := nttLongsRow, standIns := [], harness := (true, "5d778525acaa207f7dcd9274b9c67f1750a71540df79bd05c2ddc66dbb5efdfd"), looks := false }, kinds := [], alts := [], laidByText := true, laidKinds := [.data, .data], laidTests := true, laidLooks := .later }
def NttLongsCardSaid : Prop := Claim7.holds Tryd.pinned (.plain (OpenSpec.ofChange nttLongsSpec)) nttLongsCard

/-- THE TIED CARD OF 'reckonerlaw04.NttDigits'. -/
def nttDigitsCard : Claim7 := { stood := { row := nttDigitsRow, standIns := [], harness := (true, "5d778525acaa207f7dcd9274b9c67f1750a71540df79bd05c2ddc66dbb5efdfd"), looks := false }, kinds := [], alts := [], laidByText := true, laidKinds := [.data, .data], laidTests := true, laidLooks := .later }
def NttDigitsCardSaid : Prop := Claim7.holds Tryd.pinned (.plain (OpenSpec.ofChange nttDigitsSpec)) nttDigitsCard

/-- THE TIED CARD OF 'reckonerlaw04.NttNumbers'. -/
def nttNumbersCard : Claim7 := { stood := { row := nttNumbersRow, standIns := [], harness := (true, "5d778525acaa207f7dcd9274b9c67f1750a71540df79bd05c2ddc66dbb5efdfd"), looks := false }, kinds := [], alts := [], laidByText := true, laidKinds := [.data, .data], laidTests := true, laidLooks := .later }
def NttNumbersCardSaid : Prop := Claim7.holds Tryd.pinned (.plain (OpenSpec.ofChange nttNumbersSpec)) nttNumbersCard

/-- THE TIED CARD OF 'reckonerlaw04.NttGreat'. -/
def nttGreatCard : Claim7 := { stood := { row := nttGreatRow, standIns := [], harness := (true, "5d778525acaa207f7dcd9274b9c67f1750a71540df79bd05c2ddc66dbb5efdfd"), looks := false }, kinds := [], alts := [], laidByText := true, laidKinds := [.data, .data], laidTests := true, laidLooks := .later }
def NttGreatCardSaid : Prop := Claim7.holds Tryd.pinned (.plain (OpenSpec.ofChange nttGreatSpec)) nttGreatCard

/-- THE TIED CARD OF 'reckonerlaw04.NttConvolves'. -/
def nttConvolvesCard : Claim7 := { stood := { row := nttConvolvesRow, standIns := [], harness := (true, "5d778525acaa207f7dcd9274b9c67f1750a71540df79bd05c2ddc66dbb5efdfd"), looks := false }, kinds := [], alts := [], laidByText := true, laidKinds := [.data, .data], laidTests := true, laidLooks := .later }
def NttConvolvesCardSaid : Prop := Claim7.holds Tryd.pinned (.plain (OpenSpec.ofChange nttConvolvesSpec)) nttConvolvesCard

/-- THE TIED CARD OF 'reckonerlaw04.NttFolds'. -/
def nttFoldsCard : Claim7 := { stood := { row := nttFoldsRow, standIns := [], harness := (true, "5d778525acaa207f7dcd9274b9c67f1750a71540df79bd05c2ddc66dbb5efdfd"), looks := false }, kinds := [], alts := [], laidByText := true, laidKinds := [.data, .data], laidTests := true, laidLooks := .later }
def NttFoldsCardSaid : Prop := Claim7.holds Tryd.pinned (.plain (OpenSpec.ofChange nttFoldsSpec)) nttFoldsCard

/-- THE SECOND FORM's CARD OF 'reckonerlaw04.NttResidues'. -/
def nttResiduesUptoCard : Claim7 := { stood := { row := nttResiduesUptoRow, standIns := [], harness := (true, "5d778525acaa207f7dcd9274b9c67f1750a71540df79bd05c2ddc66dbb5efdfd"), looks := false }, kinds := [], alts := [], laidByText := true, laidKinds := [.data, .data], laidTests := true, laidLooks := .later }
def NttResiduesUptoCardSaid : Prop := Claim7.holds Tryd.pinned (.plain (OpenSpec.upto nttResiduesSpec)) nttResiduesUptoCard

/-- THE SECOND FORM's CARD OF 'reckonerlaw04.NttRoots'. -/
def nttRootsUptoCard : Claim7 := { stood := { row := nttRootsUptoRow, standIns := [], harness := (true, "5d778525acaa207f7dcd9274b9c67f1750a71540df79bd05c2ddc66dbb5efdfd"), looks := false }, kinds := [], alts := [], laidByText := true, laidKinds := [.data, .data], laidTests := true, laidLooks := .later }
def NttRootsUptoCardSaid : Prop := Claim7.holds Tryd.pinned (.plain (OpenSpec.upto nttRootsSpec)) nttRootsUptoCard

/-- THE SECOND FORM's CARD OF 'reckonerlaw04.NttTransforms'. -/
def nttTransformsUptoCard : Claim7 := { stood := { row := nttTransformsUptoRow, standIns := [], harness := (true, "5d778525acaa207f7dcd9274b9c67f1750a71540df79bd05c2ddc66dbb5efdfd"), looks := false }, kinds := [], alts := [], laidByText := true, laidKinds := [.data, .data], laidTests := true, laidLooks := .later }
def NttTransformsUptoCardSaid : Prop := Claim7.holds Tryd.pinned (.plain (OpenSpec.upto nttTransformsSpec)) nttTransformsUptoCard

/-- THE SECOND FORM's CARD OF 'reckonerlaw04.NttProducts'. -/
def nttProductsUptoCard : Claim7 := { stood := { row := nttProductsUptoRow, standIns := [], harness := (true, "5d778525acaa207f7dcd9274b9c67f1750a71540df79bd05c2ddc66dbb5efdfd"), looks := false }, kinds := [], alts := [], laidByText := true, laidKinds := [.data, .data], laidTests := true, laidLooks := .later }
def NttProductsUptoCardSaid : Prop := Claim7.holds Tryd.pinned (.plain (OpenSpec.upto nttProductsSpec)) nttProductsUptoCard

/-- THE SECOND FORM's CARD OF 'reckonerlaw04.NttLongs'. -/
def nttLongsUptoCard : Claim7 := { stood := { row := nttLongsUptoRow, standIns := [], harness := (true, "5d778525acaa207f7dcd9274b9c67f1750a71540df79bd05c2ddc66dbb5efdfd"), looks := false }, kinds := [], alts := [], laidByText := true, laidKinds := [.data, .data], laidTests := true, laidLooks := .later }
def NttLongsUptoCardSaid : Prop := Claim7.holds Tryd.pinned (.plain (OpenSpec.upto nttLongsSpec)) nttLongsUptoCard

/-- THE SECOND FORM's CARD OF 'reckonerlaw04.NttDigits'. -/
def nttDigitsUptoCard : Claim7 := { stood := { row := nttDigitsUptoRow, standIns := [], harness := (true, "5d778525acaa207f7dcd9274b9c67f1750a71540df79bd05c2ddc66dbb5efdfd"), looks := false }, kinds := [], alts := [], laidByText := true, laidKinds := [.data, .data], laidTests := true, laidLooks := .later }
def NttDigitsUptoCardSaid : Prop := Claim7.holds Tryd.pinned (.plain (OpenSpec.upto nttDigitsSpec)) nttDigitsUptoCard

/-- THE SECOND FORM's CARD OF 'reckonerlaw04.NttNumbers'. -/
def nttNumbersUptoCard : Claim7 := { stood := { row := nttNumbersUptoRow, standIns := [], harness := (true, "5d778525acaa207f7dcd9274b9c67f1750a71540df79bd05c2ddc66dbb5efdfd"), looks := false }, kinds := [], alts := [], laidByText := true, laidKinds := [.data, .data], laidTests := true, laidLooks := .later }
def NttNumbersUptoCardSaid : Prop := Claim7.holds Tryd.pinned (.plain (OpenSpec.upto nttNumbersSpec)) nttNumbersUptoCard

/-- THE SECOND FORM's CARD OF 'reckonerlaw04.NttGreat'. -/
def nttGreatUptoCard : Claim7 := { stood := { row := nttGreatUptoRow, standIns := [], harness := (true, "5d778525acaa207f7dcd9274b9c67f1750a71540df79bd05c2ddc66dbb5efdfd"), looks := false }, kinds := [], alts := [], laidByText := true, laidKinds := [.data, .data], laidTests := true, laidLooks := .later }
def NttGreatUptoCardSaid : Prop := Claim7.holds Tryd.pinned (.plain (OpenSpec.upto nttGreatSpec)) nttGreatUptoCard

/-- THE SECOND FORM's CARD OF 'reckonerlaw04.NttConvolves'. -/
def nttConvolvesUptoCard : Claim7 := { stood := { row := nttConvolvesUptoRow, standIns := [], harness := (true, "5d778525acaa207f7dcd9274b9c67f1750a71540df79bd05c2ddc66dbb5efdfd"), looks := false }, kinds := [], alts := [], laidByText := true, laidKinds := [.data, .data], laidTests := true, laidLooks := .later }
def NttConvolvesUptoCardSaid : Prop := Claim7.holds Tryd.pinned (.plain (OpenSpec.upto nttConvolvesSpec)) nttConvolvesUptoCard

/-- THE SECOND FORM's CARD OF 'reckonerlaw04.NttFolds'. -/
def nttFoldsUptoCard : Claim7 := { stood := { row := nttFoldsUptoRow, standIns := [], harness := (true, "5d778525acaa207f7dcd9274b9c67f1750a71540df79bd05c2ddc66dbb5efdfd"), looks := false }, kinds := [], alts := [], laidByText := true, laidKinds := [.data, .data], laidTests := true, laidLooks := .later }
def NttFoldsUptoCardSaid : Prop := Claim7.holds Tryd.pinned (.plain (OpenSpec.upto nttFoldsSpec)) nttFoldsUptoCard
end Rows
end Go.Proofs.YtcnambjckmpipaaDoor
