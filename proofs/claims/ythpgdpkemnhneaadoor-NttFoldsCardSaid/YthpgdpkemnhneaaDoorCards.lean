/-
  DERIVED. GIVEN WITH THE SEED: THE CARDS: each row of YthpgdpkemnhneaaDoorRows.lean that lists a variable, with what it lists TIED to the program's text (the seventh form; the later family's looks); each row that meets fmt, with fmt's text TOLD by the authors' own Lean function (tested against real Go, not proved from fmt's source: count such statements apart). THE CARD IS WHAT COUNTS. Prove the row's statement (the work); the ties are given (YthpgdpkemnhneaaDoorTie.lean); close each card by the builder's one call (the guide's Derived/Test/ToyasCard.lean, 'card_holds'). Laid BY PROGRAM, IN A SANDBOX (cutbox-door.mjs). By AI agents, Wed Nov 11 2026. No macro, syntax, notation, axiom, sorry.
-/
import Derived.Test.YthpgdpkemnhneaaDoorRows
import GoSem.ClaimSeven
namespace Go.Proofs.YthpgdpkemnhneaaDoor
namespace Rows

/-- THE TIED CARD OF 'reckonerlaw04.NttTransforms'. -/
def nttTransformsCard : Claim7 := { stood := { row := nttTransformsRow, standIns := [], harness := (true, "14ef9de6c9415fc676f0b4f871ac5afc0afd7e6f9bdd9ee51fd4ad5762f2f291"), looks := false }, kinds := [], alts := [], laidByText := true, laidKinds := [.data, .data], laidTests := true, laidLooks := .later }
def NttTransformsCardSaid : Prop := Claim7.holds Tryd.pinned (.plain (OpenSpec.ofChange nttTransformsSpec)) nttTransformsCard

/-- THE TIED CARD OF 'reckonerlaw04.NttProducts'. -/
def nttProductsCard : Claim7 := { stood := { row := nttProductsRow, standIns := [], harness := (true, "14ef9de6c9415fc676f0b4f871ac5afc0afd7e6f9bdd9ee51fd4ad5762f2f291"), looks := false }, kinds := [], alts := [], laidByText := true, laidKinds := [.data, .data], laidTests := true, laidLooks := .later }
def NttProductsCardSaid : Prop := Claim7.holds Tryd.pinned (.plain (OpenSpec.ofChange nttProductsSpec)) nttProductsCard

/-- THE TIED CARD OF 'reckonerlaw04.NttLongs'. -/
def nttLongsCard : Claim7 := { stood := { row := nttLongsRow, standIns := [], harness := (true, "14ef9de6c9415fc676f0b4f871ac5afc0afd7e6f9bdd9ee51fd4ad5762f2f291"), looks := false }, kinds := [], alts := [], laidByText := true, laidKinds := [.data, .data], laidTests := true, laidLooks := .later }
def NttLongsCardSaid : Prop := Claim7.holds Tryd.pinned (.plain (OpenSpec.ofChange nttLongsSpec)) nttLongsCard

/-- THE TIED CARD OF 'reckonerlaw04.NttDigits'. -/
def nttDigitsCard : Claim7 := { stood := { row := nttDigitsRow, standIns := [], harness := (true, "14ef9de6c9415fc676f0b4f871ac5afc0afd7e6f9bdd9ee51fd4ad5762f2f291"), looks := false }, kinds := [], alts := [], laidByText := true, laidKinds := [.data, .data], laidTests := true, laidLooks := .later }
def NttDigitsCardSaid : Prop := Claim7.holds Tryd.pinned (.plain (OpenSpec.ofChange nttDigitsSpec)) nttDigitsCard

/-- THE TIED CARD OF 'reckonerlaw04.NttConvolves'. -/
def nttConvolvesCard : Claim7 := { stood := { row := nttConvolvesRow, standIns := [], harness := (true, "14ef9de6c9415fc676f0b4f871ac5afc0afd7e6f9bdd9ee51fd4ad5762f2f291"), looks := false }, kinds := [], alts := [], laidByText := true, laidKinds := [.data, .data], laidTests := true, laidLooks := .later }
def NttConvolvesCardSaid : Prop := Claim7.holds Tryd.pinned (.plain (OpenSpec.ofChange nttConvolvesSpec)) nttConvolvesCard

/-- THE TIED CARD OF 'reckonerlaw04.NttFolds'. -/
def nttFoldsCard : Claim7 := { stood := { row := nttFoldsRow, standIns := [], harness := (true, "14ef9de6c9415fc676f0b4f871ac5afc0afd7e6f9bdd9ee51fd4ad5762f2f291"), looks := false }, kinds := [], alts := [], laidByText := true, laidKinds := [.data, .data], laidTests := true, laidLooks := .later }
def NttFoldsCardSaid : Prop := Claim7.holds Tryd.pinned (.plain (OpenSpec.ofChange nttFoldsSpec)) nttFoldsCard

/-- THE SECOND FORM's CARD OF 'reckonerlaw04.NttTransforms'. -/
def nttTransformsUptoCard : Claim7 := { stood := { row := nttTransformsUptoRow, standIns := [], harness := (true, "14ef9de6c9415fc676f0b4f871ac5afc0afd7e6f9bdd9ee51fd4ad5762f2f291"), looks := false }, kinds := [], alts := [], laidByText := true, laidKinds := [.data, .data], laidTests := true, laidLooks := .later }
def NttTransformsUptoCardSaid : Prop := Claim7.holds Tryd.pinned (.plain (OpenSpec.upto nttTransformsSpec)) nttTransformsUptoCard

/-- THE SECOND FORM's CARD OF 'reckonerlaw04.NttProducts'. -/
def nttProductsUptoCard : Claim7 := { stood := { row := nttProductsUptoRow, standIns := [], harness := (true, "14ef9de6c9415fc676f0b4f871ac5afc0afd7e6f9bdd9ee51fd4ad5762f2f291"), looks := false }, kinds := [], alts := [], laidByText := true, laidKinds := [.data, .data], laidTests := true, laidLooks := .later }
def NttProductsUptoCardSaid : Prop := Claim7.holds Tryd.pinned (.plain (OpenSpec.upto nttProductsSpec)) nttProductsUptoCard

/-- THE SECOND FORM's CARD OF 'reckonerlaw04.NttLongs'. -/
def nttLongsUptoCard : Claim7 := { stood := { row := nttLongsUptoRow, standIns := [], harness := (true, "14ef9de6c9415fc676f0b4f871ac5afc0afd7e6f9bdd9ee51fd4ad5762f2f291"), looks := false }, kinds := [], alts := [], laidByText := true, laidKinds := [.data, .data], laidTests := true, laidLooks := .later }
def NttLongsUptoCardSaid : Prop := Claim7.holds Tryd.pinned (.plain (OpenSpec.upto nttLongsSpec)) nttLongsUptoCard

/-- THE SECOND FORM's CARD OF 'reckonerlaw04.NttDigits'. -/
def nttDigitsUptoCard : Claim7 := { stood := { row := nttDigitsUptoRow, standIns := [], harness := (true, "14ef9de6c9415fc676f0b4f871ac5afc0afd7e6f9bdd9ee51fd4ad5762f2f291"), looks := false }, kinds := [], alts := [], laidByText := true, laidKinds := [.data, .data], laidTests := true, laidLooks := .later }
def NttDigitsUptoCardSaid : Prop := Claim7.holds Tryd.pinned (.plain (OpenSpec.upto nttDigitsSpec)) nttDigitsUptoCard

/-- THE SECOND FORM's CARD OF 'reckonerlaw04.NttConvolves'. -/
def nttConvolvesUptoCard : Claim7 := { stood := { row := nttConvolvesUptoRow, standIns := [], harness := (true, "14ef9de6c9415fc676f0b4f871ac5afc0afd7e6f9bdd9ee51fd4ad5762f2f291"), looks := false }, kinds := [], alts := [], laidByText := true, laidKinds := [.data, .data], laidTests := true, laidLooks := .later }
def NttConvolvesUptoCardSaid : Prop := Claim7.holds Tryd.pinned (.plain (OpenSpec.upto nttConvolvesSpec)) nttConvolvesUptoCard

/-- THE SECOND FORM's CARD OF 'reckonerlaw04.NttFolds'. -/
def nttFoldsUptoCard : Claim7 := { stood := { row := nttFoldsUptoRow, standIns := [], harness := (true, "14ef9de6c9415fc676f0b4f871ac5afc0afd7e6f9bdd9ee51fd4ad5762f2f291"), looks := false }, kinds := [], alts := [], laidByText := true, laidKinds := [.data, .data], laidTests := true, laidLooks := .later }
def NttFoldsUptoCardSaid : Prop := Claim7.holds Tryd.pinned (.plain (OpenSpec.upto nttFoldsSpec)) nttFoldsUptoCard
end Rows
end Go.Proofs.YthpgdpkemnhneaaDoor
