/-
  NARROWER THAN 'FOR EVERY INPUT', by the rows' own cells (each row's printed sentence says how): NttTransforms: laid · NttProducts: laid · NttLongs: laid · NttDigits: laid · NttConvolves: laid · NttFolds: laid.
  DERIVED. THE GIVEN ROWS OF THIS SEAT. 6 by the template 'for every input the law returns true; each argument reads behind the call as it read before'; 0 by the template 'total and deterministic' (their statements: YthpgdpkemnhneaaDoorTotals.lean).
  GIVEN WITH THE SEED: the statements are not yours to turn. If you find one false, say at which input.
  Laid BY PROGRAM, IN A SANDBOX (cutbox-rows.mjs): the forced cells as the released guide's own fill.sh prints them over the translation a982a7237cb945be… (all of the seat's roots in one cut). By AI agents, Wed Nov 11 2026. No macro, syntax, notation, axiom, sorry.
-/
import Derived.Test.YthpgdpkemnhneaaDoorChecked
import GoSem.Claim
import GoSem.ClaimJoined
import GoSem.ClaimMapViews
import Derived.JoinedTies
import Derived.KernelRfl
namespace Go.Proofs.YthpgdpkemnhneaaDoor
/- THE CELL 'sum', in the pinned program and in every row, IS THE sha256 OF THE DUMP (.gsa) THAT YthpgdpkemnhneaaDoorProg.lean LOADS. Nothing in Lean hashes anything: it is a label: what it is worth is what the hold of that sum in a sandbox is worth. -/
noncomputable def Tryd.pinned : Pinned := { name := "ythpgdpkemnhneaadoor", sum := "a982a7237cb945bed908b20e65589d86f23c9946fe80f440472fc107ea41db77", checked := Tryd.checked }
namespace Rows
def none {H : Type} : Left H := { results := [], args := [] }

/- WHAT THE LISTED PACKAGE-LEVEL VARIABLES READ AS WHEN THE CALL BEGINS. Each datum BY PROGRAM (the guide's laid-datum.mjs) off the statement by which the dump's own 'gosem.cut.vars' lays the variable. In a bare row this is a premise. The card (YthpgdpkemnhneaaDoorCards.lean) ties it to the program's text. -/
def laid_math_bits_deBruijn32tab {H : Type} : DataW H := .agg [.lit (.int .u8 0), .lit (.int .u8 1), .lit (.int .u8 28), .lit (.int .u8 2), .lit (.int .u8 29), .lit (.int .u8 14), .lit (.int .u8 24), .lit (.int .u8 3), .lit (.int .u8 30), .lit (.int .u8 22), .lit (.int .u8 20), .lit (.int .u8 15), .lit (.int .u8 25), .lit (.int .u8 17), .lit (.int .u8 4), .lit (.int .u8 8), .lit (.int .u8 31), .lit (.int .u8 27), .lit (.int .u8 13), .lit (.int .u8 23), .lit (.int .u8 21), .lit (.int .u8 19), .lit (.int .u8 16), .lit (.int .u8 7), .lit (.int .u8 26), .lit (.int .u8 12), .lit (.int .u8 18), .lit (.int .u8 6), .lit (.int .u8 11), .lit (.int .u8 5), .lit (.int .u8 10), .lit (.int .u8 9)]
def laid_math_bits_deBruijn64tab {H : Type} : DataW H := .agg [.lit (.int .u8 0), .lit (.int .u8 1), .lit (.int .u8 56), .lit (.int .u8 2), .lit (.int .u8 57), .lit (.int .u8 49), .lit (.int .u8 28), .lit (.int .u8 3), .lit (.int .u8 61), .lit (.int .u8 58), .lit (.int .u8 42), .lit (.int .u8 50), .lit (.int .u8 38), .lit (.int .u8 29), .lit (.int .u8 17), .lit (.int .u8 4), .lit (.int .u8 62), .lit (.int .u8 47), .lit (.int .u8 59), .lit (.int .u8 36), .lit (.int .u8 45), .lit (.int .u8 43), .lit (.int .u8 51), .lit (.int .u8 22), .lit (.int .u8 53), .lit (.int .u8 39), .lit (.int .u8 33), .lit (.int .u8 30), .lit (.int .u8 24), .lit (.int .u8 18), .lit (.int .u8 12), .lit (.int .u8 5), .lit (.int .u8 63), .lit (.int .u8 55), .lit (.int .u8 48), .lit (.int .u8 27), .lit (.int .u8 60), .lit (.int .u8 41), .lit (.int .u8 37), .lit (.int .u8 16), .lit (.int .u8 46), .lit (.int .u8 35), .lit (.int .u8 44), .lit (.int .u8 21), .lit (.int .u8 52), .lit (.int .u8 32), .lit (.int .u8 23), .lit (.int .u8 11), .lit (.int .u8 54), .lit (.int .u8 26), .lit (.int .u8 40), .lit (.int .u8 15), .lit (.int .u8 34), .lit (.int .u8 20), .lit (.int .u8 31), .lit (.int .u8 10), .lit (.int .u8 25), .lit (.int .u8 14), .lit (.int .u8 19), .lit (.int .u8 9), .lit (.int .u8 13), .lit (.int .u8 8), .lit (.int .u8 7), .lit (.int .u8 6)]

/-- 'reckonerlaw04.NttTransforms': WHATEVER THE INPUT: true; the input reads as it did. -/
def nttTransformsSpec : ChangeSpec := { name := "nttTransforms", fn := fun _ => fun
  | [d] => { results := [.lit (.bool true)], args := [d] }
  | _ => none }
def nttTransformsRow : OpenClaim := { program := "ythpgdpkemnhneaadoor", sum := "a982a7237cb945bed908b20e65589d86f23c9946fe80f440472fc107ea41db77", func := "reckoner/reckonerlaw04.NttTransforms", spec := "nttTransforms", inPlace := ["math/bits.Sub64", "math/bits.Add64"], unfollowed := true, recurses := true, named := ["math/bits.deBruijn32tab", "math/bits.deBruijn64tab"], apart := false, laid := [("math/bits.deBruijn32tab", laid_math_bits_deBruijn32tab), ("math/bits.deBruijn64tab", laid_math_bits_deBruijn64tab)] }
def NttTransformsSaid : Prop := nttTransformsRow.holds Tryd.pinned (OpenSpec.ofChange nttTransformsSpec)

/-- ITS FALSE NEIGHBOUR: 'it returns false'. Refute it at one input. -/
def nttTransformsWrong : ChangeSpec := { name := "nttTransforms", fn := fun _ => fun
  | [d] => { results := [.lit (.bool false)], args := [d] }
  | _ => none }
def NttTransformsWrongFalsely : Prop := nttTransformsRow.holds Tryd.pinned (OpenSpec.ofChange nttTransformsWrong)

/-- 'reckonerlaw04.NttProducts': WHATEVER THE INPUT: true; the input reads as it did. -/
def nttProductsSpec : ChangeSpec := { name := "nttProducts", fn := fun _ => fun
  | [d1, d2] => { results := [.lit (.bool true)], args := [d1, d2] }
  | _ => none }
def nttProductsRow : OpenClaim := { program := "ythpgdpkemnhneaadoor", sum := "a982a7237cb945bed908b20e65589d86f23c9946fe80f440472fc107ea41db77", func := "reckoner/reckonerlaw04.NttProducts", spec := "nttProducts", inPlace := ["math/bits.Sub64", "math/bits.Add64"], unfollowed := true, recurses := true, named := ["math/bits.deBruijn32tab", "math/bits.deBruijn64tab"], apart := false, laid := [("math/bits.deBruijn32tab", laid_math_bits_deBruijn32tab), ("math/bits.deBruijn64tab", laid_math_bits_deBruijn64tab)] }
def NttProductsSaid : Prop := nttProductsRow.holds Tryd.pinned (OpenSpec.ofChange nttProductsSpec)

/-- ITS FALSE NEIGHBOUR: 'it returns false'. Refute it at one input. -/
def nttProductsWrong : ChangeSpec := { name := "nttProducts", fn := fun _ => fun
  | [d1, d2] => { results := [.lit (.bool false)], args := [d1, d2] }
  | _ => none }
def NttProductsWrongFalsely : Prop := nttProductsRow.holds Tryd.pinned (OpenSpec.ofChange nttProductsWrong)

/-- 'reckonerlaw04.NttLongs': WHATEVER THE INPUT: true; the input reads as it did. -/
def nttLongsSpec : ChangeSpec := { name := "nttLongs", fn := fun _ => fun
  | [d1, d2] => { results := [.lit (.bool true)], args := [d1, d2] }
  | _ => none }
def nttLongsRow : OpenClaim := { program := "ythpgdpkemnhneaadoor", sum := "a982a7237cb945bed908b20e65589d86f23c9946fe80f440472fc107ea41db77", func := "reckoner/reckonerlaw04.NttLongs", spec := "nttLongs", inPlace := ["math/bits.Sub64", "math/bits.Add64"], unfollowed := true, recurses := true, named := ["math/bits.deBruijn32tab", "math/bits.deBruijn64tab"], apart := false, laid := [("math/bits.deBruijn32tab", laid_math_bits_deBruijn32tab), ("math/bits.deBruijn64tab", laid_math_bits_deBruijn64tab)] }
def NttLongsSaid : Prop := nttLongsRow.holds Tryd.pinned (OpenSpec.ofChange nttLongsSpec)

/-- ITS FALSE NEIGHBOUR: 'it returns false'. Refute it at one input. -/
def nttLongsWrong : ChangeSpec := { name := "nttLongs", fn := fun _ => fun
  | [d1, d2] => { results := [.lit (.bool false)], args := [d1, d2] }
  | _ => none }
def NttLongsWrongFalsely : Prop := nttLongsRow.holds Tryd.pinned (OpenSpec.ofChange nttLongsWrong)

/-- 'reckonerlaw04.NttDigits': WHATEVER THE INPUT: true; the input reads as it did. -/
def nttDigitsSpec : ChangeSpec := { name := "nttDigits", fn := fun _ => fun
  | [d1, d2, d3] => { results := [.lit (.bool true)], args := [d1, d2, d3] }
  | _ => none }
def nttDigitsRow : OpenClaim := { program := "ythpgdpkemnhneaadoor", sum := "a982a7237cb945bed908b20e65589d86f23c9946fe80f440472fc107ea41db77", func := "reckoner/reckonerlaw04.NttDigits", spec := "nttDigits", inPlace := ["math/bits.Add64", "math/bits.Sub64"], unfollowed := true, recurses := true, named := ["math/bits.deBruijn32tab", "math/bits.deBruijn64tab"], apart := false, laid := [("math/bits.deBruijn32tab", laid_math_bits_deBruijn32tab), ("math/bits.deBruijn64tab", laid_math_bits_deBruijn64tab)] }
def NttDigitsSaid : Prop := nttDigitsRow.holds Tryd.pinned (OpenSpec.ofChange nttDigitsSpec)

/-- ITS FALSE NEIGHBOUR: 'it returns false'. Refute it at one input. -/
def nttDigitsWrong : ChangeSpec := { name := "nttDigits", fn := fun _ => fun
  | [d1, d2, d3] => { results := [.lit (.bool false)], args := [d1, d2, d3] }
  | _ => none }
def NttDigitsWrongFalsely : Prop := nttDigitsRow.holds Tryd.pinned (OpenSpec.ofChange nttDigitsWrong)

/-- 'reckonerlaw04.NttConvolves': WHATEVER THE INPUT: true; the input reads as it did. -/
def nttConvolvesSpec : ChangeSpec := { name := "nttConvolves", fn := fun _ => fun
  | [d1, d2] => { results := [.lit (.bool true)], args := [d1, d2] }
  | _ => none }
def nttConvolvesRow : OpenClaim := { program := "ythpgdpkemnhneaadoor", sum := "a982a7237cb945bed908b20e65589d86f23c9946fe80f440472fc107ea41db77", func := "reckoner/reckonerlaw04.NttConvolves", spec := "nttConvolves", inPlace := ["math/bits.Sub64", "math/bits.Add64"], unfollowed := true, recurses := true, named := ["math/bits.deBruijn32tab", "math/bits.deBruijn64tab"], apart := false, laid := [("math/bits.deBruijn32tab", laid_math_bits_deBruijn32tab), ("math/bits.deBruijn64tab", laid_math_bits_deBruijn64tab)] }
def NttConvolvesSaid : Prop := nttConvolvesRow.holds Tryd.pinned (OpenSpec.ofChange nttConvolvesSpec)

/-- ITS FALSE NEIGHBOUR: 'it returns false'. Refute it at one input. -/
def nttConvolvesWrong : ChangeSpec := { name := "nttConvolves", fn := fun _ => fun
  | [d1, d2] => { results := [.lit (.bool false)], args := [d1, d2] }
  | _ => none }
def NttConvolvesWrongFalsely : Prop := nttConvolvesRow.holds Tryd.pinned (OpenSpec.ofChange nttConvolvesWrong)

/-- 'reckonerlaw04.NttFolds': WHATEVER THE INPUT: true; the input reads as it did. -/
def nttFoldsSpec : ChangeSpec := { name := "nttFolds", fn := fun _ => fun
  | [d1, d2, d3] => { results := [.lit (.bool true)], args := [d1, d2, d3] }
  | _ => none }
def nttFoldsRow : OpenClaim := { program := "ythpgdpkemnhneaadoor", sum := "a982a7237cb945bed908b20e65589d86f23c9946fe80f440472fc107ea41db77", func := "reckoner/reckonerlaw04.NttFolds", spec := "nttFolds", inPlace := ["math/bits.Sub64", "math/bits.Add64"], unfollowed := true, recurses := true, named := ["math/bits.deBruijn32tab", "math/bits.deBruijn64tab"], apart := false, laid := [("math/bits.deBruijn32tab", laid_math_bits_deBruijn32tab), ("math/bits.deBruijn64tab", laid_math_bits_deBruijn64tab)] }
def NttFoldsSaid : Prop := nttFoldsRow.holds Tryd.pinned (OpenSpec.ofChange nttFoldsSpec)

/-- ITS FALSE NEIGHBOUR: 'it returns false'. Refute it at one input. -/
def nttFoldsWrong : ChangeSpec := { name := "nttFolds", fn := fun _ => fun
  | [d1, d2, d3] => { results := [.lit (.bool false)], args := [d1, d2, d3] }
  | _ => none }
def NttFoldsWrongFalsely : Prop := nttFoldsRow.holds Tryd.pinned (OpenSpec.ofChange nttFoldsWrong)

/- THE SECOND FORM. 'bulk': how many values and letters a reading holds, each counted each time it is reached (what is shared counts as often as it is met; a slice's spare places count too). A statement '..UptoSaid' is the law's where the arguments, and the package variables that the reading takes, are together of bulk at most 1048576: NARROWER than '..Said'. Prove '..Said' where nothing that the law and all that it calls make is longer than what came in: it says more and counts as full. Else prove '..UptoSaid'. A law counts once. -/
mutual
def uptoBulk {H : Type} : DataW H → Nat
  | .lit (.string bytes) => bytes.length + 1
  | .lit _ => 1
  | .nil => 1
  | .ptr d => uptoBulk d + 1
  | .slice elems spare => uptoBulkAll elems + uptoBulkAll spare + 1
  | .agg parts => uptoBulkAll parts + 1
  | .iface _ d => uptoBulk d + 1
  | .map entries => uptoBulkEntries entries + 1
  | .held _ => 1
def uptoBulkAll {H : Type} : List (DataW H) → Nat
  | [] => 0
  | d :: r => uptoBulk d + uptoBulkAll r
def uptoBulkEntries {H : Type} : List (Lit × DataW H) → Nat
  | [] => 0
  | x :: r => uptoBulkEntry x + uptoBulkEntries r
def uptoBulkEntry {H : Type} : Lit × DataW H → Nat
  | (.string bytes, d) => bytes.length + uptoBulk d + 1
  | (_, d) => uptoBulk d + 1
 end
def uptoSmall : (H : Type) → List (DataW H) → Bool := fun _ ds => decide (uptoBulkAll ds ≤ 1048576)
def OpenSpec.upto (s : _root_.Go.ChangeSpec) : _root_.Go.OpenSpec := { _root_.Go.OpenSpec.ofChange s with cond := some uptoSmall }

/-- 'reckonerlaw04.NttTransforms', WHERE WHAT IT READS IS OF BULK AT MOST 1048576: true; the input reads as it did. -/
def nttTransformsUptoRow : OpenClaim := { program := "ythpgdpkemnhneaadoor", sum := "a982a7237cb945bed908b20e65589d86f23c9946fe80f440472fc107ea41db77", func := "reckoner/reckonerlaw04.NttTransforms", spec := "nttTransforms", inPlace := ["math/bits.Sub64", "math/bits.Add64"], unfollowed := true, recurses := true, named := ["math/bits.deBruijn32tab", "math/bits.deBruijn64tab"], apart := false, laid := [("math/bits.deBruijn32tab", laid_math_bits_deBruijn32tab), ("math/bits.deBruijn64tab", laid_math_bits_deBruijn64tab)], narrowed := true }
def NttTransformsUptoSaid : Prop := nttTransformsUptoRow.holds Tryd.pinned (OpenSpec.upto nttTransformsSpec)

/-- 'reckonerlaw04.NttProducts', WHERE WHAT IT READS IS OF BULK AT MOST 1048576: true; the input reads as it did. -/
def nttProductsUptoRow : OpenClaim := { program := "ythpgdpkemnhneaadoor", sum := "a982a7237cb945bed908b20e65589d86f23c9946fe80f440472fc107ea41db77", func := "reckoner/reckonerlaw04.NttProducts", spec := "nttProducts", inPlace := ["math/bits.Sub64", "math/bits.Add64"], unfollowed := true, recurses := true, named := ["math/bits.deBruijn32tab", "math/bits.deBruijn64tab"], apart := false, laid := [("math/bits.deBruijn32tab", laid_math_bits_deBruijn32tab), ("math/bits.deBruijn64tab", laid_math_bits_deBruijn64tab)], narrowed := true }
def NttProductsUptoSaid : Prop := nttProductsUptoRow.holds Tryd.pinned (OpenSpec.upto nttProductsSpec)

/-- 'reckonerlaw04.NttLongs', WHERE WHAT IT READS IS OF BULK AT MOST 1048576: true; the input reads as it did. -/
def nttLongsUptoRow : OpenClaim := { program := "ythpgdpkemnhneaadoor", sum := "a982a7237cb945bed908b20e65589d86f23c9946fe80f440472fc107ea41db77", func := "reckoner/reckonerlaw04.NttLongs", spec := "nttLongs", inPlace := ["math/bits.Sub64", "math/bits.Add64"], unfollowed := true, recurses := true, named := ["math/bits.deBruijn32tab", "math/bits.deBruijn64tab"], apart := false, laid := [("math/bits.deBruijn32tab", laid_math_bits_deBruijn32tab), ("math/bits.deBruijn64tab", laid_math_bits_deBruijn64tab)], narrowed := true }
def NttLongsUptoSaid : Prop := nttLongsUptoRow.holds Tryd.pinned (OpenSpec.upto nttLongsSpec)

/-- 'reckonerlaw04.NttDigits', WHERE WHAT IT READS IS OF BULK AT MOST 1048576: true; the input reads as it did. -/
def nttDigitsUptoRow : OpenClaim := { program := "ythpgdpkemnhneaadoor", sum := "a982a7237cb945bed908b20e65589d86f23c9946fe80f440472fc107ea41db77", func := "reckoner/reckonerlaw04.NttDigits", spec := "nttDigits", inPlace := ["math/bits.Add64", "math/bits.Sub64"], unfollowed := true, recurses := true, named := ["math/bits.deBruijn32tab", "math/bits.deBruijn64tab"], apart := false, laid := [("math/bits.deBruijn32tab", laid_math_bits_deBruijn32tab), ("math/bits.deBruijn64tab", laid_math_bits_deBruijn64tab)], narrowed := true }
def NttDigitsUptoSaid : Prop := nttDigitsUptoRow.holds Tryd.pinned (OpenSpec.upto nttDigitsSpec)

/-- 'reckonerlaw04.NttConvolves', WHERE WHAT IT READS IS OF BULK AT MOST 1048576: true; the input reads as it did. -/
def nttConvolvesUptoRow : OpenClaim := { program := "ythpgdpkemnhneaadoor", sum := "a982a7237cb945bed908b20e65589d86f23c9946fe80f440472fc107ea41db77", func := "reckoner/reckonerlaw04.NttConvolves", spec := "nttConvolves", inPlace := ["math/bits.Sub64", "math/bits.Add64"], unfollowed := true, recurses := true, named := ["math/bits.deBruijn32tab", "math/bits.deBruijn64tab"], apart := false, laid := [("math/bits.deBruijn32tab", laid_math_bits_deBruijn32tab), ("math/bits.deBruijn64tab", laid_math_bits_deBruijn64tab)], narrowed := true }
def NttConvolvesUptoSaid : Prop := nttConvolvesUptoRow.holds Tryd.pinned (OpenSpec.upto nttConvolvesSpec)

/-- 'reckonerlaw04.NttFolds', WHERE WHAT IT READS IS OF BULK AT MOST 1048576: true; the input reads as it did. -/
def nttFoldsUptoRow : OpenClaim := { program := "ythpgdpkemnhneaadoor", sum := "a982a7237cb945bed908b20e65589d86f23c9946fe80f440472fc107ea41db77", func := "reckoner/reckonerlaw04.NttFolds", spec := "nttFolds", inPlace := ["math/bits.Sub64", "math/bits.Add64"], unfollowed := true, recurses := true, named := ["math/bits.deBruijn32tab", "math/bits.deBruijn64tab"], apart := false, laid := [("math/bits.deBruijn32tab", laid_math_bits_deBruijn32tab), ("math/bits.deBruijn64tab", laid_math_bits_deBruijn64tab)], narrowed := true }
def NttFoldsUptoSaid : Prop := nttFoldsUptoRow.holds Tryd.pinned (OpenSpec.upto nttFoldsSpec)

end Rows
end Go.Proofs.YthpgdpkemnhneaaDoor
