/-
  No cell of these rows narrows 'for every input' (looked for: loops, veiled, ifaces, maps, wideKeys, modest, calm, conditions, laid).
  DERIVED. THE GIVEN ROWS OF THIS SEAT. 8 by the template 'for every input the law returns true; each argument reads behind the call as it read before'; 0 by the template 'total and deterministic' (their statements: YtnhoodpglbjhhaaTotals.lean).
  GIVEN WITH THE SEED: the statements are not yours to turn. If you find one false, say at which input.
  Laid BY PROGRAM, IN A SANDBOX (cutbox-rows.mjs): the forced cells as the released guide's own fill.sh prints them over the translation 03d231f70e94b90a… (all of the seat's roots in one cut). By AI agents, Wed Nov 11 2026. No macro, syntax, notation, axiom, sorry.
-/
import Derived.Test.YtnhoodpglbjhhaaChecked
import GoSem.Claim
import GoSem.ClaimJoined
import GoSem.ClaimMapViews
import Derived.JoinedTies
import Derived.KernelRfl
namespace Go.Proofs.Ytnhoodpglbjhhaa
/- THE CELL 'sum', in the pinned program and in every row, IS THE sha256 OF THE DUMP (.gsa) THAT YtnhoodpglbjhhaaProg.lean LOADS. Nothing in Lean hashes anything: it is a label: what it is worth is what the hold of that sum in a sandbox is worth. -/
noncomputable def Try.pinned : Pinned := { name := "ytnhoodpglbjhhaa", sum := "03d231f70e94b90a5ea3b5345cf105241efcce93f8969835f30883b0e950df6f", checked := Try.checked }
namespace Rows
def none {H : Type} : Left H := { results := [], args := [] }

/-- 'reckonerlaw01.WordsSums': WHATEVER THE INPUT: true; the input reads as it did. -/
def wordsSumsSpec : ChangeSpec := { name := "wordsSums", fn := fun _ => fun
  | [d1, d2, d3] => { results := [.lit (.bool true)], args := [d1, d2, d3] }
  | _ => none }
def wordsSumsRow : OpenClaim := { program := "ytnhoodpglbjhhaa", sum := "03d231f70e94b90a5ea3b5345cf105241efcce93f8969835f30883b0e950df6f", func := "reckoner/reckonerlaw01.WordsSums", spec := "wordsSums", inPlace := ["math/bits.Add64", "math/bits.Sub64"], unfollowed := true, recurses := true, named := ["math/bits.divideError", "math/bits.overflowError"], apart := false }
def WordsSumsSaid : Prop := wordsSumsRow.holds Try.pinned (OpenSpec.ofChange wordsSumsSpec)

/-- ITS FALSE NEIGHBOUR: 'it returns false'. Refute it at one input. -/
def wordsSumsWrong : ChangeSpec := { name := "wordsSums", fn := fun _ => fun
  | [d1, d2, d3] => { results := [.lit (.bool false)], args := [d1, d2, d3] }
  | _ => none }
def WordsSumsWrongFalsely : Prop := wordsSumsRow.holds Try.pinned (OpenSpec.ofChange wordsSumsWrong)

/-- 'reckonerlaw01.WordsProducts': WHATEVER THE INPUT: true; the input reads as it did. -/
def wordsProductsSpec : ChangeSpec := { name := "wordsProducts", fn := fun _ => fun
  | [d1, d2, d3] => { results := [.lit (.bool true)], args := [d1, d2, d3] }
  | _ => none }
def wordsProductsRow : OpenClaim := { program := "ytnhoodpglbjhhaa", sum := "03d231f70e94b90a5ea3b5345cf105241efcce93f8969835f30883b0e950df6f", func := "reckoner/reckonerlaw01.WordsProducts", spec := "wordsProducts", inPlace := ["math/bits.Add64", "math/bits.Sub64"], unfollowed := true, recurses := true, named := ["math/bits.divideError", "math/bits.overflowError"], apart := false }
def WordsProductsSaid : Prop := wordsProductsRow.holds Try.pinned (OpenSpec.ofChange wordsProductsSpec)

/-- ITS FALSE NEIGHBOUR: 'it returns false'. Refute it at one input. -/
def wordsProductsWrong : ChangeSpec := { name := "wordsProducts", fn := fun _ => fun
  | [d1, d2, d3] => { results := [.lit (.bool false)], args := [d1, d2, d3] }
  | _ => none }
def WordsProductsWrongFalsely : Prop := wordsProductsRow.holds Try.pinned (OpenSpec.ofChange wordsProductsWrong)

/-- 'reckonerlaw01.WordsDivides': WHATEVER THE INPUT: true; the input reads as it did. -/
def wordsDividesSpec : ChangeSpec := { name := "wordsDivides", fn := fun _ => fun
  | [d1, d2, d3] => { results := [.lit (.bool true)], args := [d1, d2, d3] }
  | _ => none }
def wordsDividesRow : OpenClaim := { program := "ytnhoodpglbjhhaa", sum := "03d231f70e94b90a5ea3b5345cf105241efcce93f8969835f30883b0e950df6f", func := "reckoner/reckonerlaw01.WordsDivides", spec := "wordsDivides", inPlace := ["math/bits.Add64", "math/bits.Sub64"], unfollowed := true, recurses := true, named := ["math/bits.divideError", "math/bits.overflowError"], apart := false }
def WordsDividesSaid : Prop := wordsDividesRow.holds Try.pinned (OpenSpec.ofChange wordsDividesSpec)

/-- ITS FALSE NEIGHBOUR: 'it returns false'. Refute it at one input. -/
def wordsDividesWrong : ChangeSpec := { name := "wordsDivides", fn := fun _ => fun
  | [d1, d2, d3] => { results := [.lit (.bool false)], args := [d1, d2, d3] }
  | _ => none }
def WordsDividesWrongFalsely : Prop := wordsDividesRow.holds Try.pinned (OpenSpec.ofChange wordsDividesWrong)

/-- 'reckonerlaw01.WordsShifts': WHATEVER THE INPUT: true; the input reads as it did. -/
def wordsShiftsSpec : ChangeSpec := { name := "wordsShifts", fn := fun _ => fun
  | [d1, d2] => { results := [.lit (.bool true)], args := [d1, d2] }
  | _ => none }
def wordsShiftsRow : OpenClaim := { program := "ytnhoodpglbjhhaa", sum := "03d231f70e94b90a5ea3b5345cf105241efcce93f8969835f30883b0e950df6f", func := "reckoner/reckonerlaw01.WordsShifts", spec := "wordsShifts", inPlace := ["math/bits.Add64", "math/bits.Sub64"], unfollowed := true, recurses := true, named := ["math/bits.divideError", "math/bits.overflowError"], apart := false }
def WordsShiftsSaid : Prop := wordsShiftsRow.holds Try.pinned (OpenSpec.ofChange wordsShiftsSpec)

/-- ITS FALSE NEIGHBOUR: 'it returns false'. Refute it at one input. -/
def wordsShiftsWrong : ChangeSpec := { name := "wordsShifts", fn := fun _ => fun
  | [d1, d2] => { results := [.lit (.bool false)], args := [d1, d2] }
  | _ => none }
def WordsShiftsWrongFalsely : Prop := wordsShiftsRow.holds Try.pinned (OpenSpec.ofChange wordsShiftsWrong)

/-- 'reckonerlaw01.WordsInverses': WHATEVER THE INPUT: true; the input reads as it did. -/
def wordsInversesSpec : ChangeSpec := { name := "wordsInverses", fn := fun _ => fun
  | [d1, d2, d3] => { results := [.lit (.bool true)], args := [d1, d2, d3] }
  | _ => none }
def wordsInversesRow : OpenClaim := { program := "ytnhoodpglbjhhaa", sum := "03d231f70e94b90a5ea3b5345cf105241efcce93f8969835f30883b0e950df6f", func := "reckoner/reckonerlaw01.WordsInverses", spec := "wordsInverses", inPlace := ["math/bits.Add64", "math/bits.Sub64"], unfollowed := true, recurses := true, named := ["math/bits.divideError", "math/bits.overflowError"], apart := false }
def WordsInversesSaid : Prop := wordsInversesRow.holds Try.pinned (OpenSpec.ofChange wordsInversesSpec)

/-- ITS FALSE NEIGHBOUR: 'it returns false'. Refute it at one input. -/
def wordsInversesWrong : ChangeSpec := { name := "wordsInverses", fn := fun _ => fun
  | [d1, d2, d3] => { results := [.lit (.bool false)], args := [d1, d2, d3] }
  | _ => none }
def WordsInversesWrongFalsely : Prop := wordsInversesRow.holds Try.pinned (OpenSpec.ofChange wordsInversesWrong)

/-- 'reckonerlaw01.WordsSizes': WHATEVER THE INPUT: true; the input reads as it did. -/
def wordsSizesSpec : ChangeSpec := { name := "wordsSizes", fn := fun _ => fun
  | [d1, d2] => { results := [.lit (.bool true)], args := [d1, d2] }
  | _ => none }
def wordsSizesRow : OpenClaim := { program := "ytnhoodpglbjhhaa", sum := "03d231f70e94b90a5ea3b5345cf105241efcce93f8969835f30883b0e950df6f", func := "reckoner/reckonerlaw01.WordsSizes", spec := "wordsSizes", inPlace := ["math/bits.Add64", "math/bits.Sub64"], unfollowed := true, recurses := true, named := ["math/bits.divideError", "math/bits.overflowError"], apart := false }
def WordsSizesSaid : Prop := wordsSizesRow.holds Try.pinned (OpenSpec.ofChange wordsSizesSpec)

/-- ITS FALSE NEIGHBOUR: 'it returns false'. Refute it at one input. -/
def wordsSizesWrong : ChangeSpec := { name := "wordsSizes", fn := fun _ => fun
  | [d1, d2] => { results := [.lit (.bool false)], args := [d1, d2] }
  | _ => none }
def WordsSizesWrongFalsely : Prop := wordsSizesRow.holds Try.pinned (OpenSpec.ofChange wordsSizesWrong)

/-- 'reckonerlaw01.WordsBacks': WHATEVER THE INPUT: true; the input reads as it did. -/
def wordsBacksSpec : ChangeSpec := { name := "wordsBacks", fn := fun _ => fun
  | [d1, d2, d3] => { results := [.lit (.bool true)], args := [d1, d2, d3] }
  | _ => none }
def wordsBacksRow : OpenClaim := { program := "ytnhoodpglbjhhaa", sum := "03d231f70e94b90a5ea3b5345cf105241efcce93f8969835f30883b0e950df6f", func := "reckoner/reckonerlaw01.WordsBacks", spec := "wordsBacks", inPlace := ["math/bits.Add64", "math/bits.Sub64"], unfollowed := true, recurses := true, named := ["math/bits.divideError", "math/bits.overflowError"], apart := false }
def WordsBacksSaid : Prop := wordsBacksRow.holds Try.pinned (OpenSpec.ofChange wordsBacksSpec)

/-- ITS FALSE NEIGHBOUR: 'it returns false'. Refute it at one input. -/
def wordsBacksWrong : ChangeSpec := { name := "wordsBacks", fn := fun _ => fun
  | [d1, d2, d3] => { results := [.lit (.bool false)], args := [d1, d2, d3] }
  | _ => none }
def WordsBacksWrongFalsely : Prop := wordsBacksRow.holds Try.pinned (OpenSpec.ofChange wordsBacksWrong)

/-- 'reckonerlaw01.WordsOwn': WHATEVER THE INPUT: true; the input reads as it did. -/
def wordsOwnSpec : ChangeSpec := { name := "wordsOwn", fn := fun _ => fun
  | [d1, d2, d3] => { results := [.lit (.bool true)], args := [d1, d2, d3] }
  | _ => none }
def wordsOwnRow : OpenClaim := { program := "ytnhoodpglbjhhaa", sum := "03d231f70e94b90a5ea3b5345cf105241efcce93f8969835f30883b0e950df6f", func := "reckoner/reckonerlaw01.WordsOwn", spec := "wordsOwn", inPlace := ["math/bits.Add64", "math/bits.Sub64"], unfollowed := true, recurses := true, named := ["math/bits.divideError", "math/bits.overflowError"], apart := false }
def WordsOwnSaid : Prop := wordsOwnRow.holds Try.pinned (OpenSpec.ofChange wordsOwnSpec)

/-- ITS FALSE NEIGHBOUR: 'it returns false'. Refute it at one input. -/
def wordsOwnWrong : ChangeSpec := { name := "wordsOwn", fn := fun _ => fun
  | [d1, d2, d3] => { results := [.lit (.bool false)], args := [d1, d2, d3] }
  | _ => none }
def WordsOwnWrongFalsely : Prop := wordsOwnRow.holds Try.pinned (OpenSpec.ofChange wordsOwnWrong)

/- THE SECOND FORM. 'bulk': how many values and letters a reading holds, each counted each time it is reached (what is shared counts as often as it is met; a slice's spare places count too). A statement '..UptoSaid' is the law's where the arguments, and the package variables that the reading takes, are together of bulk at most 1048576: NARROWER than '..Said'. Prove '..Said' where nothing that the law and all that it calls make is longer than what came in: it says more and counts as full. Else prove '..UptoSaid'. A law counts once. -/
mutual
def uptoBulk {H : Type} : DataW H → Nat
  | .lit (.string bytes) => bytes.length + 1
  | .lit _ => 1
  | .nil => 1
  | .ptr d => uptoBulk d + 1
  | .slice elems spare => uptoBulkAll elems + uptoBulkAll spare + 1
  | .agg parts => uptoBulkAll parts + 1
  | .iface _ d => uptoBulk d + 1
  | .map entries => uptoBulkEntries entries + 1
  | .held _ => 1
def uptoBulkAll {H : Type} : List (DataW H) → Nat
  | [] => 0
  | d :: r => uptoBulk d + uptoBulkAll r
def uptoBulkEntries {H : Type} : List (Lit × DataW H) → Nat
  | [] => 0
  | x :: r => uptoBulkEntry x + uptoBulkEntries r
def uptoBulkEntry {H : Type} : Lit × DataW H → Nat
  | (.string bytes, d) => bytes.length + uptoBulk d + 1
  | (_, d) => uptoBulk d + 1
 end
def uptoSmall : (H : Type) → List (DataW H) → Bool := fun _ ds => decide (uptoBulkAll ds ≤ 1048576)
def OpenSpec.upto (s : _root_.Go.ChangeSpec) : _root_.Go.OpenSpec := { _root_.Go.OpenSpec.ofChange s with cond := some uptoSmall }

/-- 'reckonerlaw01.WordsSums', WHERE WHAT IT READS IS OF BULK AT MOST 1048576: true; the input reads as it did. -/
def wordsSumsUptoRow : OpenClaim := { program := "ytnhoodpglbjhhaa", sum := "03d231f70e94b90a5ea3b5345cf105241efcce93f8969835f30883b0e950df6f", func := "reckoner/reckonerlaw01.WordsSums", spec := "wordsSums", inPlace := ["math/bits.Add64", "math/bits.Sub64"], unfollowed := true, recurses := true, named := ["math/bits.divideError", "math/bits.overflowError"], apart := false, narrowed := true }
def WordsSumsUptoSaid : Prop := wordsSumsUptoRow.holds Try.pinned (OpenSpec.upto wordsSumsSpec)

/-- 'reckonerlaw01.WordsProducts', WHERE WHAT IT READS IS OF BULK AT MOST 1048576: true; the input reads as it did. -/
def wordsProductsUptoRow : OpenClaim := { program := "ytnhoodpglbjhhaa", sum := "03d231f70e94b90a5ea3b5345cf105241efcce93f8969835f30883b0e950df6f", func := "reckoner/reckonerlaw01.WordsProducts", spec := "wordsProducts", inPlace := ["math/bits.Add64", "math/bits.Sub64"], unfollowed := true, recurses := true, named := ["math/bits.divideError", "math/bits.overflowError"], apart := false, narrowed := true }
def WordsProductsUptoSaid : Prop := wordsProductsUptoRow.holds Try.pinned (OpenSpec.upto wordsProductsSpec)

/-- 'reckonerlaw01.WordsDivides', WHERE WHAT IT READS IS OF BULK AT MOST 1048576: true; the input reads as it did. -/
def wordsDividesUptoRow : OpenClaim := { program := "ytnhoodpglbjhhaa", sum := "03d231f70e94b90a5ea3b5345cf105241efcce93f8969835f30883b0e950df6f", func := "reckoner/reckonerlaw01.WordsDivides", spec := "wordsDivides", inPlace := ["math/bits.Add64", "math/bits.Sub64"], unfollowed := true, recurses := true, named := ["math/bits.divideError", "math/bits.overflowError"], apart := false, narrowed := true }
def WordsDividesUptoSaid : Prop := wordsDividesUptoRow.holds Try.pinned (OpenSpec.upto wordsDividesSpec)

/-- 'reckonerlaw01.WordsShifts', WHERE WHAT IT READS IS OF BULK AT MOST 1048576: true; the input reads as it did. -/
def wordsShiftsUptoRow : OpenClaim := { program := "ytnhoodpglbjhhaa", sum := "03d231f70e94b90a5ea3b5345cf105241efcce93f8969835f30883b0e950df6f", func := "reckoner/reckonerlaw01.WordsShifts", spec := "wordsShifts", inPlace := ["math/bits.Add64", "math/bits.Sub64"], unfollowed := true, recurses := true, named := ["math/bits.divideError", "math/bits.overflowError"], apart := false, narrowed := true }
def WordsShiftsUptoSaid : Prop := wordsShiftsUptoRow.holds Try.pinned (OpenSpec.upto wordsShiftsSpec)

/-- 'reckonerlaw01.WordsInverses', WHERE WHAT IT READS IS OF BULK AT MOST 1048576: true; the input reads as it did. -/
def wordsInversesUptoRow : OpenClaim := { program := "ytnhoodpglbjhhaa", sum := "03d231f70e94b90a5ea3b5345cf105241efcce93f8969835f30883b0e950df6f", func := "reckoner/reckonerlaw01.WordsInverses", spec := "wordsInverses", inPlace := ["math/bits.Add64", "math/bits.Sub64"], unfollowed := true, recurses := true, named := ["math/bits.divideError", "math/bits.overflowError"], apart := false, narrowed := true }
def WordsInversesUptoSaid : Prop := wordsInversesUptoRow.holds Try.pinned (OpenSpec.upto wordsInversesSpec)

/-- 'reckonerlaw01.WordsSizes', WHERE WHAT IT READS IS OF BULK AT MOST 1048576: true; the input reads as it did. -/
def wordsSizesUptoRow : OpenClaim := { program := "ytnhoodpglbjhhaa", sum := "03d231f70e94b90a5ea3b5345cf105241efcce93f8969835f30883b0e950df6f", func := "reckoner/reckonerlaw01.WordsSizes", spec := "wordsSizes", inPlace := ["math/bits.Add64", "math/bits.Sub64"], unfollowed := true, recurses := true, named := ["math/bits.divideError", "math/bits.overflowError"], apart := false, narrowed := true }
def WordsSizesUptoSaid : Prop := wordsSizesUptoRow.holds Try.pinned (OpenSpec.upto wordsSizesSpec)

/-- 'reckonerlaw01.WordsBacks', WHERE WHAT IT READS IS OF BULK AT MOST 1048576: true; the input reads as it did. -/
def wordsBacksUptoRow : OpenClaim := { program := "ytnhoodpglbjhhaa", sum := "03d231f70e94b90a5ea3b5345cf105241efcce93f8969835f30883b0e950df6f", func := "reckoner/reckonerlaw01.WordsBacks", spec := "wordsBacks", inPlace := ["math/bits.Add64", "math/bits.Sub64"], unfollowed := true, recurses := true, named := ["math/bits.divideError", "math/bits.overflowError"], apart := false, narrowed := true }
def WordsBacksUptoSaid : Prop := wordsBacksUptoRow.holds Try.pinned (OpenSpec.upto wordsBacksSpec)

/-- 'reckonerlaw01.WordsOwn', WHERE WHAT IT READS IS OF BULK AT MOST 1048576: true; the input reads as it did. -/
def wordsOwnUptoRow : OpenClaim := { program := "ytnhoodpglbjhhaa", sum := "03d231f70e94b90a5ea3b5345cf105241efcce93f8969835f30883b0e950df6f", func := "reckoner/reckonerlaw01.WordsOwn", spec := "wordsOwn", inPlace := ["math/bits.Add64", "math/bits.Sub64"], unfollowed := true, recurses := true, named := ["math/bits.divideError", "math/bits.overflowError"], apart := false, narrowed := true }
def WordsOwnUptoSaid : Prop := wordsOwnUptoRow.holds Try.pinned (OpenSpec.upto wordsOwnSpec)

end Rows
end Go.Proofs.Ytnhoodpglbjhhaa
