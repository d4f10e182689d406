/-
  NARROWER THAN 'FOR EVERY INPUT', by the rows' own cells (each row's printed sentence says how): FastSizes: laid.
  DERIVED. THE GIVEN ROWS OF THIS SEAT. 1 by the template 'for every input the law returns true; each argument reads behind the call as it read before'; 0 by the template 'total and deterministic' (their statements: YthpgdpkemnhneaaGreatDoorTotals.lean).
  GIVEN WITH THE SEED: the statements are not yours to turn. If you find one false, say at which input.
  Laid BY PROGRAM, IN A SANDBOX (cutbox-rows.mjs): the forced cells as the released guide's own fill.sh prints them over the translation 362d3c6af2a966dd… (all of the seat's roots in one cut). By AI agents, Wed Nov 11 2026. No macro, syntax, notation, axiom, sorry.
-/
import Derived.Test.YthpgdpkemnhneaaGreatDoorChecked
import GoSem.Claim
import GoSem.ClaimJoined
import GoSem.ClaimMapViews
import Derived.JoinedTies
import Derived.KernelRfl
namespace Go.Proofs.YthpgdpkemnhneaaGreatDoor
/- THE CELL 'sum', in the pinned program and in every row, IS THE sha256 OF THE DUMP (.gsa) THAT YthpgdpkemnhneaaGreatDoorProg.lean LOADS. Nothing in Lean hashes anything: it is a label: what it is worth is what the hold of that sum in a sandbox is worth. -/
noncomputable def Tryz.pinned : Pinned := { name := "ythpgdpkemnhneaagreatdoor", sum := "362d3c6af2a966dd54d05a22df9d3a42492a35927f68628f653d764183ce6913", checked := Tryz.checked }
namespace Rows
def none {H : Type} : Left H := { results := [], args := [] }

/- WHAT THE LISTED PACKAGE-LEVEL VARIABLES READ AS WHEN THE CALL BEGINS. Each datum BY PROGRAM (the guide's laid-datum.mjs) off the statement by which the dump's own 'gosem.cut.vars' lays the variable. In a bare row this is a premise. The card (YthpgdpkemnhneaaGreatDoorCards.lean) ties it to the program's text. -/
def laid_reckoner_fast_fiveWeights {H : Type} : DataW H := .agg [.agg [.lit (.int .i64 1), .lit (.int .i64 0), .lit (.int .i64 0), .lit (.int .i64 0), .lit (.int .i64 0)], .agg [.lit (.int .i64 1), .lit (.int .i64 1), .lit (.int .i64 1), .lit (.int .i64 1), .lit (.int .i64 1)], .agg [.lit (.int .i64 1), .lit (.int .i64 (-1)), .lit (.int .i64 1), .lit (.int .i64 (-1)), .lit (.int .i64 1)], .agg [.lit (.int .i64 1), .lit (.int .i64 2), .lit (.int .i64 4), .lit (.int .i64 8), .lit (.int .i64 16)], .agg [.lit (.int .i64 0), .lit (.int .i64 0), .lit (.int .i64 0), .lit (.int .i64 0), .lit (.int .i64 1)]]
def laid_reckoner_fast_backWeights {H : Type} : DataW H := .agg [.agg [.lit (.int .i64 1), .lit (.int .i64 0), .lit (.int .i64 0), .lit (.int .i64 0), .lit (.int .i64 0)], .agg [.lit (.int .i64 (-3)), .lit (.int .i64 6), .lit (.int .i64 (-2)), .lit (.int .i64 (-1)), .lit (.int .i64 12)], .agg [.lit (.int .i64 (-2)), .lit (.int .i64 1), .lit (.int .i64 1), .lit (.int .i64 0), .lit (.int .i64 (-2))], .agg [.lit (.int .i64 3), .lit (.int .i64 (-3)), .lit (.int .i64 (-1)), .lit (.int .i64 1), .lit (.int .i64 (-12))], .agg [.lit (.int .i64 0), .lit (.int .i64 0), .lit (.int .i64 0), .lit (.int .i64 0), .lit (.int .i64 1)]]
def laid_reckoner_fast_backDivisors {H : Type} : DataW H := .agg [.lit (.int .u64 1), .lit (.int .u64 6), .lit (.int .u64 2), .lit (.int .u64 6), .lit (.int .u64 1)]

/-- 'reckonerlaw03.FastSizes': WHATEVER THE INPUT: true; the input reads as it did. -/
def fastSizesSpec : ChangeSpec := { name := "fastSizes", fn := fun _ => fun
  | [d1, d2] => { results := [.lit (.bool true)], args := [d1, d2] }
  | _ => none }
def fastSizesRow : OpenClaim := { program := "ythpgdpkemnhneaagreatdoor", sum := "362d3c6af2a966dd54d05a22df9d3a42492a35927f68628f653d764183ce6913", func := "reckoner/reckonerlaw03.FastSizes", spec := "fastSizes", inPlace := ["math/bits.Add64", "math/bits.Sub64"], unfollowed := true, recurses := true, named := ["reckoner/fast.fiveWeights", "reckoner/fast.backWeights", "reckoner/fast.backDivisors", "math/bits.divideError", "math/bits.overflowError"], apart := false, laid := [("reckoner/fast.fiveWeights", laid_reckoner_fast_fiveWeights), ("reckoner/fast.backWeights", laid_reckoner_fast_backWeights), ("reckoner/fast.backDivisors", laid_reckoner_fast_backDivisors)] }
def FastSizesSaid : Prop := fastSizesRow.holds Tryz.pinned (OpenSpec.ofChange fastSizesSpec)

/-- ITS FALSE NEIGHBOUR: 'it returns false'. Refute it at one input. -/
def fastSizesWrong : ChangeSpec := { name := "fastSizes", fn := fun _ => fun
  | [d1, d2] => { results := [.lit (.bool false)], args := [d1, d2] }
  | _ => none }
def FastSizesWrongFalsely : Prop := fastSizesRow.holds Tryz.pinned (OpenSpec.ofChange fastSizesWrong)

/- THE SECOND FORM. 'bulk': how many values and letters a reading holds, each counted each time it is reached (what is shared counts as often as it is met; a slice's spare places count too). A statement '..UptoSaid' is the law's where the arguments, and the package variables that the reading takes, are together of bulk at most 1048576: NARROWER than '..Said'. Prove '..Said' where nothing that the law and all that it calls make is longer than what came in: it says more and counts as full. Else prove '..UptoSaid'. A law counts once. -/
mutual
def uptoBulk {H : Type} : DataW H → Nat
  | .lit (.string bytes) => bytes.length + 1
  | .lit _ => 1
  | .nil => 1
  | .ptr d => uptoBulk d + 1
  | .slice elems spare => uptoBulkAll elems + uptoBulkAll spare + 1
  | .agg parts => uptoBulkAll parts + 1
  | .iface _ d => uptoBulk d + 1
  | .map entries => uptoBulkEntries entries + 1
  | .held _ => 1
def uptoBulkAll {H : Type} : List (DataW H) → Nat
  | [] => 0
  | d :: r => uptoBulk d + uptoBulkAll r
def uptoBulkEntries {H : Type} : List (Lit × DataW H) → Nat
  | [] => 0
  | x :: r => uptoBulkEntry x + uptoBulkEntries r
def uptoBulkEntry {H : Type} : Lit × DataW H → Nat
  | (.string bytes, d) => bytes.length + uptoBulk d + 1
  | (_, d) => uptoBulk d + 1
 end
def uptoSmall : (H : Type) → List (DataW H) → Bool := fun _ ds => decide (uptoBulkAll ds ≤ 1048576)
def OpenSpec.upto (s : _root_.Go.ChangeSpec) : _root_.Go.OpenSpec := { _root_.Go.OpenSpec.ofChange s with cond := some uptoSmall }

/-- 'reckonerlaw03.FastSizes', WHERE WHAT IT READS IS OF BULK AT MOST 1048576: true; the input reads as it did. -/
def fastSizesUptoRow : OpenClaim := { program := "ythpgdpkemnhneaagreatdoor", sum := "362d3c6af2a966dd54d05a22df9d3a42492a35927f68628f653d764183ce6913", func := "reckoner/reckonerlaw03.FastSizes", spec := "fastSizes", inPlace := ["math/bits.Add64", "math/bits.Sub64"], unfollowed := true, recurses := true, named := ["reckoner/fast.fiveWeights", "reckoner/fast.backWeights", "reckoner/fast.backDivisors", "math/bits.divideError", "math/bits.overflowError"], apart := false, laid := [("reckoner/fast.fiveWeights", laid_reckoner_fast_fiveWeights), ("reckoner/fast.backWeights", laid_reckoner_fast_backWeights), ("reckoner/fast.backDivisors", laid_reckoner_fast_backDivisors)], narrowed := true }
def FastSizesUptoSaid : Prop := fastSizesUptoRow.holds Tryz.pinned (OpenSpec.upto fastSizesSpec)

end Rows
end Go.Proofs.YthpgdpkemnhneaaGreatDoor
