/-
  NARROWER THAN 'FOR EVERY INPUT', by the rows' own cells (each row's printed sentence says how): FastPieces: laid · FastJoins: laid · FastValues: laid · FastMuls: laid · FastLows: laid · FastCosts: laid · FastJoined: laid · FastPoints: laid.
  DERIVED. THE GIVEN ROWS OF THIS SEAT. 8 by the template 'for every input the law returns true; each argument reads behind the call as it read before'; 0 by the template 'total and deterministic' (their statements: YtelenmfajhamlaaDoorTotals.lean).
  GIVEN WITH THE SEED: the statements are not yours to turn. If you find one false, say at which input.
  Laid BY PROGRAM, IN A SANDBOX (cutbox-rows.mjs): the forced cells as the released guide's own fill.sh prints them over the translation 5c79149925b04a00… (all of the seat's roots in one cut). By AI agents, Wed Nov 11 2026. No macro, syntax, notation, axiom, sorry.
-/
import Derived.Test.YtelenmfajhamlaaDoorChecked
import GoSem.Claim
import GoSem.ClaimJoined
import GoSem.ClaimMapViews
import Derived.JoinedTies
import Derived.KernelRfl
namespace Go.Proofs.YtelenmfajhamlaaDoor
/- THE CELL 'sum', in the pinned program and in every row, IS THE sha256 OF THE DUMP (.gsa) THAT YtelenmfajhamlaaDoorProg.lean LOADS. Nothing in Lean hashes anything: it is a label: what it is worth is what the hold of that sum in a sandbox is worth. -/
noncomputable def Tryd.pinned : Pinned := { name := "ytelenmfajhamlaadoor", sum := "5c79149925b04a00df2a611c9a1248651e96639e8e70172fb03a65bc93c31944", checked := Tryd.checked }
namespace Rows
def none {H : Type} : Left H := { results := [], args := [] }

/- WHAT THE LISTED PACKAGE-LEVEL VARIABLES READ AS WHEN THE CALL BEGINS. Each datum BY PROGRAM (the guide's laid-datum.mjs) off the statement by which the dump's own 'gosem.cut.vars' lays the variable. In a bare row this is a premise. The card (YtelenmfajhamlaaDoorCards.lean) ties it to the program's text. -/
def laid_reckoner_fast_fiveWeights {H : Type} : DataW H := .agg [.agg [.lit (.int .i64 1), .lit (.int .i64 0), .lit (.int .i64 0), .lit (.int .i64 0), .lit (.int .i64 0)], .agg [.lit (.int .i64 1), .lit (.int .i64 1), .lit (.int .i64 1), .lit (.int .i64 1), .lit (.int .i64 1)], .agg [.lit (.int .i64 1), .lit (.int .i64 (-1)), .lit (.int .i64 1), .lit (.int .i64 (-1)), .lit (.int .i64 1)], .agg [.lit (.int .i64 1), .lit (.int .i64 2), .lit (.int .i64 4), .lit (.int .i64 8), .lit (.int .i64 16)], .agg [.lit (.int .i64 0), .lit (.int .i64 0), .lit (.int .i64 0), .lit (.int .i64 0), .lit (.int .i64 1)]]
def laid_reckoner_fast_backWeights {H : Type} : DataW H := .agg [.agg [.lit (.int .i64 1), .lit (.int .i64 0), .lit (.int .i64 0), .lit (.int .i64 0), .lit (.int .i64 0)], .agg [.lit (.int .i64 (-3)), .lit (.int .i64 6), .lit (.int .i64 (-2)), .lit (.int .i64 (-1)), .lit (.int .i64 12)], .agg [.lit (.int .i64 (-2)), .lit (.int .i64 1), .lit (.int .i64 1), .lit (.int .i64 0), .lit (.int .i64 (-2))], .agg [.lit (.int .i64 3), .lit (.int .i64 (-3)), .lit (.int .i64 (-1)), .lit (.int .i64 1), .lit (.int .i64 (-12))], .agg [.lit (.int .i64 0), .lit (.int .i64 0), .lit (.int .i64 0), .lit (.int .i64 0), .lit (.int .i64 1)]]
def laid_reckoner_fast_backDivisors {H : Type} : DataW H := .agg [.lit (.int .u64 1), .lit (.int .u64 6), .lit (.int .u64 2), .lit (.int .u64 6), .lit (.int .u64 1)]

/-- 'reckonerlaw03.FastPieces': WHATEVER THE INPUT: true; the input reads as it did. -/
def fastPiecesSpec : ChangeSpec := { name := "fastPieces", fn := fun _ => fun
  | [d1, d2] => { results := [.lit (.bool true)], args := [d1, d2] }
  | _ => none }
def fastPiecesRow : OpenClaim := { program := "ytelenmfajhamlaadoor", sum := "5c79149925b04a00df2a611c9a1248651e96639e8e70172fb03a65bc93c31944", func := "reckoner/reckonerlaw03.FastPieces", spec := "fastPieces", inPlace := ["math/bits.Add64", "math/bits.Sub64"], unfollowed := true, recurses := true, named := ["reckoner/fast.fiveWeights", "reckoner/fast.backWeights", "reckoner/fast.backDivisors", "math/bits.divideError", "math/bits.overflowError"], apart := false, laid := [("reckoner/fast.fiveWeights", laid_reckoner_fast_fiveWeights), ("reckoner/fast.backWeights", laid_reckoner_fast_backWeights), ("reckoner/fast.backDivisors", laid_reckoner_fast_backDivisors)] }
def FastPiecesSaid : Prop := fastPiecesRow.holds Tryd.pinned (OpenSpec.ofChange fastPiecesSpec)

/-- ITS FALSE NEIGHBOUR: 'it returns false'. Refute it at one input. -/
def fastPiecesWrong : ChangeSpec := { name := "fastPieces", fn := fun _ => fun
  | [d1, d2] => { results := [.lit (.bool false)], args := [d1, d2] }
  | _ => none }
def FastPiecesWrongFalsely : Prop := fastPiecesRow.holds Tryd.pinned (OpenSpec.ofChange fastPiecesWrong)

/-- 'reckonerlaw03.FastJoins': WHATEVER THE INPUT: true; the input reads as it did. -/
def fastJoinsSpec : ChangeSpec := { name := "fastJoins", fn := fun _ => fun
  | [d1, d2] => { results := [.lit (.bool true)], args := [d1, d2] }
  | _ => none }
def fastJoinsRow : OpenClaim := { program := "ytelenmfajhamlaadoor", sum := "5c79149925b04a00df2a611c9a1248651e96639e8e70172fb03a65bc93c31944", func := "reckoner/reckonerlaw03.FastJoins", spec := "fastJoins", inPlace := ["math/bits.Add64", "math/bits.Sub64"], unfollowed := true, recurses := true, named := ["reckoner/fast.fiveWeights", "reckoner/fast.backWeights", "reckoner/fast.backDivisors", "math/bits.divideError", "math/bits.overflowError"], apart := false, laid := [("reckoner/fast.fiveWeights", laid_reckoner_fast_fiveWeights), ("reckoner/fast.backWeights", laid_reckoner_fast_backWeights), ("reckoner/fast.backDivisors", laid_reckoner_fast_backDivisors)] }
def FastJoinsSaid : Prop := fastJoinsRow.holds Tryd.pinned (OpenSpec.ofChange fastJoinsSpec)

/-- ITS FALSE NEIGHBOUR: 'it returns false'. Refute it at one input. -/
def fastJoinsWrong : ChangeSpec := { name := "fastJoins", fn := fun _ => fun
  | [d1, d2] => { results := [.lit (.bool false)], args := [d1, d2] }
  | _ => none }
def FastJoinsWrongFalsely : Prop := fastJoinsRow.holds Tryd.pinned (OpenSpec.ofChange fastJoinsWrong)

/-- 'reckonerlaw03.FastValues': WHATEVER THE INPUT: true; the input reads as it did. -/
def fastValuesSpec : ChangeSpec := { name := "fastValues", fn := fun _ => fun
  | [d1, d2] => { results := [.lit (.bool true)], args := [d1, d2] }
  | _ => none }
def fastValuesRow : OpenClaim := { program := "ytelenmfajhamlaadoor", sum := "5c79149925b04a00df2a611c9a1248651e96639e8e70172fb03a65bc93c31944", func := "reckoner/reckonerlaw03.FastValues", spec := "fastValues", inPlace := ["math/bits.Add64", "math/bits.Sub64"], unfollowed := true, recurses := true, named := ["reckoner/fast.fiveWeights", "reckoner/fast.backWeights", "reckoner/fast.backDivisors", "math/bits.divideError", "math/bits.overflowError"], apart := false, laid := [("reckoner/fast.fiveWeights", laid_reckoner_fast_fiveWeights), ("reckoner/fast.backWeights", laid_reckoner_fast_backWeights), ("reckoner/fast.backDivisors", laid_reckoner_fast_backDivisors)] }
def FastValuesSaid : Prop := fastValuesRow.holds Tryd.pinned (OpenSpec.ofChange fastValuesSpec)

/-- ITS FALSE NEIGHBOUR: 'it returns false'. Refute it at one input. -/
def fastValuesWrong : ChangeSpec := { name := "fastValues", fn := fun _ => fun
  | [d1, d2] => { results := [.lit (.bool false)], args := [d1, d2] }
  | _ => none }
def FastValuesWrongFalsely : Prop := fastValuesRow.holds Tryd.pinned (OpenSpec.ofChange fastValuesWrong)

/-- 'reckonerlaw03.FastMuls': WHATEVER THE INPUT: true; the input reads as it did. -/
def fastMulsSpec : ChangeSpec := { name := "fastMuls", fn := fun _ => fun
  | [d1, d2, d3] => { results := [.lit (.bool true)], args := [d1, d2, d3] }
  | _ => none }
def fastMulsRow : OpenClaim := { program := "ytelenmfajhamlaadoor", sum := "5c79149925b04a00df2a611c9a1248651e96639e8e70172fb03a65bc93c31944", func := "reckoner/reckonerlaw03.FastMuls", spec := "fastMuls", inPlace := ["math/bits.Add64", "math/bits.Sub64"], unfollowed := true, recurses := true, named := ["reckoner/fast.fiveWeights", "reckoner/fast.backWeights", "reckoner/fast.backDivisors", "math/bits.divideError", "math/bits.overflowError"], apart := false, laid := [("reckoner/fast.fiveWeights", laid_reckoner_fast_fiveWeights), ("reckoner/fast.backWeights", laid_reckoner_fast_backWeights), ("reckoner/fast.backDivisors", laid_reckoner_fast_backDivisors)] }
def FastMulsSaid : Prop := fastMulsRow.holds Tryd.pinned (OpenSpec.ofChange fastMulsSpec)

/-- ITS FALSE NEIGHBOUR: 'it returns false'. Refute it at one input. -/
def fastMulsWrong : ChangeSpec := { name := "fastMuls", fn := fun _ => fun
  | [d1, d2, d3] => { results := [.lit (.bool false)], args := [d1, d2, d3] }
  | _ => none }
def FastMulsWrongFalsely : Prop := fastMulsRow.holds Tryd.pinned (OpenSpec.ofChange fastMulsWrong)

/-- 'reckonerlaw03.FastLows': WHATEVER THE INPUT: true; the input reads as it did. -/
def fastLowsSpec : ChangeSpec := { name := "fastLows", fn := fun _ => fun
  | [d1, d2, d3] => { results := [.lit (.bool true)], args := [d1, d2, d3] }
  | _ => none }
def fastLowsRow : OpenClaim := { program := "ytelenmfajhamlaadoor", sum := "5c79149925b04a00df2a611c9a1248651e96639e8e70172fb03a65bc93c31944", func := "reckoner/reckonerlaw03.FastLows", spec := "fastLows", inPlace := ["math/bits.Add64", "math/bits.Sub64"], unfollowed := true, recurses := true, named := ["reckoner/fast.fiveWeights", "reckoner/fast.backWeights", "reckoner/fast.backDivisors", "math/bits.divideError", "math/bits.overflowError"], apart := false, laid := [("reckoner/fast.fiveWeights", laid_reckoner_fast_fiveWeights), ("reckoner/fast.backWeights", laid_reckoner_fast_backWeights), ("reckoner/fast.backDivisors", laid_reckoner_fast_backDivisors)] }
def FastLowsSaid : Prop := fastLowsRow.holds Tryd.pinned (OpenSpec.ofChange fastLowsSpec)

/-- ITS FALSE NEIGHBOUR: 'it returns false'. Refute it at one input. -/
def fastLowsWrong : ChangeSpec := { name := "fastLows", fn := fun _ => fun
  | [d1, d2, d3] => { results := [.lit (.bool false)], args := [d1, d2, d3] }
  | _ => none }
def FastLowsWrongFalsely : Prop := fastLowsRow.holds Tryd.pinned (OpenSpec.ofChange fastLowsWrong)

/-- 'reckonerlaw03.FastCosts': WHATEVER THE INPUT: true; the input reads as it did. -/
def fastCostsSpec : ChangeSpec := { name := "fastCosts", fn := fun _ => fun
  | [d] => { results := [.lit (.bool true)], args := [d] }
  | _ => none }
def fastCostsRow : OpenClaim := { program := "ytelenmfajhamlaadoor", sum := "5c79149925b04a00df2a611c9a1248651e96639e8e70172fb03a65bc93c31944", func := "reckoner/reckonerlaw03.FastCosts", spec := "fastCosts", inPlace := ["math/bits.Add64", "math/bits.Sub64"], unfollowed := true, recurses := true, named := ["reckoner/fast.fiveWeights", "reckoner/fast.backWeights", "reckoner/fast.backDivisors", "math/bits.divideError", "math/bits.overflowError"], apart := false, laid := [("reckoner/fast.fiveWeights", laid_reckoner_fast_fiveWeights), ("reckoner/fast.backWeights", laid_reckoner_fast_backWeights), ("reckoner/fast.backDivisors", laid_reckoner_fast_backDivisors)] }
def FastCostsSaid : Prop := fastCostsRow.holds Tryd.pinned (OpenSpec.ofChange fastCostsSpec)

/-- ITS FALSE NEIGHBOUR: 'it returns false'. Refute it at one input. -/
def fastCostsWrong : ChangeSpec := { name := "fastCosts", fn := fun _ => fun
  | [d] => { results := [.lit (.bool false)], args := [d] }
  | _ => none }
def FastCostsWrongFalsely : Prop := fastCostsRow.holds Tryd.pinned (OpenSpec.ofChange fastCostsWrong)

/-- 'reckonerlaw03.FastJoined': WHATEVER THE INPUT: true; the input reads as it did. -/
def fastJoinedSpec : ChangeSpec := { name := "fastJoined", fn := fun _ => fun
  | [d1, d2, d3] => { results := [.lit (.bool true)], args := [d1, d2, d3] }
  | _ => none }
def fastJoinedRow : OpenClaim := { program := "ytelenmfajhamlaadoor", sum := "5c79149925b04a00df2a611c9a1248651e96639e8e70172fb03a65bc93c31944", func := "reckoner/reckonerlaw03.FastJoined", spec := "fastJoined", inPlace := ["math/bits.Add64", "math/bits.Sub64"], unfollowed := true, recurses := true, named := ["reckoner/fast.fiveWeights", "reckoner/fast.backWeights", "reckoner/fast.backDivisors", "math/bits.divideError", "math/bits.overflowError"], apart := false, laid := [("reckoner/fast.fiveWeights", laid_reckoner_fast_fiveWeights), ("reckoner/fast.backWeights", laid_reckoner_fast_backWeights), ("reckoner/fast.backDivisors", laid_reckoner_fast_backDivisors)] }
def FastJoinedSaid : Prop := fastJoinedRow.holds Tryd.pinned (OpenSpec.ofChange fastJoinedSpec)

/-- ITS FALSE NEIGHBOUR: 'it returns false'. Refute it at one input. -/
def fastJoinedWrong : ChangeSpec := { name := "fastJoined", fn := fun _ => fun
  | [d1, d2, d3] => { results := [.lit (.bool false)], args := [d1, d2, d3] }
  | _ => none }
def FastJoinedWrongFalsely : Prop := fastJoinedRow.holds Tryd.pinned (OpenSpec.ofChange fastJoinedWrong)

/-- 'reckonerlaw03.FastPoints': WHATEVER THE INPUT: true; the input reads as it did. -/
def fastPointsSpec : ChangeSpec := { name := "fastPoints", fn := fun _ => fun
  | [d1, d2] => { results := [.lit (.bool true)], args := [d1, d2] }
  | _ => none }
def fastPointsRow : OpenClaim := { program := "ytelenmfajhamlaadoor", sum := "5c79149925b04a00df2a611c9a1248651e96639e8e70172fb03a65bc93c31944", func := "reckoner/reckonerlaw03.FastPoints", spec := "fastPoints", inPlace := ["math/bits.Add64", "math/bits.Sub64"], unfollowed := true, recurses := true, named := ["reckoner/fast.fiveWeights", "reckoner/fast.backWeights", "reckoner/fast.backDivisors", "math/bits.divideError", "math/bits.overflowError"], apart := false, laid := [("reckoner/fast.fiveWeights", laid_reckoner_fast_fiveWeights), ("reckoner/fast.backWeights", laid_reckoner_fast_backWeights), ("reckoner/fast.backDivisors", laid_reckoner_fast_backDivisors)] }
def FastPointsSaid : Prop := fastPointsRow.holds Tryd.pinned (OpenSpec.ofChange fastPointsSpec)

/-- ITS FALSE NEIGHBOUR: 'it returns false'. Refute it at one input. -/
def fastPointsWrong : ChangeSpec := { name := "fastPoints", fn := fun _ => fun
  | [d1, d2] => { results := [.lit (.bool false)], args := [d1, d2] }
  | _ => none }
def FastPointsWrongFalsely : Prop := fastPointsRow.holds Tryd.pinned (OpenSpec.ofChange fastPointsWrong)

/- THE SECOND FORM. 'bulk': how many values and letters a reading holds, each counted each time it is reached (what is shared counts as often as it is met; a slice's spare places count too). A statement '..UptoSaid' is the law's where the arguments, and the package variables that the reading takes, are together of bulk at most 1048576: NARROWER than '..Said'. Prove '..Said' where nothing that the law and all that it calls make is longer than what came in: it says more and counts as full. Else prove '..UptoSaid'. A law counts once. -/
mutual
def uptoBulk {H : Type} : DataW H → Nat
  | .lit (.string bytes) => bytes.length + 1
  | .lit _ => 1
  | .nil => 1
  | .ptr d => uptoBulk d + 1
  | .slice elems spare => uptoBulkAll elems + uptoBulkAll spare + 1
  | .agg parts => uptoBulkAll parts + 1
  | .iface _ d => uptoBulk d + 1
  | .map entries => uptoBulkEntries entries + 1
  | .held _ => 1
def uptoBulkAll {H : Type} : List (DataW H) → Nat
  | [] => 0
  | d :: r => uptoBulk d + uptoBulkAll r
def uptoBulkEntries {H : Type} : List (Lit × DataW H) → Nat
  | [] => 0
  | x :: r => uptoBulkEntry x + uptoBulkEntries r
def uptoBulkEntry {H : Type} : Lit × DataW H → Nat
  | (.string bytes, d) => bytes.length + uptoBulk d + 1
  | (_, d) => uptoBulk d + 1
 end
def uptoSmall : (H : Type) → List (DataW H) → Bool := fun _ ds => decide (uptoBulkAll ds ≤ 1048576)
def OpenSpec.upto (s : _root_.Go.ChangeSpec) : _root_.Go.OpenSpec := { _root_.Go.OpenSpec.ofChange s with cond := some uptoSmall }

/-- 'reckonerlaw03.FastPieces', WHERE WHAT IT READS IS OF BULK AT MOST 1048576: true; the input reads as it did. -/
def fastPiecesUptoRow : OpenClaim := { program := "ytelenmfajhamlaadoor", sum := "5c79149925b04a00df2a611c9a1248651e96639e8e70172fb03a65bc93c31944", func := "reckoner/reckonerlaw03.FastPieces", spec := "fastPieces", inPlace := ["math/bits.Add64", "math/bits.Sub64"], unfollowed := true, recurses := true, named := ["reckoner/fast.fiveWeights", "reckoner/fast.backWeights", "reckoner/fast.backDivisors", "math/bits.divideError", "math/bits.overflowError"], apart := false, laid := [("reckoner/fast.fiveWeights", laid_reckoner_fast_fiveWeights), ("reckoner/fast.backWeights", laid_reckoner_fast_backWeights), ("reckoner/fast.backDivisors", laid_reckoner_fast_backDivisors)], narrowed := true }
def FastPiecesUptoSaid : Prop := fastPiecesUptoRow.holds Tryd.pinned (OpenSpec.upto fastPiecesSpec)

/-- 'reckonerlaw03.FastJoins', WHERE WHAT IT READS IS OF BULK AT MOST 1048576: true; the input reads as it did. -/
def fastJoinsUptoRow : OpenClaim := { program := "ytelenmfajhamlaadoor", sum := "5c79149925b04a00df2a611c9a1248651e96639e8e70172fb03a65bc93c31944", func := "reckoner/reckonerlaw03.FastJoins", spec := "fastJoins", inPlace := ["math/bits.Add64", "math/bits.Sub64"], unfollowed := true, recurses := true, named := ["reckoner/fast.fiveWeights", "reckoner/fast.backWeights", "reckoner/fast.backDivisors", "math/bits.divideError", "math/bits.overflowError"], apart := false, laid := [("reckoner/fast.fiveWeights", laid_reckoner_fast_fiveWeights), ("reckoner/fast.backWeights", laid_reckoner_fast_backWeights), ("reckoner/fast.backDivisors", laid_reckoner_fast_backDivisors)], narrowed := true }
def FastJoinsUptoSaid : Prop := fastJoinsUptoRow.holds Tryd.pinned (OpenSpec.upto fastJoinsSpec)

/-- 'reckonerlaw03.FastValues', WHERE WHAT IT READS IS OF BULK AT MOST 1048576: true; the input reads as it did. -/
def fastValuesUptoRow : OpenClaim := { program := "ytelenmfajhamlaadoor", sum := "5c79149925b04a00df2a611c9a1248651e96639e8e70172fb03a65bc93c31944", func := "reckoner/reckonerlaw03.FastValues", spec := "fastValues", inPlace := ["math/bits.Add64", "math/bits.Sub64"], unfollowed := true, recurses := true, named := ["reckoner/fast.fiveWeights", "reckoner/fast.backWeights", "reckoner/fast.backDivisors", "math/bits.divideError", "math/bits.overflowError"], apart := false, laid := [("reckoner/fast.fiveWeights", laid_reckoner_fast_fiveWeights), ("reckoner/fast.backWeights", laid_reckoner_fast_backWeights), ("reckoner/fast.backDivisors", laid_reckoner_fast_backDivisors)], narrowed := true }
def FastValuesUptoSaid : Prop := fastValuesUptoRow.holds Tryd.pinned (OpenSpec.upto fastValuesSpec)

/-- 'reckonerlaw03.FastMuls', WHERE WHAT IT READS IS OF BULK AT MOST 1048576: true; the input reads as it did. -/
def fastMulsUptoRow : OpenClaim := { program := "ytelenmfajhamlaadoor", sum := "5c79149925b04a00df2a611c9a1248651e96639e8e70172fb03a65bc93c31944", func := "reckoner/reckonerlaw03.FastMuls", spec := "fastMuls", inPlace := ["math/bits.Add64", "math/bits.Sub64"], unfollowed := true, recurses := true, named := ["reckoner/fast.fiveWeights", "reckoner/fast.backWeights", "reckoner/fast.backDivisors", "math/bits.divideError", "math/bits.overflowError"], apart := false, laid := [("reckoner/fast.fiveWeights", laid_reckoner_fast_fiveWeights), ("reckoner/fast.backWeights", laid_reckoner_fast_backWeights), ("reckoner/fast.backDivisors", laid_reckoner_fast_backDivisors)], narrowed := true }
def FastMulsUptoSaid : Prop := fastMulsUptoRow.holds Tryd.pinned (OpenSpec.upto fastMulsSpec)

/-- 'reckonerlaw03.FastLows', WHERE WHAT IT READS IS OF BULK AT MOST 1048576: true; the input reads as it did. -/
def fastLowsUptoRow : OpenClaim := { program := "ytelenmfajhamlaadoor", sum := "5c79149925b04a00df2a611c9a1248651e96639e8e70172fb03a65bc93c31944", func := "reckoner/reckonerlaw03.FastLows", spec := "fastLows", inPlace := ["math/bits.Add64", "math/bits.Sub64"], unfollowed := true, recurses := true, named := ["reckoner/fast.fiveWeights", "reckoner/fast.backWeights", "reckoner/fast.backDivisors", "math/bits.divideError", "math/bits.overflowError"], apart := false, laid := [("reckoner/fast.fiveWeights", laid_reckoner_fast_fiveWeights), ("reckoner/fast.backWeights", laid_reckoner_fast_backWeights), ("reckoner/fast.backDivisors", laid_reckoner_fast_backDivisors)], narrowed := true }
def FastLowsUptoSaid : Prop := fastLowsUptoRow.holds Tryd.pinned (OpenSpec.upto fastLowsSpec)

/-- 'reckonerlaw03.FastCosts', WHERE WHAT IT READS IS OF BULK AT MOST 1048576: true; the input reads as it did. -/
def fastCostsUptoRow : OpenClaim := { program := "ytelenmfajhamlaadoor", sum := "5c79149925b04a00df2a611c9a1248651e96639e8e70172fb03a65bc93c31944", func := "reckoner/reckonerlaw03.FastCosts", spec := "fastCosts", inPlace := ["math/bits.Add64", "math/bits.Sub64"], unfollowed := true, recurses := true, named := ["reckoner/fast.fiveWeights", "reckoner/fast.backWeights", "reckoner/fast.backDivisors", "math/bits.divideError", "math/bits.overflowError"], apart := false, laid := [("reckoner/fast.fiveWeights", laid_reckoner_fast_fiveWeights), ("reckoner/fast.backWeights", laid_reckoner_fast_backWeights), ("reckoner/fast.backDivisors", laid_reckoner_fast_backDivisors)], narrowed := true }
def FastCostsUptoSaid : Prop := fastCostsUptoRow.holds Tryd.pinned (OpenSpec.upto fastCostsSpec)

/-- 'reckonerlaw03.FastJoined', WHERE WHAT IT READS IS OF BULK AT MOST 1048576: true; the input reads as it did. -/
def fastJoinedUptoRow : OpenClaim := { program := "ytelenmfajhamlaadoor", sum := "5c79149925b04a00df2a611c9a1248651e96639e8e70172fb03a65bc93c31944", func := "reckoner/reckonerlaw03.FastJoined", spec := "fastJoined", inPlace := ["math/bits.Add64", "math/bits.Sub64"], unfollowed := true, recurses := true, named := ["reckoner/fast.fiveWeights", "reckoner/fast.backWeights", "reckoner/fast.backDivisors", "math/bits.divideError", "math/bits.overflowError"], apart := false, laid := [("reckoner/fast.fiveWeights", laid_reckoner_fast_fiveWeights), ("reckoner/fast.backWeights", laid_reckoner_fast_backWeights), ("reckoner/fast.backDivisors", laid_reckoner_fast_backDivisors)], narrowed := true }
def FastJoinedUptoSaid : Prop := fastJoinedUptoRow.holds Tryd.pinned (OpenSpec.upto fastJoinedSpec)

/-- 'reckonerlaw03.FastPoints', WHERE WHAT IT READS IS OF BULK AT MOST 1048576: true; the input reads as it did. -/
def fastPointsUptoRow : OpenClaim := { program := "ytelenmfajhamlaadoor", sum := "5c79149925b04a00df2a611c9a1248651e96639e8e70172fb03a65bc93c31944", func := "reckoner/reckonerlaw03.FastPoints", spec := "fastPoints", inPlace := ["math/bits.Add64", "math/bits.Sub64"], unfollowed := true, recurses := true, named := ["reckoner/fast.fiveWeights", "reckoner/fast.backWeights", "reckoner/fast.backDivisors", "math/bits.divideError", "math/bits.overflowError"], apart := false, laid := [("reckoner/fast.fiveWeights", laid_reckoner_fast_fiveWeights), ("reckoner/fast.backWeights", laid_reckoner_fast_backWeights), ("reckoner/fast.backDivisors", laid_reckoner_fast_backDivisors)], narrowed := true }
def FastPointsUptoSaid : Prop := fastPointsUptoRow.holds Tryd.pinned (OpenSpec.upto fastPointsSpec)

end Rows
end Go.Proofs.YtelenmfajhamlaaDoor
