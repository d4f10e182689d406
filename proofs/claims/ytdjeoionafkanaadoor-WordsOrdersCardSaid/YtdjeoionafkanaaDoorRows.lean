/-
  NARROWER THAN 'FOR EVERY INPUT', by the rows' own cells (each row's printed sentence says how): WordsOrders: laid · FastPieces: laid · FastJoins: laid · FastMuls: laid · FastLows: laid · FastCosts: laid · FastJoined: laid · FastPoints: laid · NttResidues: laid.
  DERIVED. THE GIVEN ROWS OF THIS SEAT. 9 by the template 'for every input the law returns true; each argument reads behind the call as it read before'; 0 by the template 'total and deterministic' (their statements: YtdjeoionafkanaaDoorTotals.lean).
  GIVEN WITH THE SEED: the statements are not yours to turn. If you find one false, say at which input.
  Laid BY PROGRAM, IN A SANDBOX (cutbox-rows.mjs): the forced cells as the released guide's own fill.sh prints them over the translation 03f338af37d0e70c… (all of the seat's roots in one cut). By AI agents, Wed Nov 11 2026. No macro, syntax, notation, axiom, sorry.
-/
import Derived.Test.YtdjeoionafkanaaDoorChecked
import GoSem.Claim
import GoSem.ClaimJoined
import GoSem.ClaimMapViews
import Derived.JoinedTies
import Derived.KernelRfl
namespace Go.Proofs.YtdjeoionafkanaaDoor
/- THE CELL 'sum', in the pinned program and in every row, IS THE sha256 OF THE DUMP (.gsa) THAT YtdjeoionafkanaaDoorProg.lean LOADS. Nothing in Lean hashes anything: it is a label: what it is worth is what the hold of that sum in a sandbox is worth. -/
noncomputable def Tryd.pinned : Pinned := { name := "ytdjeoionafkanaadoor", sum := "03f338af37d0e70c73e09de983ec0e94cdf5700427c6d4af6f6a47c9958f7636", checked := Tryd.checked }
namespace Rows
def none {H : Type} : Left H := { results := [], args := [] }

/- WHAT THE LISTED PACKAGE-LEVEL VARIABLES READ AS WHEN THE CALL BEGINS. Each datum BY PROGRAM (the guide's laid-datum.mjs) off the statement by which the dump's own 'gosem.cut.vars' lays the variable. In a bare row this is a premise. The card (YtdjeoionafkanaaDoorCards.lean) ties it to the program's text. -/
def laid_reckoner_words_counts {H : Type} : DataW H := .agg [.agg [.lit (.int .i64 4), .lit (.int .i64 3), .lit (.int .i64 2), .lit (.int .i64 2), .lit (.int .i64 1), .lit (.int .i64 1), .lit (.int .i64 1), .lit (.int .i64 1), .lit (.int .i64 0), .lit (.int .i64 0), .lit (.int .i64 0), .lit (.int .i64 0), .lit (.int .i64 0), .lit (.int .i64 0), .lit (.int .i64 0), .lit (.int .i64 0)], .agg [.lit (.int .i64 4), .lit (.int .i64 0), .lit (.int .i64 1), .lit (.int .i64 0), .lit (.int .i64 2), .lit (.int .i64 0), .lit (.int .i64 1), .lit (.int .i64 0), .lit (.int .i64 3), .lit (.int .i64 0), .lit (.int .i64 1), .lit (.int .i64 0), .lit (.int .i64 2), .lit (.int .i64 0), .lit (.int .i64 1), .lit (.int .i64 0)], .agg [.lit (.int .i64 0), .lit (.int .i64 1), .lit (.int .i64 1), .lit (.int .i64 2), .lit (.int .i64 1), .lit (.int .i64 2), .lit (.int .i64 2), .lit (.int .i64 3), .lit (.int .i64 1), .lit (.int .i64 2), .lit (.int .i64 2), .lit (.int .i64 3), .lit (.int .i64 2), .lit (.int .i64 3), .lit (.int .i64 3), .lit (.int .i64 4)]]
def laid_reckoner_fast_fiveWeights {H : Type} : DataW H := .agg [.agg [.lit (.int .i64 1), .lit (.int .i64 0), .lit (.int .i64 0), .lit (.int .i64 0), .lit (.int .i64 0)], .agg [.lit (.int .i64 1), .lit (.int .i64 1), .lit (.int .i64 1), .lit (.int .i64 1), .lit (.int .i64 1)], .agg [.lit (.int .i64 1), .lit (.int .i64 (-1)), .lit (.int .i64 1), .lit (.int .i64 (-1)), .lit (.int .i64 1)], .agg [.lit (.int .i64 1), .lit (.int .i64 2), .lit (.int .i64 4), .lit (.int .i64 8), .lit (.int .i64 16)], .agg [.lit (.int .i64 0), .lit (.int .i64 0), .lit (.int .i64 0), .lit (.int .i64 0), .lit (.int .i64 1)]]
def laid_reckoner_fast_backWeights {H : Type} : DataW H := .agg [.agg [.lit (.int .i64 1), .lit (.int .i64 0), .lit (.int .i64 0), .lit (.int .i64 0), .lit (.int .i64 0)], .agg [.lit (.int .i64 (-3)), .lit (.int .i64 6), .lit (.int .i64 (-2)), .lit (.int .i64 (-1)), .lit (.int .i64 12)], .agg [.lit (.int .i64 (-2)), .lit (.int .i64 1), .lit (.int .i64 1), .lit (.int .i64 0), .lit (.int .i64 (-2))], .agg [.lit (.int .i64 3), .lit (.int .i64 (-3)), .lit (.int .i64 (-1)), .lit (.int .i64 1), .lit (.int .i64 (-12))], .agg [.lit (.int .i64 0), .lit (.int .i64 0), .lit (.int .i64 0), .lit (.int .i64 0), .lit (.int .i64 1)]]
def laid_reckoner_fast_backDivisors {H : Type} : DataW H := .agg [.lit (.int .u64 1), .lit (.int .u64 6), .lit (.int .u64 2), .lit (.int .u64 6), .lit (.int .u64 1)]
def laid_math_bits_deBruijn32tab {H : Type} : DataW H := .agg [.lit (.int .u8 0), .lit (.int .u8 1), .lit (.int .u8 28), .lit (.int .u8 2), .lit (.int .u8 29), .lit (.int .u8 14), .lit (.int .u8 24), .lit (.int .u8 3), .lit (.int .u8 30), .lit (.int .u8 22), .lit (.int .u8 20), .lit (.int .u8 15), .lit (.int .u8 25), .lit (.int .u8 17), .lit (.int .u8 4), .lit (.int .u8 8), .lit (.int .u8 31), .lit (.int .u8 27), .lit (.int .u8 13), .lit (.int .u8 23), .lit (.int .u8 21), .lit (.int .u8 19), .lit (.int .u8 16), .lit (.int .u8 7), .lit (.int .u8 26), .lit (.int .u8 12), .lit (.int .u8 18), .lit (.int .u8 6), .lit (.int .u8 11), .lit (.int .u8 5), .lit (.int .u8 10), .lit (.int .u8 9)]
def laid_math_bits_deBruijn64tab {H : Type} : DataW H := .agg [.lit (.int .u8 0), .lit (.int .u8 1), .lit (.int .u8 56), .lit (.int .u8 2), .lit (.int .u8 57), .lit (.int .u8 49), .lit (.int .u8 28), .lit (.int .u8 3), .lit (.int .u8 61), .lit (.int .u8 58), .lit (.int .u8 42), .lit (.int .u8 50), .lit (.int .u8 38), .lit (.int .u8 29), .lit (.int .u8 17), .lit (.int .u8 4), .lit (.int .u8 62), .lit (.int .u8 47), .lit (.int .u8 59), .lit (.int .u8 36), .lit (.int .u8 45), .lit (.int .u8 43), .lit (.int .u8 51), .lit (.int .u8 22), .lit (.int .u8 53), .lit (.int .u8 39), .lit (.int .u8 33), .lit (.int .u8 30), .lit (.int .u8 24), .lit (.int .u8 18), .lit (.int .u8 12), .lit (.int .u8 5), .lit (.int .u8 63), .lit (.int .u8 55), .lit (.int .u8 48), .lit (.int .u8 27), .lit (.int .u8 60), .lit (.int .u8 41), .lit (.int .u8 37), .lit (.int .u8 16), .lit (.int .u8 46), .lit (.int .u8 35), .lit (.int .u8 44), .lit (.int .u8 21), .lit (.int .u8 52), .lit (.int .u8 32), .lit (.int .u8 23), .lit (.int .u8 11), .lit (.int .u8 54), .lit (.int .u8 26), .lit (.int .u8 40), .lit (.int .u8 15), .lit (.int .u8 34), .lit (.int .u8 20), .lit (.int .u8 31), .lit (.int .u8 10), .lit (.int .u8 25), .lit (.int .u8 14), .lit (.int .u8 19), .lit (.int .u8 9), .lit (.int .u8 13), .lit (.int .u8 8), .lit (.int .u8 7), .lit (.int .u8 6)]

/-- 'reckonerlaw01.WordsOrders': WHATEVER THE INPUT: true; the input reads as it did. -/
def wordsOrdersSpec : ChangeSpec := { name := "wordsOrders", fn := fun _ => fun
  | [d1, d2, d3] => { results := [.lit (.bool true)], args := [d1, d2, d3] }
  | _ => none }
def wordsOrdersRow : OpenClaim := { program := "ytdjeoionafkanaadoor", sum := "03f338af37d0e70c73e09de983ec0e94cdf5700427c6d4af6f6a47c9958f7636", func := "reckoner/reckonerlaw01.WordsOrders", spec := "wordsOrders", inPlace := ["math/bits.Sub64", "math/bits.Add64"], unfollowed := true, recurses := true, named := ["reckoner/words.counts", "math/bits.divideError", "math/bits.overflowError"], apart := false, laid := [("reckoner/words.counts", laid_reckoner_words_counts)] }
def WordsOrdersSaid : Prop := wordsOrdersRow.holds Tryd.pinned (OpenSpec.ofChange wordsOrdersSpec)

/-- ITS FALSE NEIGHBOUR: 'it returns false'. Refute it at one input. -/
def wordsOrdersWrong : ChangeSpec := { name := "wordsOrders", fn := fun _ => fun
  | [d1, d2, d3] => { results := [.lit (.bool false)], args := [d1, d2, d3] }
  | _ => none }
def WordsOrdersWrongFalsely : Prop := wordsOrdersRow.holds Tryd.pinned (OpenSpec.ofChange wordsOrdersWrong)

/-- 'reckonerlaw03.FastPieces': WHATEVER THE INPUT: true; the input reads as it did. -/
def fastPiecesSpec : ChangeSpec := { name := "fastPieces", fn := fun _ => fun
  | [d1, d2] => { results := [.lit (.bool true)], args := [d1, d2] }
  | _ => none }
def fastPiecesRow : OpenClaim := { program := "ytdjeoionafkanaadoor", sum := "03f338af37d0e70c73e09de983ec0e94cdf5700427c6d4af6f6a47c9958f7636", func := "reckoner/reckonerlaw03.FastPieces", spec := "fastPieces", inPlace := ["math/bits.Add64", "math/bits.Sub64"], unfollowed := true, recurses := true, named := ["reckoner/fast.fiveWeights", "reckoner/fast.backWeights", "reckoner/fast.backDivisors", "math/bits.divideError", "math/bits.overflowError"], apart := false, laid := [("reckoner/fast.fiveWeights", laid_reckoner_fast_fiveWeights), ("reckoner/fast.backWeights", laid_reckoner_fast_backWeights), ("reckoner/fast.backDivisors", laid_reckoner_fast_backDivisors)] }
def FastPiecesSaid : Prop := fastPiecesRow.holds Tryd.pinned (OpenSpec.ofChange fastPiecesSpec)

/-- ITS FALSE NEIGHBOUR: 'it returns false'. Refute it at one input. -/
def fastPiecesWrong : ChangeSpec := { name := "fastPieces", fn := fun _ => fun
  | [d1, d2] => { results := [.lit (.bool false)], args := [d1, d2] }
  | _ => none }
def FastPiecesWrongFalsely : Prop := fastPiecesRow.holds Tryd.pinned (OpenSpec.ofChange fastPiecesWrong)

/-- 'reckonerlaw03.FastJoins': WHATEVER THE INPUT: true; the input reads as it did. -/
def fastJoinsSpec : ChangeSpec := { name := "fastJoins", fn := fun _ => fun
  | [d1, d2] => { results := [.lit (.bool true)], args := [d1, d2] }
  | _ => none }
def fastJoinsRow : OpenClaim := { program := "ytdjeoionafkanaadoor", sum := "03f338af37d0e70c73e09de983ec0e94cdf5700427c6d4af6f6a47c9958f7636", func := "reckoner/reckonerlaw03.FastJoins", spec := "fastJoins", inPlace := ["math/bits.Add64", "math/bits.Sub64"], unfollowed := true, recurses := true, named := ["reckoner/fast.fiveWeights", "reckoner/fast.backWeights", "reckoner/fast.backDivisors", "math/bits.divideError", "math/bits.overflowError"], apart := false, laid := [("reckoner/fast.fiveWeights", laid_reckoner_fast_fiveWeights), ("reckoner/fast.backWeights", laid_reckoner_fast_backWeights), ("reckoner/fast.backDivisors", laid_reckoner_fast_backDivisors)] }
def FastJoinsSaid : Prop := fastJoinsRow.holds Tryd.pinned (OpenSpec.ofChange fastJoinsSpec)

/-- ITS FALSE NEIGHBOUR: 'it returns false'. Refute it at one input. -/
def fastJoinsWrong : ChangeSpec := { name := "fastJoins", fn := fun _ => fun
  | [d1, d2] => { results := [.lit (.bool false)], args := [d1, d2] }
  | _ => none }
def FastJoinsWrongFalsely : Prop := fastJoinsRow.holds Tryd.pinned (OpenSpec.ofChange fastJoinsWrong)

/-- 'reckonerlaw03.FastMuls': WHATEVER THE INPUT: true; the input reads as it did. -/
def fastMulsSpec : ChangeSpec := { name := "fastMuls", fn := fun _ => fun
  | [d1, d2, d3] => { results := [.lit (.bool true)], args := [d1, d2, d3] }
  | _ => none }
def fastMulsRow : OpenClaim := { program := "ytdjeoionafkanaadoor", sum := "03f338af37d0e70c73e09de983ec0e94cdf5700427c6d4af6f6a47c9958f7636", func := "reckoner/reckonerlaw03.FastMuls", spec := "fastMuls", inPlace := ["math/bits.Add64", "math/bits.Sub64"], unfollowed := true, recurses := true, named := ["reckoner/fast.fiveWeights", "reckoner/fast.backWeights", "reckoner/fast.backDivisors", "math/bits.divideError", "math/bits.overflowError"], apart := false, laid := [("reckoner/fast.fiveWeights", laid_reckoner_fast_fiveWeights), ("reckoner/fast.backWeights", laid_reckoner_fast_backWeights), ("reckoner/fast.backDivisors", laid_reckoner_fast_backDivisors)] }
def FastMulsSaid : Prop := fastMulsRow.holds Tryd.pinned (OpenSpec.ofChange fastMulsSpec)

/-- ITS FALSE NEIGHBOUR: 'it returns false'. Refute it at one input. -/
def fastMulsWrong : ChangeSpec := { name := "fastMuls", fn := fun _ => fun
  | [d1, d2, d3] => { results := [.lit (.bool false)], args := [d1, d2, d3] }
  | _ => none }
def FastMulsWrongFalsely : Prop := fastMulsRow.holds Tryd.pinned (OpenSpec.ofChange fastMulsWrong)

/-- 'reckonerlaw03.FastLows': WHATEVER THE INPUT: true; the input reads as it did. -/
def fastLowsSpec : ChangeSpec := { name := "fastLows", fn := fun _ => fun
  | [d1, d2, d3] => { results := [.lit (.bool true)], args := [d1, d2, d3] }
  | _ => none }
def fastLowsRow : OpenClaim := { program := "ytdjeoionafkanaadoor", sum := "03f338af37d0e70c73e09de983ec0e94cdf5700427c6d4af6f6a47c9958f7636", func := "reckoner/reckonerlaw03.FastLows", spec := "fastLows", inPlace := ["math/bits.Add64", "math/bits.Sub64"], unfollowed := true, recurses := true, named := ["reckoner/fast.fiveWeights", "reckoner/fast.backWeights", "reckoner/fast.backDivisors", "math/bits.divideError", "math/bits.overflowError"], apart := false, laid := [("reckoner/fast.fiveWeights", laid_reckoner_fast_fiveWeights), ("reckoner/fast.backWeights", laid_reckoner_fast_backWeights), ("reckoner/fast.backDivisors", laid_reckoner_fast_backDivisors)] }
def FastLowsSaid : Prop := fastLowsRow.holds Tryd.pinned (OpenSpec.ofChange fastLowsSpec)

/-- ITS FALSE NEIGHBOUR: 'it returns false'. Refute it at one input. -/
def fastLowsWrong : ChangeSpec := { name := "fastLows", fn := fun _ => fun
  | [d1, d2, d3] => { results := [.lit (.bool false)], args := [d1, d2, d3] }
  | _ => none }
def FastLowsWrongFalsely : Prop := fastLowsRow.holds Tryd.pinned (OpenSpec.ofChange fastLowsWrong)

/-- 'reckonerlaw03.FastCosts': WHATEVER THE INPUT: true; the input reads as it did. -/
def fastCostsSpec : ChangeSpec := { name := "fastCosts", fn := fun _ => fun
  | [d] => { results := [.lit (.bool true)], args := [d] }
  | _ => none }
def fastCostsRow : OpenClaim := { program := "ytdjeoionafkanaadoor", sum := "03f338af37d0e70c73e09de983ec0e94cdf5700427c6d4af6f6a47c9958f7636", func := "reckoner/reckonerlaw03.FastCosts", spec := "fastCosts", inPlace := ["math/bits.Add64", "math/bits.Sub64"], unfollowed := true, recurses := true, named := ["reckoner/fast.fiveWeights", "reckoner/fast.backWeights", "reckoner/fast.backDivisors", "math/bits.divideError", "math/bits.overflowError"], apart := false, laid := [("reckoner/fast.fiveWeights", laid_reckoner_fast_fiveWeights), ("reckoner/fast.backWeights", laid_reckoner_fast_backWeights), ("reckoner/fast.backDivisors", laid_reckoner_fast_backDivisors)] }
def FastCostsSaid : Prop := fastCostsRow.holds Tryd.pinned (OpenSpec.ofChange fastCostsSpec)

/-- ITS FALSE NEIGHBOUR: 'it returns false'. Refute it at one input. -/
def fastCostsWrong : ChangeSpec := { name := "fastCosts", fn := fun _ => fun
  | [d] => { results := [.lit (.bool false)], args := [d] }
  | _ => none }
def FastCostsWrongFalsely : Prop := fastCostsRow.holds Tryd.pinned (OpenSpec.ofChange fastCostsWrong)

/-- 'reckonerlaw03.FastJoined': WHATEVER THE INPUT: true; the input reads as it did. -/
def fastJoinedSpec : ChangeSpec := { name := "fastJoined", fn := fun _ => fun
  | [d1, d2, d3] => { results := [.lit (.bool true)], args := [d1, d2, d3] }
  | _ => none }
def fastJoinedRow : OpenClaim := { program := "ytdjeoionafkanaadoor", sum := "03f338af37d0e70c73e09de983ec0e94cdf5700427c6d4af6f6a47c9958f7636", func := "reckoner/reckonerlaw03.FastJoined", spec := "fastJoined", inPlace := ["math/bits.Add64", "math/bits.Sub64"], unfollowed := true, recurses := true, named := ["reckoner/fast.fiveWeights", "reckoner/fast.backWeights", "reckoner/fast.backDivisors", "math/bits.divideError", "math/bits.overflowError"], apart := false, laid := [("reckoner/fast.fiveWeights", laid_reckoner_fast_fiveWeights), ("reckoner/fast.backWeights", laid_reckoner_fast_backWeights), ("reckoner/fast.backDivisors", laid_reckoner_fast_backDivisors)] }
def FastJoinedSaid : Prop := fastJoinedRow.holds Tryd.pinned (OpenSpec.ofChange fastJoinedSpec)

/-- ITS FALSE NEIGHBOUR: 'it returns false'. Refute it at one input. -/
def fastJoinedWrong : ChangeSpec := { name := "fastJoined", fn := fun _ => fun
  | [d1, d2, d3] => { results := [.lit (.bool false)], args := [d1, d2, d3] }
  | _ => none }
def FastJoinedWrongFalsely : Prop := fastJoinedRow.holds Tryd.pinned (OpenSpec.ofChange fastJoinedWrong)

/-- 'reckonerlaw03.FastPoints': WHATEVER THE INPUT: true; the input reads as it did. -/
def fastPointsSpec : ChangeSpec := { name := "fastPoints", fn := fun _ => fun
  | [d1, d2] => { results := [.lit (.bool true)], args := [d1, d2] }
  | _ => none }
def fastPointsRow : OpenClaim := { program := "ytdjeoionafkanaadoor", sum := "03f338af37d0e70c73e09de983ec0e94cdf5700427c6d4af6f6a47c9958f7636", func := "reckoner/reckonerlaw03.FastPoints", spec := "fastPoints", inPlace := ["math/bits.Add64", "math/bits.Sub64"], unfollowed := true, recurses := true, named := ["reckoner/fast.fiveWeights", "reckoner/fast.backWeights", "reckoner/fast.backDivisors", "math/bits.divideError", "math/bits.overflowError"], apart := false, laid := [("reckoner/fast.fiveWeights", laid_reckoner_fast_fiveWeights), ("reckoner/fast.backWeights", laid_reckoner_fast_backWeights), ("reckoner/fast.backDivisors", laid_reckoner_fast_backDivisors)] }
def FastPointsSaid : Prop := fastPointsRow.holds Tryd.pinned (OpenSpec.ofChange fastPointsSpec)

/-- ITS FALSE NEIGHBOUR: 'it returns false'. Refute it at one input. -/
def fastPointsWrong : ChangeSpec := { name := "fastPoints", fn := fun _ => fun
  | [d1, d2] => { results := [.lit (.bool false)], args := [d1, d2] }
  | _ => none }
def FastPointsWrongFalsely : Prop := fastPointsRow.holds Tryd.pinned (OpenSpec.ofChange fastPointsWrong)

/-- 'reckonerlaw04.NttResidues': WHATEVER THE INPUT: true; the input reads as it did. -/
def nttResiduesSpec : ChangeSpec := { name := "nttResidues", fn := fun _ => fun
  | [d1, d2, d3] => { results := [.lit (.bool true)], args := [d1, d2, d3] }
  | _ => none }
def nttResiduesRow : OpenClaim := { program := "ytdjeoionafkanaadoor", sum := "03f338af37d0e70c73e09de983ec0e94cdf5700427c6d4af6f6a47c9958f7636", func := "reckoner/reckonerlaw04.NttResidues", spec := "nttResidues", inPlace := ["math/bits.Add64", "math/bits.Sub64"], unfollowed := true, recurses := true, named := ["math/bits.deBruijn32tab", "math/bits.deBruijn64tab"], apart := false, laid := [("math/bits.deBruijn32tab", laid_math_bits_deBruijn32tab), ("math/bits.deBruijn64tab", laid_math_bits_deBruijn64tab)] }
def NttResiduesSaid : Prop := nttResiduesRow.holds Tryd.pinned (OpenSpec.ofChange nttResiduesSpec)

/-- ITS FALSE NEIGHBOUR: 'it returns false'. Refute it at one input. -/
def nttResiduesWrong : ChangeSpec := { name := "nttResidues", fn := fun _ => fun
  | [d1, d2, d3] => { results := [.lit (.bool false)], args := [d1, d2, d3] }
  | _ => none }
def NttResiduesWrongFalsely : Prop := nttResiduesRow.holds Tryd.pinned (OpenSpec.ofChange nttResiduesWrong)

/- THE SECOND FORM. 'bulk': how many values and letters a reading holds, each counted each time it is reached (what is shared counts as often as it is met; a slice's spare places count too). A statement '..UptoSaid' is the law's where the arguments, and the package variables that the reading takes, are together of bulk at most 1048576: NARROWER than '..Said'. Prove '..Said' where nothing that the law and all that it calls make is longer than what came in: it says more and counts as full. Else prove '..UptoSaid'. A law counts once. -/
mutual
def uptoBulk {H : Type} : DataW H → Nat
  | .lit (.string bytes) => bytes.length + 1
  | .lit _ => 1
  | .nil => 1
  | .ptr d => uptoBulk d + 1
  | .slice elems spare => uptoBulkAll elems + uptoBulkAll spare + 1
  | .agg parts => uptoBulkAll parts + 1
  | .iface _ d => uptoBulk d + 1
  | .map entries => uptoBulkEntries entries + 1
  | .held _ => 1
def uptoBulkAll {H : Type} : List (DataW H) → Nat
  | [] => 0
  | d :: r => uptoBulk d + uptoBulkAll r
def uptoBulkEntries {H : Type} : List (Lit × DataW H) → Nat
  | [] => 0
  | x :: r => uptoBulkEntry x + uptoBulkEntries r
def uptoBulkEntry {H : Type} : Lit × DataW H → Nat
  | (.string bytes, d) => bytes.length + uptoBulk d + 1
  | (_, d) => uptoBulk d + 1
 end
def uptoSmall : (H : Type) → List (DataW H) → Bool := fun _ ds => decide (uptoBulkAll ds ≤ 1048576)
def OpenSpec.upto (s : _root_.Go.ChangeSpec) : _root_.Go.OpenSpec := { _root_.Go.OpenSpec.ofChange s with cond := some uptoSmall }

/-- 'reckonerlaw01.WordsOrders', WHERE WHAT IT READS IS OF BULK AT MOST 1048576: true; the input reads as it did. -/
def wordsOrdersUptoRow : OpenClaim := { program := "ytdjeoionafkanaadoor", sum := "03f338af37d0e70c73e09de983ec0e94cdf5700427c6d4af6f6a47c9958f7636", func := "reckoner/reckonerlaw01.WordsOrders", spec := "wordsOrders", inPlace := ["math/bits.Sub64", "math/bits.Add64"], unfollowed := true, recurses := true, named := ["reckoner/words.counts", "math/bits.divideError", "math/bits.overflowError"], apart := false, laid := [("reckoner/words.counts", laid_reckoner_words_counts)], narrowed := true }
def WordsOrdersUptoSaid : Prop := wordsOrdersUptoRow.holds Tryd.pinned (OpenSpec.upto wordsOrdersSpec)

/-- 'reckonerlaw03.FastPieces', WHERE WHAT IT READS IS OF BULK AT MOST 1048576: true; the input reads as it did. -/
def fastPiecesUptoRow : OpenClaim := { program := "ytdjeoionafkanaadoor", sum := "03f338af37d0e70c73e09de983ec0e94cdf5700427c6d4af6f6a47c9958f7636", func := "reckoner/reckonerlaw03.FastPieces", spec := "fastPieces", inPlace := ["math/bits.Add64", "math/bits.Sub64"], unfollowed := true, recurses := true, named := ["reckoner/fast.fiveWeights", "reckoner/fast.backWeights", "reckoner/fast.backDivisors", "math/bits.divideError", "math/bits.overflowError"], apart := false, laid := [("reckoner/fast.fiveWeights", laid_reckoner_fast_fiveWeights), ("reckoner/fast.backWeights", laid_reckoner_fast_backWeights), ("reckoner/fast.backDivisors", laid_reckoner_fast_backDivisors)], narrowed := true }
def FastPiecesUptoSaid : Prop := fastPiecesUptoRow.holds Tryd.pinned (OpenSpec.upto fastPiecesSpec)

/-- 'reckonerlaw03.FastJoins', WHERE WHAT IT READS IS OF BULK AT MOST 1048576: true; the input reads as it did. -/
def fastJoinsUptoRow : OpenClaim := { program := "ytdjeoionafkanaadoor", sum := "03f338af37d0e70c73e09de983ec0e94cdf5700427c6d4af6f6a47c9958f7636", func := "reckoner/reckonerlaw03.FastJoins", spec := "fastJoins", inPlace := ["math/bits.Add64", "math/bits.Sub64"], unfollowed := true, recurses := true, named := ["reckoner/fast.fiveWeights", "reckoner/fast.backWeights", "reckoner/fast.backDivisors", "math/bits.divideError", "math/bits.overflowError"], apart := false, laid := [("reckoner/fast.fiveWeights", laid_reckoner_fast_fiveWeights), ("reckoner/fast.backWeights", laid_reckoner_fast_backWeights), ("reckoner/fast.backDivisors", laid_reckoner_fast_backDivisors)], narrowed := true }
def FastJoinsUptoSaid : Prop := fastJoinsUptoRow.holds Tryd.pinned (OpenSpec.upto fastJoinsSpec)

/-- 'reckonerlaw03.FastMuls', WHERE WHAT IT READS IS OF BULK AT MOST 1048576: true; the input reads as it did. -/
def fastMulsUptoRow : OpenClaim := { program := "ytdjeoionafkanaadoor", sum := "03f338af37d0e70c73e09de983ec0e94cdf5700427c6d4af6f6a47c9958f7636", func := "reckoner/reckonerlaw03.FastMuls", spec := "fastMuls", inPlace := ["math/bits.Add64", "math/bits.Sub64"], unfollowed := true, recurses := true, named := ["reckoner/fast.fiveWeights", "reckoner/fast.backWeights", "reckoner/fast.backDivisors", "math/bits.divideError", "math/bits.overflowError"], apart := false, laid := [("reckoner/fast.fiveWeights", laid_reckoner_fast_fiveWeights), ("reckoner/fast.backWeights", laid_reckoner_fast_backWeights), ("reckoner/fast.backDivisors", laid_reckoner_fast_backDivisors)], narrowed := true }
def FastMulsUptoSaid : Prop := fastMulsUptoRow.holds Tryd.pinned (OpenSpec.upto fastMulsSpec)

/-- 'reckonerlaw03.FastLows', WHERE WHAT IT READS IS OF BULK AT MOST 1048576: true; the input reads as it did. -/
def fastLowsUptoRow : OpenClaim := { program := "ytdjeoionafkanaadoor", sum := "03f338af37d0e70c73e09de983ec0e94cdf5700427c6d4af6f6a47c9958f7636", func := "reckoner/reckonerlaw03.FastLows", spec := "fastLows", inPlace := ["math/bits.Add64", "math/bits.Sub64"], unfollowed := true, recurses := true, named := ["reckoner/fast.fiveWeights", "reckoner/fast.backWeights", "reckoner/fast.backDivisors", "math/bits.divideError", "math/bits.overflowError"], apart := false, laid := [("reckoner/fast.fiveWeights", laid_reckoner_fast_fiveWeights), ("reckoner/fast.backWeights", laid_reckoner_fast_backWeights), ("reckoner/fast.backDivisors", laid_reckoner_fast_backDivisors)], narrowed := true }
def FastLowsUptoSaid : Prop := fastLowsUptoRow.holds Tryd.pinned (OpenSpec.upto fastLowsSpec)

/-- 'reckonerlaw03.FastCosts', WHERE WHAT IT READS IS OF BULK AT MOST 1048576: true; the input reads as it did. -/
def fastCostsUptoRow : OpenClaim := { program := "ytdjeoionafkanaadoor", sum := "03f338af37d0e70c73e09de983ec0e94cdf5700427c6d4af6f6a47c9958f7636", func := "reckoner/reckonerlaw03.FastCosts", spec := "fastCosts", inPlace := ["math/bits.Add64", "math/bits.Sub64"], unfollowed := true, recurses := true, named := ["reckoner/fast.fiveWeights", "reckoner/fast.backWeights", "reckoner/fast.backDivisors", "math/bits.divideError", "math/bits.overflowError"], apart := false, laid := [("reckoner/fast.fiveWeights", laid_reckoner_fast_fiveWeights), ("reckoner/fast.backWeights", laid_reckoner_fast_backWeights), ("reckoner/fast.backDivisors", laid_reckoner_fast_backDivisors)], narrowed := true }
def FastCostsUptoSaid : Prop := fastCostsUptoRow.holds Tryd.pinned (OpenSpec.upto fastCostsSpec)

/-- 'reckonerlaw03.FastJoined', WHERE WHAT IT READS IS OF BULK AT MOST 1048576: true; the input reads as it did. -/
def fastJoinedUptoRow : OpenClaim := { program := "ytdjeoionafkanaadoor", sum := "03f338af37d0e70c73e09de983ec0e94cdf5700427c6d4af6f6a47c9958f7636", func := "reckoner/reckonerlaw03.FastJoined", spec := "fastJoined", inPlace := ["math/bits.Add64", "math/bits.Sub64"], unfollowed := true, recurses := true, named := ["reckoner/fast.fiveWeights", "reckoner/fast.backWeights", "reckoner/fast.backDivisors", "math/bits.divideError", "math/bits.overflowError"], apart := false, laid := [("reckoner/fast.fiveWeights", laid_reckoner_fast_fiveWeights), ("reckoner/fast.backWeights", laid_reckoner_fast_backWeights), ("reckoner/fast.backDivisors", laid_reckoner_fast_backDivisors)], narrowed := true }
def FastJoinedUptoSaid : Prop := fastJoinedUptoRow.holds Tryd.pinned (OpenSpec.upto fastJoinedSpec)

/-- 'reckonerlaw03.FastPoints', WHERE WHAT IT READS IS OF BULK AT MOST 1048576: true; the input reads as it did. -/
def fastPointsUptoRow : OpenClaim := { program := "ytdjeoionafkanaadoor", sum := "03f338af37d0e70c73e09de983ec0e94cdf5700427c6d4af6f6a47c9958f7636", func := "reckoner/reckonerlaw03.FastPoints", spec := "fastPoints", inPlace := ["math/bits.Add64", "math/bits.Sub64"], unfollowed := true, recurses := true, named := ["reckoner/fast.fiveWeights", "reckoner/fast.backWeights", "reckoner/fast.backDivisors", "math/bits.divideError", "math/bits.overflowError"], apart := false, laid := [("reckoner/fast.fiveWeights", laid_reckoner_fast_fiveWeights), ("reckoner/fast.backWeights", laid_reckoner_fast_backWeights), ("reckoner/fast.backDivisors", laid_reckoner_fast_backDivisors)], narrowed := true }
def FastPointsUptoSaid : Prop := fastPointsUptoRow.holds Tryd.pinned (OpenSpec.upto fastPointsSpec)

/-- 'reckonerlaw04.NttResidues', WHERE WHAT IT READS IS OF BULK AT MOST 1048576: true; the input reads as it did. -/
def nttResiduesUptoRow : OpenClaim := { program := "ytdjeoionafkanaadoor", sum := "03f338af37d0e70c73e09de983ec0e94cdf5700427c6d4af6f6a47c9958f7636", func := "reckoner/reckonerlaw04.NttResidues", spec := "nttResidues", inPlace := ["math/bits.Add64", "math/bits.Sub64"], unfollowed := true, recurses := true, named := ["math/bits.deBruijn32tab", "math/bits.deBruijn64tab"], apart := false, laid := [("math/bits.deBruijn32tab", laid_math_bits_deBruijn32tab), ("math/bits.deBruijn64tab", laid_math_bits_deBruijn64tab)], narrowed := true }
def NttResiduesUptoSaid : Prop := nttResiduesUptoRow.holds Tryd.pinned (OpenSpec.upto nttResiduesSpec)

end Rows
end Go.Proofs.YtdjeoionafkanaaDoor
