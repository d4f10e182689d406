/-
  DERIVED. GIVEN WITH THE SEED: THE PROGRAM's TIES (one call each: nine closed facts by the kernel) AND EACH ROW's TIE, after the 31st guide's Derived/Test/Toyas{Tie, Card}.lean. No idea stands in it: it is a product of the set-up. Laid BY PROGRAM, IN A SANDBOX (cutbox-door.mjs). By AI agents, Wed Nov 11 2026. No macro, syntax, notation, axiom, sorry.
-/
import Derived.Test.YtalcikmngglplaaDoorRows
import Derived.LaidByTextLater
import Derived.SevenTiedAt
import Derived.LaidSub
import Derived.LaidOnce
namespace Go.Proofs.YtalcikmngglplaaDoor
open Go
set_option maxRecDepth 100000
theorem seatTie1 : Tryd.prog.laidByTextLater [("reckoner/words.counts", Rows.laid_reckoner_words_counts), ("reckoner/fast.fiveWeights", Rows.laid_reckoner_fast_fiveWeights), ("reckoner/fast.backWeights", Rows.laid_reckoner_fast_backWeights), ("reckoner/fast.backDivisors", Rows.laid_reckoner_fast_backDivisors)] [.data, .data, .data, .data] true :=
  Program.laidByTextLater_by_one 42 8 49 (by kernel_rfl) (by kernel_rfl) (by kernel_rfl) (by kernel_rfl) (by kernel_rfl) (by kernel_rfl) (fun _ _ => by kernel_rfl)
theorem noOwnUnsafe : Tryd.pinned.checked.prog.headLifts.contains "ownunsafe" = false := by kernel_rfl
theorem tie : Tryd.prog.laidByTextLater [("reckoner/words.counts", Rows.laid_reckoner_words_counts)] [.data] true :=
  Program.laidByTextLater.sub seatTie1 ["reckoner/words.counts"] (by kernel_rfl) (by kernel_rfl)
theorem natValues_row_tie : Rows.natValuesRow.laidByTextAt .later Tryd.pinned [.data] true :=
  OpenClaim.laidByTextAt_later rfl rfl tie noOwnUnsafe
theorem tie2 : Tryd.prog.laidByTextLater [("reckoner/fast.fiveWeights", Rows.laid_reckoner_fast_fiveWeights), ("reckoner/fast.backWeights", Rows.laid_reckoner_fast_backWeights), ("reckoner/fast.backDivisors", Rows.laid_reckoner_fast_backDivisors)] [.data, .data, .data] true :=
  Program.laidByTextLater.sub seatTie1 ["reckoner/fast.fiveWeights", "reckoner/fast.backWeights", "reckoner/fast.backDivisors"] (by kernel_rfl) (by kernel_rfl)
theorem fastJoins_row_tie : Rows.fastJoinsRow.laidByTextAt .later Tryd.pinned [.data, .data, .data] true :=
  OpenClaim.laidByTextAt_later rfl rfl tie2 noOwnUnsafe
theorem natValuesUpto_row_tie : Rows.natValuesUptoRow.laidByTextAt .later Tryd.pinned [.data] true :=
  OpenClaim.laidByTextAt_later rfl rfl tie noOwnUnsafe
theorem fastJoinsUpto_row_tie : Rows.fastJoinsUptoRow.laidByTextAt .later Tryd.pinned [.data, .data, .data] true :=
  OpenClaim.laidByTextAt_later rfl rfl tie2 noOwnUnsafe
end Go.Proofs.YtalcikmngglplaaDoor
