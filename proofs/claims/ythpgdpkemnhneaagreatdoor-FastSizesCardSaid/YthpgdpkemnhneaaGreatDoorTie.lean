/-
  DERIVED. GIVEN WITH THE SEED: THE PROGRAM's TIES (one call each: nine closed facts by the kernel) AND EACH ROW's TIE, after the 31st guide's Derived/Test/Toyas{Tie, Card}.lean. No idea stands in it: it is a product of the set-up. Laid BY PROGRAM, IN A SANDBOX (cutbox-door.mjs). By AI agents, Wed Nov 11 2026. No macro, syntax, notation, axiom, sorry.
-/
import Derived.Test.YthpgdpkemnhneaaGreatDoorRows
import Derived.LaidByTextLater
import Derived.SevenTiedAt
import Derived.LaidSub
import Derived.LaidOnce
namespace Go.Proofs.YthpgdpkemnhneaaGreatDoor
open Go
set_option maxRecDepth 100000
theorem seatTie1 : Tryz.prog.laidByTextLater [("reckoner/fast.fiveWeights", Rows.laid_reckoner_fast_fiveWeights), ("reckoner/fast.backWeights", Rows.laid_reckoner_fast_backWeights), ("reckoner/fast.backDivisors", Rows.laid_reckoner_fast_backDivisors)] [.data, .data, .data] true :=
  Program.laidByTextLater_by_one 34 8 26 (by kernel_rfl) (by kernel_rfl) (by kernel_rfl) (by kernel_rfl) (by kernel_rfl) (by kernel_rfl) (fun _ _ => by kernel_rfl)
theorem noOwnUnsafe : Tryz.pinned.checked.prog.headLifts.contains "ownunsafe" = false := by kernel_rfl
theorem tie : Tryz.prog.laidByTextLater [("reckoner/fast.fiveWeights", Rows.laid_reckoner_fast_fiveWeights), ("reckoner/fast.backWeights", Rows.laid_reckoner_fast_backWeights), ("reckoner/fast.backDivisors", Rows.laid_reckoner_fast_backDivisors)] [.data, .data, .data] true :=
  Program.laidByTextLater.sub seatTie1 ["reckoner/fast.fiveWeights", "reckoner/fast.backWeights", "reckoner/fast.backDivisors"] (by kernel_rfl) (by kernel_rfl)
theorem fastSizes_row_tie : Rows.fastSizesRow.laidByTextAt .later Tryz.pinned [.data, .data, .data] true :=
  OpenClaim.laidByTextAt_later rfl rfl tie noOwnUnsafe
theorem fastSizesUpto_row_tie : Rows.fastSizesUptoRow.laidByTextAt .later Tryz.pinned [.data, .data, .data] true :=
  OpenClaim.laidByTextAt_later rfl rfl tie noOwnUnsafe
end Go.Proofs.YthpgdpkemnhneaaGreatDoor
