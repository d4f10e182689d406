/- The contract of nat.long stands. -/
import Derived.Test.YtalcikmngglplaaZLong
import Derived.Test.YtalcikmngglplaaZGuess
import Derived.Test.YtalcikmngglplaaP3
namespace Go.Proofs.Ytalcikmngglplaa
open Go.RowKit

theorem longC : LongC := fun A A' n m c c' xs ys w h1 h2 h3 h4 h5 h6 => long_ok guessC A A' n m c c' xs ys w h1 h2 h3 h4 h5 h6
end Go.Proofs.Ytalcikmngglplaa
