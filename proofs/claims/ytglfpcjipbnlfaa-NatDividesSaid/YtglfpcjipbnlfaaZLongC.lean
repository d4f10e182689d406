/- The contract of nat.long stands. -/
import Derived.Test.YtglfpcjipbnlfaaZLong
import Derived.Test.YtglfpcjipbnlfaaZGuess
import Derived.Test.YtglfpcjipbnlfaaP3
namespace Go.Proofs.Ytglfpcjipbnlfaa
open Go.RowKit

theorem longC : LongC := fun A A' n m c c' xs ys w h1 h2 h3 h4 h5 h6 => long_ok guessC A A' n m c c' xs ys w h1 h2 h3 h4 h5 h6
end Go.Proofs.Ytglfpcjipbnlfaa
