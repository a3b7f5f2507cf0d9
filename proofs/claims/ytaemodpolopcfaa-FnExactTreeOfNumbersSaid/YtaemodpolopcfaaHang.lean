/-
  'HangTogether': the model's and the program's, by their contracts.
-/
import Derived.Test.YtaemodpolopcfaaCanBe
import Derived.Test.YtaemodpolopcfaaContI
namespace Go.Proofs.Ytaemodpolopcfaa
open Go.RowKit

def resHangTogether (q : List Int) : Bool × Bool := if isNums q && decide (0 < q.length) then (canI q && (decide (q.length < 2) || !hasI q 0) && decide (2 * ((q.length : Int) - 1) ≤ sumI q), true) else (false, false)

end Go.Proofs.Ytaemodpolopcfaa
