/-
  'AreFriends': the model's and the program's, by their contracts.
-/
import Derived.Test.YtaemodpolopcfaaFriends
namespace Go.Proofs.Ytaemodpolopcfaa
open Go.RowKit

def areF (l : PL) (a b : Int) : Bool := l.contains (min a b, max a b)
def resAreFriends (p : Int) (l : PL) (a b : Int) : Bool × Bool := if isTwo p l a b then (areF l a b, true) else (false, false)
theorem adj_areF {n : Nat} {l : PL} (h : isP n l = true) {i j : Nat} (hij : i ≠ j) : adj l i j = areF l i j := by
  unfold areF
  rcases Nat.lt_or_gt_of_ne hij with h1 | h1
  · rw [adj_pair h h1, Int.min_eq_left (by omega), Int.max_eq_right (by omega)]
  · rw [adj_comm, adj_pair h h1, Int.min_eq_right (by omega), Int.max_eq_left (by omega)]

end Go.Proofs.Ytaemodpolopcfaa
