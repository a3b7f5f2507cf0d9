/-
  'paJoin': the model's two parties in one, by its contract.
-/
import Derived.Test.YtgccapdjhnejcaaJoinT
namespace Go.Proofs.Ytgccapdjhnejcaa
open Go.RowKit

def joinP (x : Bool) (p s : Nat) (l m : PL) : PL := tabP (p + s) (joinT p (adj l) (adj m) x)
def resJoin (x : Bool) (p : Int) (l : PL) (s : Int) (m : PL) : Int × PL × Bool := if isP p l && isP s m && decide (p + s ≤ 12) then (p + s, joinP x p.toNat s.toNat l m, true) else (0, [], false)
theorem joinP_len {p s : Nat} (h : p + s ≤ 12) (x : Bool) (l m : PL) : (joinP x p s l m).length ≤ 66 := filter_length_le h _

end Go.Proofs.Ytgccapdjhnejcaa
