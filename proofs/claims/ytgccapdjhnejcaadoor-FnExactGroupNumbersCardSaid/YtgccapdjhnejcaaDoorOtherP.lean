/-
  'OtherParty' and 'FullParty': the model's and the program's, by their contracts.
-/
import Derived.Test.YtgccapdjhnejcaaDoorPairsOf
import Derived.Deep.RegionHeld3
namespace Go.Proofs.YtgccapdjhnejcaaDoor
open Go.RowKit

def resOtherParty (p : Int) (l : PL) : Int × PL × Bool := if isP p l then (p, otherP p.toNat l, true) else (0, [], false)
theorem resOtherParty_len (p : Int) (l : PL) : (resOtherParty p l).2.1.length ≤ 1048576 := by
  unfold resOtherParty
  split
  · rename_i h
    have := isP_range h
    exact Nat.le_trans (filter_length_le (n := p.toNat) (by omega) _) (by omega)
  · simp

end Go.Proofs.YtgccapdjhnejcaaDoor
