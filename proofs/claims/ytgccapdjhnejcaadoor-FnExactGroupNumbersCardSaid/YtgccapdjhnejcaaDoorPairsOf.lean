/-
  'impl.pairsOf': the pairs of the meetings that are taken, by its contracts: for friends and for strangers.
-/
import Derived.Test.YtgccapdjhnejcaaDoorMeetW
namespace Go.Proofs.YtgccapdjhnejcaaDoor
open Go.RowKit

def taken (f : Bool → Bool) (l : ML) : PL := (l.filter fun m => f m.2.2).map fun m => (m.1, m.2.1)
theorem taken_le (f : Bool → Bool) (l : ML) : (taken f l).length ≤ l.length := by unfold taken; rw [List.length_map]; exact List.length_filter_le _ _
theorem taken_snoc (f : Bool → Bool) (l : ML) (x y : Int) (b : Bool) : taken f (l ++ [(x, y, b)]) = taken f l ++ if f b = true then [(x, y)] else [] := by
  unfold taken
  rw [List.filter_append, List.map_append]
  congr 1
  by_cases h : f b = true
  · rw [if_pos h, List.filter_cons_of_pos (by exact h)]; rfl
  · rw [if_neg h, List.filter_cons_of_neg (by exact h)]; rfl
theorem taken_meets (f : Bool → Bool) (l qs : PL) : taken f (meets l qs) = qs.filter fun q => f (l.contains q) := by
  unfold taken meets
  rw [List.filter_map, List.map_map]
  have e : ((fun m : Int × Int × Bool => (m.1, m.2.1)) ∘ fun q : Int × Int => (q.1, q.2, l.contains q)) = id := rfl
  rw [e, List.map_id]
  rfl

end Go.Proofs.YtgccapdjhnejcaaDoor
