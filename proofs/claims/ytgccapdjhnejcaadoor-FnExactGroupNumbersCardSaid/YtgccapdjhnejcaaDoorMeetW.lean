/-
  'impl.meetingsOf', by its contract.
-/
import Derived.Test.YtgccapdjhnejcaaDoorMeet
namespace Go.Proofs.YtgccapdjhnejcaaDoor
open Go.RowKit

theorem below_drewN {B : Nat} {a w : World} (h : Below B a w) (k : Nat) : Below B a (w.drewN k) := ⟨h.os, h.tape, h.output, h.size, h.block⟩

end Go.Proofs.YtgccapdjhnejcaaDoor
