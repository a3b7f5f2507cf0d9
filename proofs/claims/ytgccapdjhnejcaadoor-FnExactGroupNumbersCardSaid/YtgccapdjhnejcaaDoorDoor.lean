/-
  THE DOOR SEAT's CONDITION: the library's table lies in its variable: what a walk reads of it, and a world that meets it.
-/
import Derived.Test.YtgccapdjhnejcaaDoorFacts
import Derived.Test.YtgccapdjhnejcaaDoorTz
import Derived.Test.YtgccapdjhnejcaaDoorTie
import Derived.Test.YtgccapdjhnejcaaDoorCards
import Derived.Lib.LaidTab
import Derived.LaidHandle
import Derived.SevenTiedAt
namespace Go.Proofs.YtgccapdjhnejcaaDoor
open Go.RowKit

def tabInts : List Int := Lib.deBruijn32tab.map fun n : Nat => (n : Int)
theorem Tryd.tabGlobal : Tryd.prog.globalNamed "math/bits.deBruijn32tab" = some 0 := by kernel_rfl
theorem Tryd.tabType : (Tryd.prog.globals[0]?).map (·.type) = some 115 := by kernel_rfl
theorem Tryd.tabCells : Tryd.prog.cellsOf 115 = 32 := by kernel_rfl
theorem Tryd.byteCells : Tryd.prog.cellsOf 5 = 1 := by kernel_rfl
theorem tabInts_at : ∀ i : Fin 32, tabInts.getD i.val 0 = ((Lib.deBruijn32tab.getD i.val 0 : Nat) : Int) := by decide
theorem tab_of_laid {W : World} (h : laidMetH Tryd.prog [("math/bits.deBruijn32tab", Rows.laid_math_bits_deBruijn32tab)] W) : TabW W := by
  have h' : laidMet Tryd.prog (("math/bits.deBruijn32tab", Lib.tabData .u8 tabInts) :: []) W := h
  have ht := Lib.tabIs_of_head Tryd.tabGlobal Tryd.tabType Tryd.underlying115 Tryd.underlying5 Tryd.byteCells Tryd.tabCells h'
  intro j hj
  rw [ht.cell Tryd.tabGlobal j (by simpa [tabInts, Lib.deBruijn32tab] using hj), tabInts_at ⟨j, hj⟩]

/-- A world that meets the condition. -/
noncomputable def laidWorld (os : Os) : World :=
  let w0 := World.holding Tryd.prog os ⟨#[], #[], []⟩
  { w0 with heap := w0.heap.modify 0 fun
      | .cells _ t frozen => .cells (tabInts.map fun z => Value.int .u8 z).toArray t frozen
      | o => o }
theorem laidWorld_met (os : Os) (args : Array Value) : laidMetH Tryd.prog [("math/bits.deBruijn32tab", Rows.laid_math_bits_deBruijn32tab)] ((laidWorld os).forCall (fun _ _ => 0) ⟨#[], args, []⟩).memory :=
  laidMetH_of_parts (laidMet_of_run' 8 (by kernel_rfl) (by kernel_rfl)) (by kernel_rfl)
end Go.Proofs.YtgccapdjhnejcaaDoor
