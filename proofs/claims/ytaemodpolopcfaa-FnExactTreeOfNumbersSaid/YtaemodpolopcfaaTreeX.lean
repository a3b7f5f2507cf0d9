/-
  A local array by value, indexed.
-/
import Derived.Test.YtaemodpolopcfaaMark
namespace Go.Proofs.Ytaemodpolopcfaa
open Go.RowKit

theorem index_left (cs : Array Value) (m : Nat) (y : Int) (w : World) (hm : m < 12) (h : cs[m]? = some (.int .i64 y)) : (Instr.index 100 (.agg cs) (.int .i64 m)).run Try.prog w = .ok (.int .i64 y) w := by
  simp [Instr.index, run_underlying Try.underlying100, asIntOf, go_sem, h]
  exact fun hh => absurd hm (by omega)
end Go.Proofs.Ytaemodpolopcfaa
