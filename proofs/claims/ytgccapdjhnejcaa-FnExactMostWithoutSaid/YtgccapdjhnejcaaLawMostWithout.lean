/-
  'laws.FnExactMostWithout' returns true, whatever its arguments: out of the contracts of the model's function and of the program's.
-/
import Derived.Test.YtgccapdjhnejcaaEven
import Derived.Test.YtgccapdjhnejcaaGot
import Derived.Deep.RegionHeld3
namespace Go.Proofs.Ytgccapdjhnejcaa
open Go.RowKit

set_option maxHeartbeats 4000000 in
set_option maxRecDepth 100000 in
theorem lawMostWithout_any (i0 : Int) (i1 : Int) (W : World) (hi1 : -9223372036854775808 ≤ i1 ∧ i1 ≤ 9223372036854775807) :
    Calls Try.prog 6 #[.int .i64 i0, .int .i64 i1] W fun e w' => e = .returned (.bool true) ∧ Below W.heap.size W w' := by
  have hone : (0 : Int) ≤ 1 ∧ (1 : Int) ≤ 16777216 := by omega
  obtain ⟨⟨rb, rok⟩, hres⟩ : ∃ r, resMostWithout i0 i1 = r := ⟨_, rfl⟩
  have Hres := Lib.hid hres
  clear hres
  go_enter Try.func6, Try.ntmps6
  go_wp2_with fail
  refine (specMostWithout_any i0 i1 _ ).mono ?_
  rw [Hres.out]
  rintro e w1 ⟨rfl, hb1⟩
  have g1 : Below W.heap.size W w1 := hb1
  have s1 := hb1.size
  have k1 : Below W.heap.size W w1 := g1
  go_wp2_with fail
  refine (implMostWithout_any i0 i1 _ hi1).mono ?_
  rw [Hres.out]
  rintro e w2 ⟨rfl, hb2⟩
  have g2 : Below w1.heap.size w1 w2 := hb2
  have s2 := hb2.size
  have k2 := k1.trans (g2.mono k1.size)
  go_wp2
  go_ret
  exact ⟨rfl, k2⟩
end Go.Proofs.Ytgccapdjhnejcaa
