/-
  No cell of these rows narrows 'for every input' (looked for: loops, veiled, ifaces, maps, wideKeys, modest, calm, conditions, laid).
  DERIVED. THE GIVEN ROWS OF THIS SEAT. 3 by the template 'for every input the law returns true; each argument reads behind the call as it read before'; 0 by the template 'total and deterministic' (their statements: YtgnfkgnokhjmcaaTotals.lean).
  GIVEN WITH THE SEED: the statements are not yours to turn. If you find one false, say at which input.
  Laid BY PROGRAM, IN A SANDBOX (cutbox-rows.mjs): the forced cells as the released guide's own fill.sh prints them over the translation 1f8777f38be4722d… (all of the seat's roots in one cut). By AI agents, Wed Nov 11 2026. No macro, syntax, notation, axiom, sorry.
-/
import Derived.Test.YtgnfkgnokhjmcaaChecked
import GoSem.Claim
import GoSem.ClaimJoined
import GoSem.ClaimMapViews
import Derived.JoinedTies
import Derived.KernelRfl
namespace Go.Proofs.Ytgnfkgnokhjmcaa
/- THE CELL 'sum', in the pinned program and in every row, IS THE sha256 OF THE DUMP (.gsa) THAT YtgnfkgnokhjmcaaProg.lean LOADS. Nothing in Lean hashes anything: it is a label: what it is worth is what the hold of that sum in a sandbox is worth. -/
noncomputable def Try.pinned : Pinned := { name := "ytgnfkgnokhjmcaa", sum := "1f8777f38be4722d59dc72be11a62c7c8b155328ce6d32016ef1699f85c66bb8", checked := Try.checked }
namespace Rows
def none {H : Type} : Left H := { results := [], args := [] }

/-- 'laws.FnExactFirstOfNumbers': WHATEVER THE INPUT: true; the input reads as it did. -/
def fnExactFirstOfNumbersSpec : ChangeSpec := { name := "fnExactFirstOfNumbers", fn := fun _ => fun
  | [d] => { results := [.lit (.bool true)], args := [d] }
  | _ => none }
def fnExactFirstOfNumbersRow : OpenClaim := { program := "ytgnfkgnokhjmcaa", sum := "1f8777f38be4722d59dc72be11a62c7c8b155328ce6d32016ef1699f85c66bb8", func := "loop.example/g01257/laws.FnExactFirstOfNumbers", spec := "fnExactFirstOfNumbers", unfollowed := true, recurses := true, apart := false }
def FnExactFirstOfNumbersSaid : Prop := fnExactFirstOfNumbersRow.holds Try.pinned (OpenSpec.ofChange fnExactFirstOfNumbersSpec)

/-- ITS FALSE NEIGHBOUR: 'it returns false'. Refute it at one input. -/
def fnExactFirstOfNumbersWrong : ChangeSpec := { name := "fnExactFirstOfNumbers", fn := fun _ => fun
  | [d] => { results := [.lit (.bool false)], args := [d] }
  | _ => none }
def FnExactFirstOfNumbersWrongFalsely : Prop := fnExactFirstOfNumbersRow.holds Try.pinned (OpenSpec.ofChange fnExactFirstOfNumbersWrong)

/-- 'laws.FnExactCountOfNumbers': WHATEVER THE INPUT: true; the input reads as it did. -/
def fnExactCountOfNumbersSpec : ChangeSpec := { name := "fnExactCountOfNumbers", fn := fun _ => fun
  | [d] => { results := [.lit (.bool true)], args := [d] }
  | _ => none }
def fnExactCountOfNumbersRow : OpenClaim := { program := "ytgnfkgnokhjmcaa", sum := "1f8777f38be4722d59dc72be11a62c7c8b155328ce6d32016ef1699f85c66bb8", func := "loop.example/g01257/laws.FnExactCountOfNumbers", spec := "fnExactCountOfNumbers", unfollowed := true, recurses := true, apart := false }
def FnExactCountOfNumbersSaid : Prop := fnExactCountOfNumbersRow.holds Try.pinned (OpenSpec.ofChange fnExactCountOfNumbersSpec)

/-- ITS FALSE NEIGHBOUR: 'it returns false'. Refute it at one input. -/
def fnExactCountOfNumbersWrong : ChangeSpec := { name := "fnExactCountOfNumbers", fn := fun _ => fun
  | [d] => { results := [.lit (.bool false)], args := [d] }
  | _ => none }
def FnExactCountOfNumbersWrongFalsely : Prop := fnExactCountOfNumbersRow.holds Try.pinned (OpenSpec.ofChange fnExactCountOfNumbersWrong)

/-- 'laws.FnExactIsOnly': WHATEVER THE INPUT: true; the input reads as it did. -/
def fnExactIsOnlySpec : ChangeSpec := { name := "fnExactIsOnly", fn := fun _ => fun
  | [d] => { results := [.lit (.bool true)], args := [d] }
  | _ => none }
def fnExactIsOnlyRow : OpenClaim := { program := "ytgnfkgnokhjmcaa", sum := "1f8777f38be4722d59dc72be11a62c7c8b155328ce6d32016ef1699f85c66bb8", func := "loop.example/g01257/laws.FnExactIsOnly", spec := "fnExactIsOnly", unfollowed := true, recurses := true, apart := false }
def FnExactIsOnlySaid : Prop := fnExactIsOnlyRow.holds Try.pinned (OpenSpec.ofChange fnExactIsOnlySpec)

/-- ITS FALSE NEIGHBOUR: 'it returns false'. Refute it at one input. -/
def fnExactIsOnlyWrong : ChangeSpec := { name := "fnExactIsOnly", fn := fun _ => fun
  | [d] => { results := [.lit (.bool false)], args := [d] }
  | _ => none }
def FnExactIsOnlyWrongFalsely : Prop := fnExactIsOnlyRow.holds Try.pinned (OpenSpec.ofChange fnExactIsOnlyWrong)

/- THE SECOND FORM. 'bulk': how many values and letters a reading holds, each counted each time it is reached (what is shared counts as often as it is met; a slice's spare places count too). A statement '..UptoSaid' is the law's where the arguments, and the package variables that the reading takes, are together of bulk at most 1048576: NARROWER than '..Said'. Prove '..Said' where nothing that the law and all that it calls make is longer than what came in: it says more and counts as full. Else prove '..UptoSaid'. A law counts once. -/
mutual
def uptoBulk {H : Type} : DataW H → Nat
  | .lit (.string bytes) => bytes.length + 1
  | .lit _ => 1
  | .nil => 1
  | .ptr d => uptoBulk d + 1
  | .slice elems spare => uptoBulkAll elems + uptoBulkAll spare + 1
  | .agg parts => uptoBulkAll parts + 1
  | .iface _ d => uptoBulk d + 1
  | .map entries => uptoBulkEntries entries + 1
  | .held _ => 1
def uptoBulkAll {H : Type} : List (DataW H) → Nat
  | [] => 0
  | d :: r => uptoBulk d + uptoBulkAll r
def uptoBulkEntries {H : Type} : List (Lit × DataW H) → Nat
  | [] => 0
  | x :: r => uptoBulkEntry x + uptoBulkEntries r
def uptoBulkEntry {H : Type} : Lit × DataW H → Nat
  | (.string bytes, d) => bytes.length + uptoBulk d + 1
  | (_, d) => uptoBulk d + 1
 end
def uptoSmall : (H : Type) → List (DataW H) → Bool := fun _ ds => decide (uptoBulkAll ds ≤ 1048576)
def OpenSpec.upto (s : _root_.Go.ChangeSpec) : _root_.Go.OpenSpec := { _root_.Go.OpenSpec.ofChange s with cond := some uptoSmall }

/-- 'laws.FnExactFirstOfNumbers', WHERE WHAT IT READS IS OF BULK AT MOST 1048576: true; the input reads as it did. -/
def fnExactFirstOfNumbersUptoRow : OpenClaim := { program := "ytgnfkgnokhjmcaa", sum := "1f8777f38be4722d59dc72be11a62c7c8b155328ce6d32016ef1699f85c66bb8", func := "loop.example/g01257/laws.FnExactFirstOfNumbers", spec := "fnExactFirstOfNumbers", unfollowed := true, recurses := true, apart := false, narrowed := true }
def FnExactFirstOfNumbersUptoSaid : Prop := fnExactFirstOfNumbersUptoRow.holds Try.pinned (OpenSpec.upto fnExactFirstOfNumbersSpec)

/-- 'laws.FnExactCountOfNumbers', WHERE WHAT IT READS IS OF BULK AT MOST 1048576: true; the input reads as it did. -/
def fnExactCountOfNumbersUptoRow : OpenClaim := { program := "ytgnfkgnokhjmcaa", sum := "1f8777f38be4722d59dc72be11a62c7c8b155328ce6d32016ef1699f85c66bb8", func := "loop.example/g01257/laws.FnExactCountOfNumbers", spec := "fnExactCountOfNumbers", unfollowed := true, recurses := true, apart := false, narrowed := true }
def FnExactCountOfNumbersUptoSaid : Prop := fnExactCountOfNumbersUptoRow.holds Try.pinned (OpenSpec.upto fnExactCountOfNumbersSpec)

/-- 'laws.FnExactIsOnly', WHERE WHAT IT READS IS OF BULK AT MOST 1048576: true; the input reads as it did. -/
def fnExactIsOnlyUptoRow : OpenClaim := { program := "ytgnfkgnokhjmcaa", sum := "1f8777f38be4722d59dc72be11a62c7c8b155328ce6d32016ef1699f85c66bb8", func := "loop.example/g01257/laws.FnExactIsOnly", spec := "fnExactIsOnly", unfollowed := true, recurses := true, apart := false, narrowed := true }
def FnExactIsOnlyUptoSaid : Prop := fnExactIsOnlyUptoRow.holds Try.pinned (OpenSpec.upto fnExactIsOnlySpec)

end Rows
end Go.Proofs.Ytgnfkgnokhjmcaa
