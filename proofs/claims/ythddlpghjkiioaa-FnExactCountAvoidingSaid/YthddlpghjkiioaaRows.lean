/-
  No cell of these rows narrows 'for every input' (looked for: loops, veiled, ifaces, maps, wideKeys, modest, calm, conditions, laid).
  DERIVED. THE GIVEN ROWS OF THIS SEAT. 8 by the template 'for every input the law returns true; each argument reads behind the call as it read before'; 0 by the template 'total and deterministic' (their statements: YthddlpghjkiioaaTotals.lean).
  GIVEN WITH THE SEED: the statements are not yours to turn. If you find one false, say at which input.
  Laid BY PROGRAM, IN A SANDBOX (cutbox-rows.mjs): the forced cells as the released guide's own fill.sh prints them over the translation e44c72bf0c75f42e… (all of the seat's roots in one cut). By AI agents, Wed Nov 11 2026. No macro, syntax, notation, axiom, sorry.
-/
import Derived.Test.YthddlpghjkiioaaChecked
import GoSem.Claim
import GoSem.ClaimJoined
import GoSem.ClaimMapViews
import Derived.JoinedTies
import Derived.KernelRfl
namespace Go.Proofs.Ythddlpghjkiioaa
/- THE CELL 'sum', in the pinned program and in every row, IS THE sha256 OF THE DUMP (.gsa) THAT YthddlpghjkiioaaProg.lean LOADS. Nothing in Lean hashes anything: it is a label: what it is worth is what the hold of that sum in a sandbox is worth. -/
noncomputable def Try.pinned : Pinned := { name := "ythddlpghjkiioaa", sum := "e44c72bf0c75f42ed8fe26c10296e4795ce2710d9c25362d12181333204cc723", checked := Try.checked }
namespace Rows
def none {H : Type} : Left H := { results := [], args := [] }

/-- 'laws.FnExactFirstOfNumbers': WHATEVER THE INPUT: true; the input reads as it did. -/
def fnExactFirstOfNumbersSpec : ChangeSpec := { name := "fnExactFirstOfNumbers", fn := fun _ => fun
  | [d] => { results := [.lit (.bool true)], args := [d] }
  | _ => none }
def fnExactFirstOfNumbersRow : OpenClaim := { program := "ythddlpghjkiioaa", sum := "e44c72bf0c75f42ed8fe26c10296e4795ce2710d9c25362d12181333204cc723", func := "loop.example/g01257/laws.FnExactFirstOfNumbers", spec := "fnExactFirstOfNumbers", unfollowed := true, recurses := true, apart := false }
def FnExactFirstOfNumbersSaid : Prop := fnExactFirstOfNumbersRow.holds Try.pinned (OpenSpec.ofChange fnExactFirstOfNumbersSpec)

/-- ITS FALSE NEIGHBOUR: 'it returns false'. Refute it at one input. -/
def fnExactFirstOfNumbersWrong : ChangeSpec := { name := "fnExactFirstOfNumbers", fn := fun _ => fun
  | [d] => { results := [.lit (.bool false)], args := [d] }
  | _ => none }
def FnExactFirstOfNumbersWrongFalsely : Prop := fnExactFirstOfNumbersRow.holds Try.pinned (OpenSpec.ofChange fnExactFirstOfNumbersWrong)

/-- 'laws.FnExactFewestColours': WHATEVER THE INPUT: true; the input reads as it did. -/
def fnExactFewestColoursSpec : ChangeSpec := { name := "fnExactFewestColours", fn := fun _ => fun
  | [d] => { results := [.lit (.bool true)], args := [d] }
  | _ => none }
def fnExactFewestColoursRow : OpenClaim := { program := "ythddlpghjkiioaa", sum := "e44c72bf0c75f42ed8fe26c10296e4795ce2710d9c25362d12181333204cc723", func := "loop.example/g01257/laws.FnExactFewestColours", spec := "fnExactFewestColours", unfollowed := true, recurses := true, apart := false }
def FnExactFewestColoursSaid : Prop := fnExactFewestColoursRow.holds Try.pinned (OpenSpec.ofChange fnExactFewestColoursSpec)

/-- ITS FALSE NEIGHBOUR: 'it returns false'. Refute it at one input. -/
def fnExactFewestColoursWrong : ChangeSpec := { name := "fnExactFewestColours", fn := fun _ => fun
  | [d] => { results := [.lit (.bool false)], args := [d] }
  | _ => none }
def FnExactFewestColoursWrongFalsely : Prop := fnExactFewestColoursRow.holds Try.pinned (OpenSpec.ofChange fnExactFewestColoursWrong)

/-- 'laws.FnExactFirstColouring': WHATEVER THE INPUT: true; the input reads as it did. -/
def fnExactFirstColouringSpec : ChangeSpec := { name := "fnExactFirstColouring", fn := fun _ => fun
  | [d] => { results := [.lit (.bool true)], args := [d] }
  | _ => none }
def fnExactFirstColouringRow : OpenClaim := { program := "ythddlpghjkiioaa", sum := "e44c72bf0c75f42ed8fe26c10296e4795ce2710d9c25362d12181333204cc723", func := "loop.example/g01257/laws.FnExactFirstColouring", spec := "fnExactFirstColouring", unfollowed := true, recurses := true, apart := false }
def FnExactFirstColouringSaid : Prop := fnExactFirstColouringRow.holds Try.pinned (OpenSpec.ofChange fnExactFirstColouringSpec)

/-- ITS FALSE NEIGHBOUR: 'it returns false'. Refute it at one input. -/
def fnExactFirstColouringWrong : ChangeSpec := { name := "fnExactFirstColouring", fn := fun _ => fun
  | [d] => { results := [.lit (.bool false)], args := [d] }
  | _ => none }
def FnExactFirstColouringWrongFalsely : Prop := fnExactFirstColouringRow.holds Try.pinned (OpenSpec.ofChange fnExactFirstColouringWrong)

/-- 'laws.FnExactCountColourings': WHATEVER THE INPUT: true; the input reads as it did. -/
def fnExactCountColouringsSpec : ChangeSpec := { name := "fnExactCountColourings", fn := fun _ => fun
  | [d1, d2] => { results := [.lit (.bool true)], args := [d1, d2] }
  | _ => none }
def fnExactCountColouringsRow : OpenClaim := { program := "ythddlpghjkiioaa", sum := "e44c72bf0c75f42ed8fe26c10296e4795ce2710d9c25362d12181333204cc723", func := "loop.example/g01257/laws.FnExactCountColourings", spec := "fnExactCountColourings", unfollowed := true, recurses := true, apart := false }
def FnExactCountColouringsSaid : Prop := fnExactCountColouringsRow.holds Try.pinned (OpenSpec.ofChange fnExactCountColouringsSpec)

/-- ITS FALSE NEIGHBOUR: 'it returns false'. Refute it at one input. -/
def fnExactCountColouringsWrong : ChangeSpec := { name := "fnExactCountColourings", fn := fun _ => fun
  | [d1, d2] => { results := [.lit (.bool false)], args := [d1, d2] }
  | _ => none }
def FnExactCountColouringsWrongFalsely : Prop := fnExactCountColouringsRow.holds Try.pinned (OpenSpec.ofChange fnExactCountColouringsWrong)

/-- 'laws.FnExactFewestGroups': WHATEVER THE INPUT: true; the input reads as it did. -/
def fnExactFewestGroupsSpec : ChangeSpec := { name := "fnExactFewestGroups", fn := fun _ => fun
  | [d] => { results := [.lit (.bool true)], args := [d] }
  | _ => none }
def fnExactFewestGroupsRow : OpenClaim := { program := "ythddlpghjkiioaa", sum := "e44c72bf0c75f42ed8fe26c10296e4795ce2710d9c25362d12181333204cc723", func := "loop.example/g01257/laws.FnExactFewestGroups", spec := "fnExactFewestGroups", unfollowed := true, recurses := true, apart := false }
def FnExactFewestGroupsSaid : Prop := fnExactFewestGroupsRow.holds Try.pinned (OpenSpec.ofChange fnExactFewestGroupsSpec)

/-- ITS FALSE NEIGHBOUR: 'it returns false'. Refute it at one input. -/
def fnExactFewestGroupsWrong : ChangeSpec := { name := "fnExactFewestGroups", fn := fun _ => fun
  | [d] => { results := [.lit (.bool false)], args := [d] }
  | _ => none }
def FnExactFewestGroupsWrongFalsely : Prop := fnExactFewestGroupsRow.holds Try.pinned (OpenSpec.ofChange fnExactFewestGroupsWrong)

/-- 'laws.FnExactGroupsOfParty': WHATEVER THE INPUT: true; the input reads as it did. -/
def fnExactGroupsOfPartySpec : ChangeSpec := { name := "fnExactGroupsOfParty", fn := fun _ => fun
  | [d] => { results := [.lit (.bool true)], args := [d] }
  | _ => none }
def fnExactGroupsOfPartyRow : OpenClaim := { program := "ythddlpghjkiioaa", sum := "e44c72bf0c75f42ed8fe26c10296e4795ce2710d9c25362d12181333204cc723", func := "loop.example/g01257/laws.FnExactGroupsOfParty", spec := "fnExactGroupsOfParty", unfollowed := true, recurses := true, apart := false }
def FnExactGroupsOfPartySaid : Prop := fnExactGroupsOfPartyRow.holds Try.pinned (OpenSpec.ofChange fnExactGroupsOfPartySpec)

/-- ITS FALSE NEIGHBOUR: 'it returns false'. Refute it at one input. -/
def fnExactGroupsOfPartyWrong : ChangeSpec := { name := "fnExactGroupsOfParty", fn := fun _ => fun
  | [d] => { results := [.lit (.bool false)], args := [d] }
  | _ => none }
def FnExactGroupsOfPartyWrongFalsely : Prop := fnExactGroupsOfPartyRow.holds Try.pinned (OpenSpec.ofChange fnExactGroupsOfPartyWrong)

/-- 'laws.FnExactFirstAvoiding': WHATEVER THE INPUT: true; the input reads as it did. -/
def fnExactFirstAvoidingSpec : ChangeSpec := { name := "fnExactFirstAvoiding", fn := fun _ => fun
  | [d1, d2] => { results := [.lit (.bool true)], args := [d1, d2] }
  | _ => none }
def fnExactFirstAvoidingRow : OpenClaim := { program := "ythddlpghjkiioaa", sum := "e44c72bf0c75f42ed8fe26c10296e4795ce2710d9c25362d12181333204cc723", func := "loop.example/g01257/laws.FnExactFirstAvoiding", spec := "fnExactFirstAvoiding", unfollowed := true, recurses := true, apart := false }
def FnExactFirstAvoidingSaid : Prop := fnExactFirstAvoidingRow.holds Try.pinned (OpenSpec.ofChange fnExactFirstAvoidingSpec)

/-- ITS FALSE NEIGHBOUR: 'it returns false'. Refute it at one input. -/
def fnExactFirstAvoidingWrong : ChangeSpec := { name := "fnExactFirstAvoiding", fn := fun _ => fun
  | [d1, d2] => { results := [.lit (.bool false)], args := [d1, d2] }
  | _ => none }
def FnExactFirstAvoidingWrongFalsely : Prop := fnExactFirstAvoidingRow.holds Try.pinned (OpenSpec.ofChange fnExactFirstAvoidingWrong)

/-- 'laws.FnExactCountAvoiding': WHATEVER THE INPUT: true; the input reads as it did. -/
def fnExactCountAvoidingSpec : ChangeSpec := { name := "fnExactCountAvoiding", fn := fun _ => fun
  | [d1, d2] => { results := [.lit (.bool true)], args := [d1, d2] }
  | _ => none }
def fnExactCountAvoidingRow : OpenClaim := { program := "ythddlpghjkiioaa", sum := "e44c72bf0c75f42ed8fe26c10296e4795ce2710d9c25362d12181333204cc723", func := "loop.example/g01257/laws.FnExactCountAvoiding", spec := "fnExactCountAvoiding", unfollowed := true, recurses := true, apart := false }
def FnExactCountAvoidingSaid : Prop := fnExactCountAvoidingRow.holds Try.pinned (OpenSpec.ofChange fnExactCountAvoidingSpec)

/-- ITS FALSE NEIGHBOUR: 'it returns false'. Refute it at one input. -/
def fnExactCountAvoidingWrong : ChangeSpec := { name := "fnExactCountAvoiding", fn := fun _ => fun
  | [d1, d2] => { results := [.lit (.bool false)], args := [d1, d2] }
  | _ => none }
def FnExactCountAvoidingWrongFalsely : Prop := fnExactCountAvoidingRow.holds Try.pinned (OpenSpec.ofChange fnExactCountAvoidingWrong)

/- THE SECOND FORM. 'bulk': how many values and letters a reading holds, each counted each time it is reached (what is shared counts as often as it is met; a slice's spare places count too). A statement '..UptoSaid' is the law's where the arguments, and the package variables that the reading takes, are together of bulk at most 1048576: NARROWER than '..Said'. Prove '..Said' where nothing that the law and all that it calls make is longer than what came in: it says more and counts as full. Else prove '..UptoSaid'. A law counts once. -/
mutual
def uptoBulk {H : Type} : DataW H → Nat
  | .lit (.string bytes) => bytes.length + 1
  | .lit _ => 1
  | .nil => 1
  | .ptr d => uptoBulk d + 1
  | .slice elems spare => uptoBulkAll elems + uptoBulkAll spare + 1
  | .agg parts => uptoBulkAll parts + 1
  | .iface _ d => uptoBulk d + 1
  | .map entries => uptoBulkEntries entries + 1
  | .held _ => 1
def uptoBulkAll {H : Type} : List (DataW H) → Nat
  | [] => 0
  | d :: r => uptoBulk d + uptoBulkAll r
def uptoBulkEntries {H : Type} : List (Lit × DataW H) → Nat
  | [] => 0
  | x :: r => uptoBulkEntry x + uptoBulkEntries r
def uptoBulkEntry {H : Type} : Lit × DataW H → Nat
  | (.string bytes, d) => bytes.length + uptoBulk d + 1
  | (_, d) => uptoBulk d + 1
 end
def uptoSmall : (H : Type) → List (DataW H) → Bool := fun _ ds => decide (uptoBulkAll ds ≤ 1048576)
def OpenSpec.upto (s : _root_.Go.ChangeSpec) : _root_.Go.OpenSpec := { _root_.Go.OpenSpec.ofChange s with cond := some uptoSmall }

/-- 'laws.FnExactFirstOfNumbers', WHERE WHAT IT READS IS OF BULK AT MOST 1048576: true; the input reads as it did. -/
def fnExactFirstOfNumbersUptoRow : OpenClaim := { program := "ythddlpghjkiioaa", sum := "e44c72bf0c75f42ed8fe26c10296e4795ce2710d9c25362d12181333204cc723", func := "loop.example/g01257/laws.FnExactFirstOfNumbers", spec := "fnExactFirstOfNumbers", unfollowed := true, recurses := true, apart := false, narrowed := true }
def FnExactFirstOfNumbersUptoSaid : Prop := fnExactFirstOfNumbersUptoRow.holds Try.pinned (OpenSpec.upto fnExactFirstOfNumbersSpec)

/-- 'laws.FnExactFewestColours', WHERE WHAT IT READS IS OF BULK AT MOST 1048576: true; the input reads as it did. -/
def fnExactFewestColoursUptoRow : OpenClaim := { program := "ythddlpghjkiioaa", sum := "e44c72bf0c75f42ed8fe26c10296e4795ce2710d9c25362d12181333204cc723", func := "loop.example/g01257/laws.FnExactFewestColours", spec := "fnExactFewestColours", unfollowed := true, recurses := true, apart := false, narrowed := true }
def FnExactFewestColoursUptoSaid : Prop := fnExactFewestColoursUptoRow.holds Try.pinned (OpenSpec.upto fnExactFewestColoursSpec)

/-- 'laws.FnExactFirstColouring', WHERE WHAT IT READS IS OF BULK AT MOST 1048576: true; the input reads as it did. -/
def fnExactFirstColouringUptoRow : OpenClaim := { program := "ythddlpghjkiioaa", sum := "e44c72bf0c75f42ed8fe26c10296e4795ce2710d9c25362d12181333204cc723", func := "loop.example/g01257/laws.FnExactFirstColouring", spec := "fnExactFirstColouring", unfollowed := true, recurses := true, apart := false, narrowed := true }
def FnExactFirstColouringUptoSaid : Prop := fnExactFirstColouringUptoRow.holds Try.pinned (OpenSpec.upto fnExactFirstColouringSpec)

/-- 'laws.FnExactCountColourings', WHERE WHAT IT READS IS OF BULK AT MOST 1048576: true; the input reads as it did. -/
def fnExactCountColouringsUptoRow : OpenClaim := { program := "ythddlpghjkiioaa", sum := "e44c72bf0c75f42ed8fe26c10296e4795ce2710d9c25362d12181333204cc723", func := "loop.example/g01257/laws.FnExactCountColourings", spec := "fnExactCountColourings", unfollowed := true, recurses := true, apart := false, narrowed := true }
def FnExactCountColouringsUptoSaid : Prop := fnExactCountColouringsUptoRow.holds Try.pinned (OpenSpec.upto fnExactCountColouringsSpec)

/-- 'laws.FnExactFewestGroups', WHERE WHAT IT READS IS OF BULK AT MOST 1048576: true; the input reads as it did. -/
def fnExactFewestGroupsUptoRow : OpenClaim := { program := "ythddlpghjkiioaa", sum := "e44c72bf0c75f42ed8fe26c10296e4795ce2710d9c25362d12181333204cc723", func := "loop.example/g01257/laws.FnExactFewestGroups", spec := "fnExactFewestGroups", unfollowed := true, recurses := true, apart := false, narrowed := true }
def FnExactFewestGroupsUptoSaid : Prop := fnExactFewestGroupsUptoRow.holds Try.pinned (OpenSpec.upto fnExactFewestGroupsSpec)

/-- 'laws.FnExactGroupsOfParty', WHERE WHAT IT READS IS OF BULK AT MOST 1048576: true; the input reads as it did. -/
def fnExactGroupsOfPartyUptoRow : OpenClaim := { program := "ythddlpghjkiioaa", sum := "e44c72bf0c75f42ed8fe26c10296e4795ce2710d9c25362d12181333204cc723", func := "loop.example/g01257/laws.FnExactGroupsOfParty", spec := "fnExactGroupsOfParty", unfollowed := true, recurses := true, apart := false, narrowed := true }
def FnExactGroupsOfPartyUptoSaid : Prop := fnExactGroupsOfPartyUptoRow.holds Try.pinned (OpenSpec.upto fnExactGroupsOfPartySpec)

/-- 'laws.FnExactFirstAvoiding', WHERE WHAT IT READS IS OF BULK AT MOST 1048576: true; the input reads as it did. -/
def fnExactFirstAvoidingUptoRow : OpenClaim := { program := "ythddlpghjkiioaa", sum := "e44c72bf0c75f42ed8fe26c10296e4795ce2710d9c25362d12181333204cc723", func := "loop.example/g01257/laws.FnExactFirstAvoiding", spec := "fnExactFirstAvoiding", unfollowed := true, recurses := true, apart := false, narrowed := true }
def FnExactFirstAvoidingUptoSaid : Prop := fnExactFirstAvoidingUptoRow.holds Try.pinned (OpenSpec.upto fnExactFirstAvoidingSpec)

/-- 'laws.FnExactCountAvoiding', WHERE WHAT IT READS IS OF BULK AT MOST 1048576: true; the input reads as it did. -/
def fnExactCountAvoidingUptoRow : OpenClaim := { program := "ythddlpghjkiioaa", sum := "e44c72bf0c75f42ed8fe26c10296e4795ce2710d9c25362d12181333204cc723", func := "loop.example/g01257/laws.FnExactCountAvoiding", spec := "fnExactCountAvoiding", unfollowed := true, recurses := true, apart := false, narrowed := true }
def FnExactCountAvoidingUptoSaid : Prop := fnExactCountAvoidingUptoRow.holds Try.pinned (OpenSpec.upto fnExactCountAvoidingSpec)

end Rows
end Go.Proofs.Ythddlpghjkiioaa
