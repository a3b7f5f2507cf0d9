/-
  No cell of these rows narrows 'for every input' (looked for: loops, veiled, ifaces, maps, wideKeys, modest, calm, conditions, laid).
  DERIVED. THE GIVEN ROWS OF THIS SEAT. 11 by the template 'for every input the law returns true; each argument reads behind the call as it read before'; 0 by the template 'total and deterministic' (their statements: YthpapkfpcijpoaaTotals.lean).
  GIVEN WITH THE SEED: the statements are not yours to turn. If you find one false, say at which input.
  Laid BY PROGRAM, IN A SANDBOX (cutbox-rows.mjs): the forced cells as the released guide's own fill.sh prints them over the translation 73c556b652455e9e… (all of the seat's roots in one cut). By AI agents, Wed Nov 11 2026. No macro, syntax, notation, axiom, sorry.
-/
import Derived.Test.YthpapkfpcijpoaaChecked
import GoSem.Claim
import GoSem.ClaimJoined
import GoSem.ClaimMapViews
import Derived.JoinedTies
import Derived.KernelRfl
namespace Go.Proofs.Ythpapkfpcijpoaa
/- THE CELL 'sum', in the pinned program and in every row, IS THE sha256 OF THE DUMP (.gsa) THAT YthpapkfpcijpoaaProg.lean LOADS. Nothing in Lean hashes anything: it is a label: what it is worth is what the hold of that sum in a sandbox is worth. -/
noncomputable def Try.pinned : Pinned := { name := "ythpapkfpcijpoaa", sum := "73c556b652455e9ee18c400e6fd91619dbeae28f156d13dbd1511476e56a7777", checked := Try.checked }
namespace Rows
def none {H : Type} : Left H := { results := [], args := [] }

/-- 'laws.FnExactCommonTable': WHATEVER THE INPUT: true; the input reads as it did. -/
def fnExactCommonTableSpec : ChangeSpec := { name := "fnExactCommonTable", fn := fun _ => fun
  | [d] => { results := [.lit (.bool true)], args := [d] }
  | _ => none }
def fnExactCommonTableRow : OpenClaim := { program := "ythpapkfpcijpoaa", sum := "73c556b652455e9ee18c400e6fd91619dbeae28f156d13dbd1511476e56a7777", func := "loop.example/g01257/laws.FnExactCommonTable", spec := "fnExactCommonTable", apart := false }
def FnExactCommonTableSaid : Prop := fnExactCommonTableRow.holds Try.pinned (OpenSpec.ofChange fnExactCommonTableSpec)

/-- ITS FALSE NEIGHBOUR: 'it returns false'. Refute it at one input. -/
def fnExactCommonTableWrong : ChangeSpec := { name := "fnExactCommonTable", fn := fun _ => fun
  | [d] => { results := [.lit (.bool false)], args := [d] }
  | _ => none }
def FnExactCommonTableWrongFalsely : Prop := fnExactCommonTableRow.holds Try.pinned (OpenSpec.ofChange fnExactCommonTableWrong)

/-- 'laws.FnExactIsFriendly': WHATEVER THE INPUT: true; the input reads as it did. -/
def fnExactIsFriendlySpec : ChangeSpec := { name := "fnExactIsFriendly", fn := fun _ => fun
  | [d] => { results := [.lit (.bool true)], args := [d] }
  | _ => none }
def fnExactIsFriendlyRow : OpenClaim := { program := "ythpapkfpcijpoaa", sum := "73c556b652455e9ee18c400e6fd91619dbeae28f156d13dbd1511476e56a7777", func := "loop.example/g01257/laws.FnExactIsFriendly", spec := "fnExactIsFriendly", unfollowed := true, recurses := true, apart := false }
def FnExactIsFriendlySaid : Prop := fnExactIsFriendlyRow.holds Try.pinned (OpenSpec.ofChange fnExactIsFriendlySpec)

/-- ITS FALSE NEIGHBOUR: 'it returns false'. Refute it at one input. -/
def fnExactIsFriendlyWrong : ChangeSpec := { name := "fnExactIsFriendly", fn := fun _ => fun
  | [d] => { results := [.lit (.bool false)], args := [d] }
  | _ => none }
def FnExactIsFriendlyWrongFalsely : Prop := fnExactIsFriendlyRow.holds Try.pinned (OpenSpec.ofChange fnExactIsFriendlyWrong)

/-- 'laws.FnExactWindmillParty': WHATEVER THE INPUT: true; the input reads as it did. -/
def fnExactWindmillPartySpec : ChangeSpec := { name := "fnExactWindmillParty", fn := fun _ => fun
  | [d] => { results := [.lit (.bool true)], args := [d] }
  | _ => none }
def fnExactWindmillPartyRow : OpenClaim := { program := "ythpapkfpcijpoaa", sum := "73c556b652455e9ee18c400e6fd91619dbeae28f156d13dbd1511476e56a7777", func := "loop.example/g01257/laws.FnExactWindmillParty", spec := "fnExactWindmillParty", unfollowed := true, recurses := true, apart := false }
def FnExactWindmillPartySaid : Prop := fnExactWindmillPartyRow.holds Try.pinned (OpenSpec.ofChange fnExactWindmillPartySpec)

/-- ITS FALSE NEIGHBOUR: 'it returns false'. Refute it at one input. -/
def fnExactWindmillPartyWrong : ChangeSpec := { name := "fnExactWindmillParty", fn := fun _ => fun
  | [d] => { results := [.lit (.bool false)], args := [d] }
  | _ => none }
def FnExactWindmillPartyWrongFalsely : Prop := fnExactWindmillPartyRow.holds Try.pinned (OpenSpec.ofChange fnExactWindmillPartyWrong)

/-- 'laws.FnExactIsWindmill': WHATEVER THE INPUT: true; the input reads as it did. -/
def fnExactIsWindmillSpec : ChangeSpec := { name := "fnExactIsWindmill", fn := fun _ => fun
  | [d] => { results := [.lit (.bool true)], args := [d] }
  | _ => none }
def fnExactIsWindmillRow : OpenClaim := { program := "ythpapkfpcijpoaa", sum := "73c556b652455e9ee18c400e6fd91619dbeae28f156d13dbd1511476e56a7777", func := "loop.example/g01257/laws.FnExactIsWindmill", spec := "fnExactIsWindmill", unfollowed := true, recurses := true, apart := false }
def FnExactIsWindmillSaid : Prop := fnExactIsWindmillRow.holds Try.pinned (OpenSpec.ofChange fnExactIsWindmillSpec)

/-- ITS FALSE NEIGHBOUR: 'it returns false'. Refute it at one input. -/
def fnExactIsWindmillWrong : ChangeSpec := { name := "fnExactIsWindmill", fn := fun _ => fun
  | [d] => { results := [.lit (.bool false)], args := [d] }
  | _ => none }
def FnExactIsWindmillWrongFalsely : Prop := fnExactIsWindmillRow.holds Try.pinned (OpenSpec.ofChange fnExactIsWindmillWrong)

/-- 'laws.FnExactPoliticianOf': WHATEVER THE INPUT: true; the input reads as it did. -/
def fnExactPoliticianOfSpec : ChangeSpec := { name := "fnExactPoliticianOf", fn := fun _ => fun
  | [d] => { results := [.lit (.bool true)], args := [d] }
  | _ => none }
def fnExactPoliticianOfRow : OpenClaim := { program := "ythpapkfpcijpoaa", sum := "73c556b652455e9ee18c400e6fd91619dbeae28f156d13dbd1511476e56a7777", func := "loop.example/g01257/laws.FnExactPoliticianOf", spec := "fnExactPoliticianOf", apart := false }
def FnExactPoliticianOfSaid : Prop := fnExactPoliticianOfRow.holds Try.pinned (OpenSpec.ofChange fnExactPoliticianOfSpec)

/-- ITS FALSE NEIGHBOUR: 'it returns false'. Refute it at one input. -/
def fnExactPoliticianOfWrong : ChangeSpec := { name := "fnExactPoliticianOf", fn := fun _ => fun
  | [d] => { results := [.lit (.bool false)], args := [d] }
  | _ => none }
def FnExactPoliticianOfWrongFalsely : Prop := fnExactPoliticianOfRow.holds Try.pinned (OpenSpec.ofChange fnExactPoliticianOfWrong)

/-- 'laws.FnExactEqualNumber': WHATEVER THE INPUT: true; the input reads as it did. -/
def fnExactEqualNumberSpec : ChangeSpec := { name := "fnExactEqualNumber", fn := fun _ => fun
  | [d] => { results := [.lit (.bool true)], args := [d] }
  | _ => none }
def fnExactEqualNumberRow : OpenClaim := { program := "ythpapkfpcijpoaa", sum := "73c556b652455e9ee18c400e6fd91619dbeae28f156d13dbd1511476e56a7777", func := "loop.example/g01257/laws.FnExactEqualNumber", spec := "fnExactEqualNumber", apart := false }
def FnExactEqualNumberSaid : Prop := fnExactEqualNumberRow.holds Try.pinned (OpenSpec.ofChange fnExactEqualNumberSpec)

/-- ITS FALSE NEIGHBOUR: 'it returns false'. Refute it at one input. -/
def fnExactEqualNumberWrong : ChangeSpec := { name := "fnExactEqualNumber", fn := fun _ => fun
  | [d] => { results := [.lit (.bool false)], args := [d] }
  | _ => none }
def FnExactEqualNumberWrongFalsely : Prop := fnExactEqualNumberRow.holds Try.pinned (OpenSpec.ofChange fnExactEqualNumberWrong)

/-- 'laws.FnExactStrongNumbers': WHATEVER THE INPUT: true; the input reads as it did. -/
def fnExactStrongNumbersSpec : ChangeSpec := { name := "fnExactStrongNumbers", fn := fun _ => fun
  | [d] => { results := [.lit (.bool true)], args := [d] }
  | _ => none }
def fnExactStrongNumbersRow : OpenClaim := { program := "ythpapkfpcijpoaa", sum := "73c556b652455e9ee18c400e6fd91619dbeae28f156d13dbd1511476e56a7777", func := "loop.example/g01257/laws.FnExactStrongNumbers", spec := "fnExactStrongNumbers", unfollowed := true, recurses := true, apart := false }
def FnExactStrongNumbersSaid : Prop := fnExactStrongNumbersRow.holds Try.pinned (OpenSpec.ofChange fnExactStrongNumbersSpec)

/-- ITS FALSE NEIGHBOUR: 'it returns false'. Refute it at one input. -/
def fnExactStrongNumbersWrong : ChangeSpec := { name := "fnExactStrongNumbers", fn := fun _ => fun
  | [d] => { results := [.lit (.bool false)], args := [d] }
  | _ => none }
def FnExactStrongNumbersWrongFalsely : Prop := fnExactStrongNumbersRow.holds Try.pinned (OpenSpec.ofChange fnExactStrongNumbersWrong)

/-- 'laws.FnExactCircleParty': WHATEVER THE INPUT: true; the input reads as it did. -/
def fnExactCirclePartySpec : ChangeSpec := { name := "fnExactCircleParty", fn := fun _ => fun
  | [d1, d2] => { results := [.lit (.bool true)], args := [d1, d2] }
  | _ => none }
def fnExactCirclePartyRow : OpenClaim := { program := "ythpapkfpcijpoaa", sum := "73c556b652455e9ee18c400e6fd91619dbeae28f156d13dbd1511476e56a7777", func := "loop.example/g01257/laws.FnExactCircleParty", spec := "fnExactCircleParty", unfollowed := true, recurses := true, apart := false }
def FnExactCirclePartySaid : Prop := fnExactCirclePartyRow.holds Try.pinned (OpenSpec.ofChange fnExactCirclePartySpec)

/-- ITS FALSE NEIGHBOUR: 'it returns false'. Refute it at one input. -/
def fnExactCirclePartyWrong : ChangeSpec := { name := "fnExactCircleParty", fn := fun _ => fun
  | [d1, d2] => { results := [.lit (.bool false)], args := [d1, d2] }
  | _ => none }
def FnExactCirclePartyWrongFalsely : Prop := fnExactCirclePartyRow.holds Try.pinned (OpenSpec.ofChange fnExactCirclePartyWrong)

/-- 'laws.FnExactPairParty': WHATEVER THE INPUT: true; the input reads as it did. -/
def fnExactPairPartySpec : ChangeSpec := { name := "fnExactPairParty", fn := fun _ => fun
  | [d] => { results := [.lit (.bool true)], args := [d] }
  | _ => none }
def fnExactPairPartyRow : OpenClaim := { program := "ythpapkfpcijpoaa", sum := "73c556b652455e9ee18c400e6fd91619dbeae28f156d13dbd1511476e56a7777", func := "loop.example/g01257/laws.FnExactPairParty", spec := "fnExactPairParty", unfollowed := true, recurses := true, apart := false }
def FnExactPairPartySaid : Prop := fnExactPairPartyRow.holds Try.pinned (OpenSpec.ofChange fnExactPairPartySpec)

/-- ITS FALSE NEIGHBOUR: 'it returns false'. Refute it at one input. -/
def fnExactPairPartyWrong : ChangeSpec := { name := "fnExactPairParty", fn := fun _ => fun
  | [d] => { results := [.lit (.bool false)], args := [d] }
  | _ => none }
def FnExactPairPartyWrongFalsely : Prop := fnExactPairPartyRow.holds Try.pinned (OpenSpec.ofChange fnExactPairPartyWrong)

/-- 'laws.FnExactLinesOf': WHATEVER THE INPUT: true; the input reads as it did. -/
def fnExactLinesOfSpec : ChangeSpec := { name := "fnExactLinesOf", fn := fun _ => fun
  | [d] => { results := [.lit (.bool true)], args := [d] }
  | _ => none }
def fnExactLinesOfRow : OpenClaim := { program := "ythpapkfpcijpoaa", sum := "73c556b652455e9ee18c400e6fd91619dbeae28f156d13dbd1511476e56a7777", func := "loop.example/g01257/laws.FnExactLinesOf", spec := "fnExactLinesOf", unfollowed := true, recurses := true, apart := false }
def FnExactLinesOfSaid : Prop := fnExactLinesOfRow.holds Try.pinned (OpenSpec.ofChange fnExactLinesOfSpec)

/-- ITS FALSE NEIGHBOUR: 'it returns false'. Refute it at one input. -/
def fnExactLinesOfWrong : ChangeSpec := { name := "fnExactLinesOf", fn := fun _ => fun
  | [d] => { results := [.lit (.bool false)], args := [d] }
  | _ => none }
def FnExactLinesOfWrongFalsely : Prop := fnExactLinesOfRow.holds Try.pinned (OpenSpec.ofChange fnExactLinesOfWrong)

/-- 'laws.FnExactMostPeople': WHATEVER THE INPUT: true; the input reads as it did. -/
def fnExactMostPeopleSpec : ChangeSpec := { name := "fnExactMostPeople", fn := fun _ => fun
  | [d1, d2] => { results := [.lit (.bool true)], args := [d1, d2] }
  | _ => none }
def fnExactMostPeopleRow : OpenClaim := { program := "ythpapkfpcijpoaa", sum := "73c556b652455e9ee18c400e6fd91619dbeae28f156d13dbd1511476e56a7777", func := "loop.example/g01257/laws.FnExactMostPeople", spec := "fnExactMostPeople", apart := false }
def FnExactMostPeopleSaid : Prop := fnExactMostPeopleRow.holds Try.pinned (OpenSpec.ofChange fnExactMostPeopleSpec)

/-- ITS FALSE NEIGHBOUR: 'it returns false'. Refute it at one input. -/
def fnExactMostPeopleWrong : ChangeSpec := { name := "fnExactMostPeople", fn := fun _ => fun
  | [d1, d2] => { results := [.lit (.bool false)], args := [d1, d2] }
  | _ => none }
def FnExactMostPeopleWrongFalsely : Prop := fnExactMostPeopleRow.holds Try.pinned (OpenSpec.ofChange fnExactMostPeopleWrong)

/- THE SECOND FORM. 'bulk': how many values and letters a reading holds, each counted each time it is reached (what is shared counts as often as it is met; a slice's spare places count too). A statement '..UptoSaid' is the law's where the arguments, and the package variables that the reading takes, are together of bulk at most 1048576: NARROWER than '..Said'. Prove '..Said' where nothing that the law and all that it calls make is longer than what came in: it says more and counts as full. Else prove '..UptoSaid'. A law counts once. -/
mutual
def uptoBulk {H : Type} : DataW H → Nat
  | .lit (.string bytes) => bytes.length + 1
  | .lit _ => 1
  | .nil => 1
  | .ptr d => uptoBulk d + 1
  | .slice elems spare => uptoBulkAll elems + uptoBulkAll spare + 1
  | .agg parts => uptoBulkAll parts + 1
  | .iface _ d => uptoBulk d + 1
  | .map entries => uptoBulkEntries entries + 1
  | .held _ => 1
def uptoBulkAll {H : Type} : List (DataW H) → Nat
  | [] => 0
  | d :: r => uptoBulk d + uptoBulkAll r
def uptoBulkEntries {H : Type} : List (Lit × DataW H) → Nat
  | [] => 0
  | x :: r => uptoBulkEntry x + uptoBulkEntries r
def uptoBulkEntry {H : Type} : Lit × DataW H → Nat
  | (.string bytes, d) => bytes.length + uptoBulk d + 1
  | (_, d) => uptoBulk d + 1
 end
def uptoSmall : (H : Type) → List (DataW H) → Bool := fun _ ds => decide (uptoBulkAll ds ≤ 1048576)
def OpenSpec.upto (s : _root_.Go.ChangeSpec) : _root_.Go.OpenSpec := { _root_.Go.OpenSpec.ofChange s with cond := some uptoSmall }

/-- 'laws.FnExactCommonTable', WHERE WHAT IT READS IS OF BULK AT MOST 1048576: true; the input reads as it did. -/
def fnExactCommonTableUptoRow : OpenClaim := { program := "ythpapkfpcijpoaa", sum := "73c556b652455e9ee18c400e6fd91619dbeae28f156d13dbd1511476e56a7777", func := "loop.example/g01257/laws.FnExactCommonTable", spec := "fnExactCommonTable", apart := false, narrowed := true }
def FnExactCommonTableUptoSaid : Prop := fnExactCommonTableUptoRow.holds Try.pinned (OpenSpec.upto fnExactCommonTableSpec)

/-- 'laws.FnExactIsFriendly', WHERE WHAT IT READS IS OF BULK AT MOST 1048576: true; the input reads as it did. -/
def fnExactIsFriendlyUptoRow : OpenClaim := { program := "ythpapkfpcijpoaa", sum := "73c556b652455e9ee18c400e6fd91619dbeae28f156d13dbd1511476e56a7777", func := "loop.example/g01257/laws.FnExactIsFriendly", spec := "fnExactIsFriendly", unfollowed := true, recurses := true, apart := false, narrowed := true }
def FnExactIsFriendlyUptoSaid : Prop := fnExactIsFriendlyUptoRow.holds Try.pinned (OpenSpec.upto fnExactIsFriendlySpec)

/-- 'laws.FnExactWindmillParty', WHERE WHAT IT READS IS OF BULK AT MOST 1048576: true; the input reads as it did. -/
def fnExactWindmillPartyUptoRow : OpenClaim := { program := "ythpapkfpcijpoaa", sum := "73c556b652455e9ee18c400e6fd91619dbeae28f156d13dbd1511476e56a7777", func := "loop.example/g01257/laws.FnExactWindmillParty", spec := "fnExactWindmillParty", unfollowed := true, recurses := true, apart := false, narrowed := true }
def FnExactWindmillPartyUptoSaid : Prop := fnExactWindmillPartyUptoRow.holds Try.pinned (OpenSpec.upto fnExactWindmillPartySpec)

/-- 'laws.FnExactIsWindmill', WHERE WHAT IT READS IS OF BULK AT MOST 1048576: true; the input reads as it did. -/
def fnExactIsWindmillUptoRow : OpenClaim := { program := "ythpapkfpcijpoaa", sum := "73c556b652455e9ee18c400e6fd91619dbeae28f156d13dbd1511476e56a7777", func := "loop.example/g01257/laws.FnExactIsWindmill", spec := "fnExactIsWindmill", unfollowed := true, recurses := true, apart := false, narrowed := true }
def FnExactIsWindmillUptoSaid : Prop := fnExactIsWindmillUptoRow.holds Try.pinned (OpenSpec.upto fnExactIsWindmillSpec)

/-- 'laws.FnExactPoliticianOf', WHERE WHAT IT READS IS OF BULK AT MOST 1048576: true; the input reads as it did. -/
def fnExactPoliticianOfUptoRow : OpenClaim := { program := "ythpapkfpcijpoaa", sum := "73c556b652455e9ee18c400e6fd91619dbeae28f156d13dbd1511476e56a7777", func := "loop.example/g01257/laws.FnExactPoliticianOf", spec := "fnExactPoliticianOf", apart := false, narrowed := true }
def FnExactPoliticianOfUptoSaid : Prop := fnExactPoliticianOfUptoRow.holds Try.pinned (OpenSpec.upto fnExactPoliticianOfSpec)

/-- 'laws.FnExactEqualNumber', WHERE WHAT IT READS IS OF BULK AT MOST 1048576: true; the input reads as it did. -/
def fnExactEqualNumberUptoRow : OpenClaim := { program := "ythpapkfpcijpoaa", sum := "73c556b652455e9ee18c400e6fd91619dbeae28f156d13dbd1511476e56a7777", func := "loop.example/g01257/laws.FnExactEqualNumber", spec := "fnExactEqualNumber", apart := false, narrowed := true }
def FnExactEqualNumberUptoSaid : Prop := fnExactEqualNumberUptoRow.holds Try.pinned (OpenSpec.upto fnExactEqualNumberSpec)

/-- 'laws.FnExactStrongNumbers', WHERE WHAT IT READS IS OF BULK AT MOST 1048576: true; the input reads as it did. -/
def fnExactStrongNumbersUptoRow : OpenClaim := { program := "ythpapkfpcijpoaa", sum := "73c556b652455e9ee18c400e6fd91619dbeae28f156d13dbd1511476e56a7777", func := "loop.example/g01257/laws.FnExactStrongNumbers", spec := "fnExactStrongNumbers", unfollowed := true, recurses := true, apart := false, narrowed := true }
def FnExactStrongNumbersUptoSaid : Prop := fnExactStrongNumbersUptoRow.holds Try.pinned (OpenSpec.upto fnExactStrongNumbersSpec)

/-- 'laws.FnExactCircleParty', WHERE WHAT IT READS IS OF BULK AT MOST 1048576: true; the input reads as it did. -/
def fnExactCirclePartyUptoRow : OpenClaim := { program := "ythpapkfpcijpoaa", sum := "73c556b652455e9ee18c400e6fd91619dbeae28f156d13dbd1511476e56a7777", func := "loop.example/g01257/laws.FnExactCircleParty", spec := "fnExactCircleParty", unfollowed := true, recurses := true, apart := false, narrowed := true }
def FnExactCirclePartyUptoSaid : Prop := fnExactCirclePartyUptoRow.holds Try.pinned (OpenSpec.upto fnExactCirclePartySpec)

/-- 'laws.FnExactPairParty', WHERE WHAT IT READS IS OF BULK AT MOST 1048576: true; the input reads as it did. -/
def fnExactPairPartyUptoRow : OpenClaim := { program := "ythpapkfpcijpoaa", sum := "73c556b652455e9ee18c400e6fd91619dbeae28f156d13dbd1511476e56a7777", func := "loop.example/g01257/laws.FnExactPairParty", spec := "fnExactPairParty", unfollowed := true, recurses := true, apart := false, narrowed := true }
def FnExactPairPartyUptoSaid : Prop := fnExactPairPartyUptoRow.holds Try.pinned (OpenSpec.upto fnExactPairPartySpec)

/-- 'laws.FnExactLinesOf', WHERE WHAT IT READS IS OF BULK AT MOST 1048576: true; the input reads as it did. -/
def fnExactLinesOfUptoRow : OpenClaim := { program := "ythpapkfpcijpoaa", sum := "73c556b652455e9ee18c400e6fd91619dbeae28f156d13dbd1511476e56a7777", func := "loop.example/g01257/laws.FnExactLinesOf", spec := "fnExactLinesOf", unfollowed := true, recurses := true, apart := false, narrowed := true }
def FnExactLinesOfUptoSaid : Prop := fnExactLinesOfUptoRow.holds Try.pinned (OpenSpec.upto fnExactLinesOfSpec)

/-- 'laws.FnExactMostPeople', WHERE WHAT IT READS IS OF BULK AT MOST 1048576: true; the input reads as it did. -/
def fnExactMostPeopleUptoRow : OpenClaim := { program := "ythpapkfpcijpoaa", sum := "73c556b652455e9ee18c400e6fd91619dbeae28f156d13dbd1511476e56a7777", func := "loop.example/g01257/laws.FnExactMostPeople", spec := "fnExactMostPeople", apart := false, narrowed := true }
def FnExactMostPeopleUptoSaid : Prop := fnExactMostPeopleUptoRow.holds Try.pinned (OpenSpec.upto fnExactMostPeopleSpec)

end Rows
end Go.Proofs.Ythpapkfpcijpoaa
