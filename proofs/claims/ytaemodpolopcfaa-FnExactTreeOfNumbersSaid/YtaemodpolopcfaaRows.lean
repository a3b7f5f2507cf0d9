/-
  No cell of these rows narrows 'for every input' (looked for: loops, veiled, ifaces, maps, wideKeys, modest, calm, conditions, laid).
  DERIVED. THE GIVEN ROWS OF THIS SEAT. 10 by the template 'for every input the law returns true; each argument reads behind the call as it read before'; 0 by the template 'total and deterministic' (their statements: YtaemodpolopcfaaTotals.lean).
  GIVEN WITH THE SEED: the statements are not yours to turn. If you find one false, say at which input.
  Laid BY PROGRAM, IN A SANDBOX (cutbox-rows.mjs): the forced cells as the released guide's own fill.sh prints them over the translation 8a68980a7e898fbc… (all of the seat's roots in one cut). By AI agents, Wed Nov 11 2026. No macro, syntax, notation, axiom, sorry.
-/
import Derived.Test.YtaemodpolopcfaaChecked
import GoSem.Claim
import GoSem.ClaimJoined
import GoSem.ClaimMapViews
import Derived.JoinedTies
import Derived.KernelRfl
namespace Go.Proofs.Ytaemodpolopcfaa
/- THE CELL 'sum', in the pinned program and in every row, IS THE sha256 OF THE DUMP (.gsa) THAT YtaemodpolopcfaaProg.lean LOADS. Nothing in Lean hashes anything: it is a label: what it is worth is what the hold of that sum in a sandbox is worth. -/
noncomputable def Try.pinned : Pinned := { name := "ytaemodpolopcfaa", sum := "8a68980a7e898fbc9382b873faf0eb58619b36ce87d5935e3ded644b4d68a050", checked := Try.checked }
namespace Rows
def none {H : Type} : Left H := { results := [], args := [] }

/-- 'laws.FnExactRenameParty': WHATEVER THE INPUT: true; the input reads as it did. -/
def fnExactRenamePartySpec : ChangeSpec := { name := "fnExactRenameParty", fn := fun _ => fun
  | [d1, d2] => { results := [.lit (.bool true)], args := [d1, d2] }
  | _ => none }
def fnExactRenamePartyRow : OpenClaim := { program := "ytaemodpolopcfaa", sum := "8a68980a7e898fbc9382b873faf0eb58619b36ce87d5935e3ded644b4d68a050", func := "loop.example/g01257/laws.FnExactRenameParty", spec := "fnExactRenameParty", unfollowed := true, recurses := true, apart := false }
def FnExactRenamePartySaid : Prop := fnExactRenamePartyRow.holds Try.pinned (OpenSpec.ofChange fnExactRenamePartySpec)

/-- ITS FALSE NEIGHBOUR: 'it returns false'. Refute it at one input. -/
def fnExactRenamePartyWrong : ChangeSpec := { name := "fnExactRenameParty", fn := fun _ => fun
  | [d1, d2] => { results := [.lit (.bool false)], args := [d1, d2] }
  | _ => none }
def FnExactRenamePartyWrongFalsely : Prop := fnExactRenamePartyRow.holds Try.pinned (OpenSpec.ofChange fnExactRenamePartyWrong)

/-- 'laws.FnExactPartsOfParty': WHATEVER THE INPUT: true; the input reads as it did. -/
def fnExactPartsOfPartySpec : ChangeSpec := { name := "fnExactPartsOfParty", fn := fun _ => fun
  | [d] => { results := [.lit (.bool true)], args := [d] }
  | _ => none }
def fnExactPartsOfPartyRow : OpenClaim := { program := "ytaemodpolopcfaa", sum := "8a68980a7e898fbc9382b873faf0eb58619b36ce87d5935e3ded644b4d68a050", func := "loop.example/g01257/laws.FnExactPartsOfParty", spec := "fnExactPartsOfParty", apart := false }
def FnExactPartsOfPartySaid : Prop := fnExactPartsOfPartyRow.holds Try.pinned (OpenSpec.ofChange fnExactPartsOfPartySpec)

/-- ITS FALSE NEIGHBOUR: 'it returns false'. Refute it at one input. -/
def fnExactPartsOfPartyWrong : ChangeSpec := { name := "fnExactPartsOfParty", fn := fun _ => fun
  | [d] => { results := [.lit (.bool false)], args := [d] }
  | _ => none }
def FnExactPartsOfPartyWrongFalsely : Prop := fnExactPartsOfPartyRow.holds Try.pinned (OpenSpec.ofChange fnExactPartsOfPartyWrong)

/-- 'laws.FnExactExchangePairs': WHATEVER THE INPUT: true; the input reads as it did. -/
def fnExactExchangePairsSpec : ChangeSpec := { name := "fnExactExchangePairs", fn := fun _ => fun
  | [d1, d2, d3, d4, d5] => { results := [.lit (.bool true)], args := [d1, d2, d3, d4, d5] }
  | _ => none }
def fnExactExchangePairsRow : OpenClaim := { program := "ytaemodpolopcfaa", sum := "8a68980a7e898fbc9382b873faf0eb58619b36ce87d5935e3ded644b4d68a050", func := "loop.example/g01257/laws.FnExactExchangePairs", spec := "fnExactExchangePairs", unfollowed := true, recurses := true, apart := false }
def FnExactExchangePairsSaid : Prop := fnExactExchangePairsRow.holds Try.pinned (OpenSpec.ofChange fnExactExchangePairsSpec)

/-- ITS FALSE NEIGHBOUR: 'it returns false'. Refute it at one input. -/
def fnExactExchangePairsWrong : ChangeSpec := { name := "fnExactExchangePairs", fn := fun _ => fun
  | [d1, d2, d3, d4, d5] => { results := [.lit (.bool false)], args := [d1, d2, d3, d4, d5] }
  | _ => none }
def FnExactExchangePairsWrongFalsely : Prop := fnExactExchangePairsRow.holds Try.pinned (OpenSpec.ofChange fnExactExchangePairsWrong)

/-- 'laws.FnExactTreeOfNumbers': WHATEVER THE INPUT: true; the input reads as it did. -/
def fnExactTreeOfNumbersSpec : ChangeSpec := { name := "fnExactTreeOfNumbers", fn := fun _ => fun
  | [d] => { results := [.lit (.bool true)], args := [d] }
  | _ => none }
def fnExactTreeOfNumbersRow : OpenClaim := { program := "ytaemodpolopcfaa", sum := "8a68980a7e898fbc9382b873faf0eb58619b36ce87d5935e3ded644b4d68a050", func := "loop.example/g01257/laws.FnExactTreeOfNumbers", spec := "fnExactTreeOfNumbers", unfollowed := true, recurses := true, apart := false }
def FnExactTreeOfNumbersSaid : Prop := fnExactTreeOfNumbersRow.holds Try.pinned (OpenSpec.ofChange fnExactTreeOfNumbersSpec)

/-- ITS FALSE NEIGHBOUR: 'it returns false'. Refute it at one input. -/
def fnExactTreeOfNumbersWrong : ChangeSpec := { name := "fnExactTreeOfNumbers", fn := fun _ => fun
  | [d] => { results := [.lit (.bool false)], args := [d] }
  | _ => none }
def FnExactTreeOfNumbersWrongFalsely : Prop := fnExactTreeOfNumbersRow.holds Try.pinned (OpenSpec.ofChange fnExactTreeOfNumbersWrong)

/-- 'laws.FnExactCountByNumbers': WHATEVER THE INPUT: true; the input reads as it did. -/
def fnExactCountByNumbersSpec : ChangeSpec := { name := "fnExactCountByNumbers", fn := fun _ => fun
  | [d] => { results := [.lit (.bool true)], args := [d] }
  | _ => none }
def fnExactCountByNumbersRow : OpenClaim := { program := "ytaemodpolopcfaa", sum := "8a68980a7e898fbc9382b873faf0eb58619b36ce87d5935e3ded644b4d68a050", func := "loop.example/g01257/laws.FnExactCountByNumbers", spec := "fnExactCountByNumbers", apart := false }
def FnExactCountByNumbersSaid : Prop := fnExactCountByNumbersRow.holds Try.pinned (OpenSpec.ofChange fnExactCountByNumbersSpec)

/-- ITS FALSE NEIGHBOUR: 'it returns false'. Refute it at one input. -/
def fnExactCountByNumbersWrong : ChangeSpec := { name := "fnExactCountByNumbers", fn := fun _ => fun
  | [d] => { results := [.lit (.bool false)], args := [d] }
  | _ => none }
def FnExactCountByNumbersWrongFalsely : Prop := fnExactCountByNumbersRow.holds Try.pinned (OpenSpec.ofChange fnExactCountByNumbersWrong)

/-- 'laws.FnExactLeastOneKind': WHATEVER THE INPUT: true; the input reads as it did. -/
def fnExactLeastOneKindSpec : ChangeSpec := { name := "fnExactLeastOneKind", fn := fun _ => fun
  | [d] => { results := [.lit (.bool true)], args := [d] }
  | _ => none }
def fnExactLeastOneKindRow : OpenClaim := { program := "ytaemodpolopcfaa", sum := "8a68980a7e898fbc9382b873faf0eb58619b36ce87d5935e3ded644b4d68a050", func := "loop.example/g01257/laws.FnExactLeastOneKind", spec := "fnExactLeastOneKind", apart := false }
def FnExactLeastOneKindSaid : Prop := fnExactLeastOneKindRow.holds Try.pinned (OpenSpec.ofChange fnExactLeastOneKindSpec)

/-- ITS FALSE NEIGHBOUR: 'it returns false'. Refute it at one input. -/
def fnExactLeastOneKindWrong : ChangeSpec := { name := "fnExactLeastOneKind", fn := fun _ => fun
  | [d] => { results := [.lit (.bool false)], args := [d] }
  | _ => none }
def FnExactLeastOneKindWrongFalsely : Prop := fnExactLeastOneKindRow.holds Try.pinned (OpenSpec.ofChange fnExactLeastOneKindWrong)

/-- 'laws.FnExactCountForks': WHATEVER THE INPUT: true; the input reads as it did. -/
def fnExactCountForksSpec : ChangeSpec := { name := "fnExactCountForks", fn := fun _ => fun
  | [d] => { results := [.lit (.bool true)], args := [d] }
  | _ => none }
def fnExactCountForksRow : OpenClaim := { program := "ytaemodpolopcfaa", sum := "8a68980a7e898fbc9382b873faf0eb58619b36ce87d5935e3ded644b4d68a050", func := "loop.example/g01257/laws.FnExactCountForks", spec := "fnExactCountForks", apart := false }
def FnExactCountForksSaid : Prop := fnExactCountForksRow.holds Try.pinned (OpenSpec.ofChange fnExactCountForksSpec)

/-- ITS FALSE NEIGHBOUR: 'it returns false'. Refute it at one input. -/
def fnExactCountForksWrong : ChangeSpec := { name := "fnExactCountForks", fn := fun _ => fun
  | [d] => { results := [.lit (.bool false)], args := [d] }
  | _ => none }
def FnExactCountForksWrongFalsely : Prop := fnExactCountForksRow.holds Try.pinned (OpenSpec.ofChange fnExactCountForksWrong)

/-- 'laws.FnExactLeastMustHave': WHATEVER THE INPUT: true; the input reads as it did. -/
def fnExactLeastMustHaveSpec : ChangeSpec := { name := "fnExactLeastMustHave", fn := fun _ => fun
  | [d1, d2] => { results := [.lit (.bool true)], args := [d1, d2] }
  | _ => none }
def fnExactLeastMustHaveRow : OpenClaim := { program := "ytaemodpolopcfaa", sum := "8a68980a7e898fbc9382b873faf0eb58619b36ce87d5935e3ded644b4d68a050", func := "loop.example/g01257/laws.FnExactLeastMustHave", spec := "fnExactLeastMustHave", apart := false }
def FnExactLeastMustHaveSaid : Prop := fnExactLeastMustHaveRow.holds Try.pinned (OpenSpec.ofChange fnExactLeastMustHaveSpec)

/-- ITS FALSE NEIGHBOUR: 'it returns false'. Refute it at one input. -/
def fnExactLeastMustHaveWrong : ChangeSpec := { name := "fnExactLeastMustHave", fn := fun _ => fun
  | [d1, d2] => { results := [.lit (.bool false)], args := [d1, d2] }
  | _ => none }
def FnExactLeastMustHaveWrongFalsely : Prop := fnExactLeastMustHaveRow.holds Try.pinned (OpenSpec.ofChange fnExactLeastMustHaveWrong)

/-- 'laws.FnExactIsGroup': WHATEVER THE INPUT: true; the input reads as it did. -/
def fnExactIsGroupSpec : ChangeSpec := { name := "fnExactIsGroup", fn := fun _ => fun
  | [d1, d2] => { results := [.lit (.bool true)], args := [d1, d2] }
  | _ => none }
def fnExactIsGroupRow : OpenClaim := { program := "ytaemodpolopcfaa", sum := "8a68980a7e898fbc9382b873faf0eb58619b36ce87d5935e3ded644b4d68a050", func := "loop.example/g01257/laws.FnExactIsGroup", spec := "fnExactIsGroup", apart := false }
def FnExactIsGroupSaid : Prop := fnExactIsGroupRow.holds Try.pinned (OpenSpec.ofChange fnExactIsGroupSpec)

/-- ITS FALSE NEIGHBOUR: 'it returns false'. Refute it at one input. -/
def fnExactIsGroupWrong : ChangeSpec := { name := "fnExactIsGroup", fn := fun _ => fun
  | [d1, d2] => { results := [.lit (.bool false)], args := [d1, d2] }
  | _ => none }
def FnExactIsGroupWrongFalsely : Prop := fnExactIsGroupRow.holds Try.pinned (OpenSpec.ofChange fnExactIsGroupWrong)

/-- 'laws.FnExactGroupBound': WHATEVER THE INPUT: true; the input reads as it did. -/
def fnExactGroupBoundSpec : ChangeSpec := { name := "fnExactGroupBound", fn := fun _ => fun
  | [d1, d2] => { results := [.lit (.bool true)], args := [d1, d2] }
  | _ => none }
def fnExactGroupBoundRow : OpenClaim := { program := "ytaemodpolopcfaa", sum := "8a68980a7e898fbc9382b873faf0eb58619b36ce87d5935e3ded644b4d68a050", func := "loop.example/g01257/laws.FnExactGroupBound", spec := "fnExactGroupBound", apart := false }
def FnExactGroupBoundSaid : Prop := fnExactGroupBoundRow.holds Try.pinned (OpenSpec.ofChange fnExactGroupBoundSpec)

/-- ITS FALSE NEIGHBOUR: 'it returns false'. Refute it at one input. -/
def fnExactGroupBoundWrong : ChangeSpec := { name := "fnExactGroupBound", fn := fun _ => fun
  | [d1, d2] => { results := [.lit (.bool false)], args := [d1, d2] }
  | _ => none }
def FnExactGroupBoundWrongFalsely : Prop := fnExactGroupBoundRow.holds Try.pinned (OpenSpec.ofChange fnExactGroupBoundWrong)

/- THE SECOND FORM. 'bulk': how many values and letters a reading holds, each counted each time it is reached (what is shared counts as often as it is met; a slice's spare places count too). A statement '..UptoSaid' is the law's where the arguments, and the package variables that the reading takes, are together of bulk at most 1048576: NARROWER than '..Said'. Prove '..Said' where nothing that the law and all that it calls make is longer than what came in: it says more and counts as full. Else prove '..UptoSaid'. A law counts once. -/
mutual
def uptoBulk {H : Type} : DataW H → Nat
  | .lit (.string bytes) => bytes.length + 1
  | .lit _ => 1
  | .nil => 1
  | .ptr d => uptoBulk d + 1
  | .slice elems spare => uptoBulkAll elems + uptoBulkAll spare + 1
  | .agg parts => uptoBulkAll parts + 1
  | .iface _ d => uptoBulk d + 1
  | .map entries => uptoBulkEntries entries + 1
  | .held _ => 1
def uptoBulkAll {H : Type} : List (DataW H) → Nat
  | [] => 0
  | d :: r => uptoBulk d + uptoBulkAll r
def uptoBulkEntries {H : Type} : List (Lit × DataW H) → Nat
  | [] => 0
  | x :: r => uptoBulkEntry x + uptoBulkEntries r
def uptoBulkEntry {H : Type} : Lit × DataW H → Nat
  | (.string bytes, d) => bytes.length + uptoBulk d + 1
  | (_, d) => uptoBulk d + 1
 end
def uptoSmall : (H : Type) → List (DataW H) → Bool := fun _ ds => decide (uptoBulkAll ds ≤ 1048576)
def OpenSpec.upto (s : _root_.Go.ChangeSpec) : _root_.Go.OpenSpec := { _root_.Go.OpenSpec.ofChange s with cond := some uptoSmall }

/-- 'laws.FnExactRenameParty', WHERE WHAT IT READS IS OF BULK AT MOST 1048576: true; the input reads as it did. -/
def fnExactRenamePartyUptoRow : OpenClaim := { program := "ytaemodpolopcfaa", sum := "8a68980a7e898fbc9382b873faf0eb58619b36ce87d5935e3ded644b4d68a050", func := "loop.example/g01257/laws.FnExactRenameParty", spec := "fnExactRenameParty", unfollowed := true, recurses := true, apart := false, narrowed := true }
def FnExactRenamePartyUptoSaid : Prop := fnExactRenamePartyUptoRow.holds Try.pinned (OpenSpec.upto fnExactRenamePartySpec)

/-- 'laws.FnExactPartsOfParty', WHERE WHAT IT READS IS OF BULK AT MOST 1048576: true; the input reads as it did. -/
def fnExactPartsOfPartyUptoRow : OpenClaim := { program := "ytaemodpolopcfaa", sum := "8a68980a7e898fbc9382b873faf0eb58619b36ce87d5935e3ded644b4d68a050", func := "loop.example/g01257/laws.FnExactPartsOfParty", spec := "fnExactPartsOfParty", apart := false, narrowed := true }
def FnExactPartsOfPartyUptoSaid : Prop := fnExactPartsOfPartyUptoRow.holds Try.pinned (OpenSpec.upto fnExactPartsOfPartySpec)

/-- 'laws.FnExactExchangePairs', WHERE WHAT IT READS IS OF BULK AT MOST 1048576: true; the input reads as it did. -/
def fnExactExchangePairsUptoRow : OpenClaim := { program := "ytaemodpolopcfaa", sum := "8a68980a7e898fbc9382b873faf0eb58619b36ce87d5935e3ded644b4d68a050", func := "loop.example/g01257/laws.FnExactExchangePairs", spec := "fnExactExchangePairs", unfollowed := true, recurses := true, apart := false, narrowed := true }
def FnExactExchangePairsUptoSaid : Prop := fnExactExchangePairsUptoRow.holds Try.pinned (OpenSpec.upto fnExactExchangePairsSpec)

/-- 'laws.FnExactTreeOfNumbers', WHERE WHAT IT READS IS OF BULK AT MOST 1048576: true; the input reads as it did. -/
def fnExactTreeOfNumbersUptoRow : OpenClaim := { program := "ytaemodpolopcfaa", sum := "8a68980a7e898fbc9382b873faf0eb58619b36ce87d5935e3ded644b4d68a050", func := "loop.example/g01257/laws.FnExactTreeOfNumbers", spec := "fnExactTreeOfNumbers", unfollowed := true, recurses := true, apart := false, narrowed := true }
def FnExactTreeOfNumbersUptoSaid : Prop := fnExactTreeOfNumbersUptoRow.holds Try.pinned (OpenSpec.upto fnExactTreeOfNumbersSpec)

/-- 'laws.FnExactCountByNumbers', WHERE WHAT IT READS IS OF BULK AT MOST 1048576: true; the input reads as it did. -/
def fnExactCountByNumbersUptoRow : OpenClaim := { program := "ytaemodpolopcfaa", sum := "8a68980a7e898fbc9382b873faf0eb58619b36ce87d5935e3ded644b4d68a050", func := "loop.example/g01257/laws.FnExactCountByNumbers", spec := "fnExactCountByNumbers", apart := false, narrowed := true }
def FnExactCountByNumbersUptoSaid : Prop := fnExactCountByNumbersUptoRow.holds Try.pinned (OpenSpec.upto fnExactCountByNumbersSpec)

/-- 'laws.FnExactLeastOneKind', WHERE WHAT IT READS IS OF BULK AT MOST 1048576: true; the input reads as it did. -/
def fnExactLeastOneKindUptoRow : OpenClaim := { program := "ytaemodpolopcfaa", sum := "8a68980a7e898fbc9382b873faf0eb58619b36ce87d5935e3ded644b4d68a050", func := "loop.example/g01257/laws.FnExactLeastOneKind", spec := "fnExactLeastOneKind", apart := false, narrowed := true }
def FnExactLeastOneKindUptoSaid : Prop := fnExactLeastOneKindUptoRow.holds Try.pinned (OpenSpec.upto fnExactLeastOneKindSpec)

/-- 'laws.FnExactCountForks', WHERE WHAT IT READS IS OF BULK AT MOST 1048576: true; the input reads as it did. -/
def fnExactCountForksUptoRow : OpenClaim := { program := "ytaemodpolopcfaa", sum := "8a68980a7e898fbc9382b873faf0eb58619b36ce87d5935e3ded644b4d68a050", func := "loop.example/g01257/laws.FnExactCountForks", spec := "fnExactCountForks", apart := false, narrowed := true }
def FnExactCountForksUptoSaid : Prop := fnExactCountForksUptoRow.holds Try.pinned (OpenSpec.upto fnExactCountForksSpec)

/-- 'laws.FnExactLeastMustHave', WHERE WHAT IT READS IS OF BULK AT MOST 1048576: true; the input reads as it did. -/
def fnExactLeastMustHaveUptoRow : OpenClaim := { program := "ytaemodpolopcfaa", sum := "8a68980a7e898fbc9382b873faf0eb58619b36ce87d5935e3ded644b4d68a050", func := "loop.example/g01257/laws.FnExactLeastMustHave", spec := "fnExactLeastMustHave", apart := false, narrowed := true }
def FnExactLeastMustHaveUptoSaid : Prop := fnExactLeastMustHaveUptoRow.holds Try.pinned (OpenSpec.upto fnExactLeastMustHaveSpec)

/-- 'laws.FnExactIsGroup', WHERE WHAT IT READS IS OF BULK AT MOST 1048576: true; the input reads as it did. -/
def fnExactIsGroupUptoRow : OpenClaim := { program := "ytaemodpolopcfaa", sum := "8a68980a7e898fbc9382b873faf0eb58619b36ce87d5935e3ded644b4d68a050", func := "loop.example/g01257/laws.FnExactIsGroup", spec := "fnExactIsGroup", apart := false, narrowed := true }
def FnExactIsGroupUptoSaid : Prop := fnExactIsGroupUptoRow.holds Try.pinned (OpenSpec.upto fnExactIsGroupSpec)

/-- 'laws.FnExactGroupBound', WHERE WHAT IT READS IS OF BULK AT MOST 1048576: true; the input reads as it did. -/
def fnExactGroupBoundUptoRow : OpenClaim := { program := "ytaemodpolopcfaa", sum := "8a68980a7e898fbc9382b873faf0eb58619b36ce87d5935e3ded644b4d68a050", func := "loop.example/g01257/laws.FnExactGroupBound", spec := "fnExactGroupBound", apart := false, narrowed := true }
def FnExactGroupBoundUptoSaid : Prop := fnExactGroupBoundUptoRow.holds Try.pinned (OpenSpec.upto fnExactGroupBoundSpec)

end Rows
end Go.Proofs.Ytaemodpolopcfaa
