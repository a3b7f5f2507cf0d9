/-
  No cell of these rows narrows 'for every input' (looked for: loops, veiled, ifaces, maps, wideKeys, modest, calm, conditions, laid).
  DERIVED. THE GIVEN ROWS OF THIS SEAT. 7 by the template 'for every input the law returns true; each argument reads behind the call as it read before'; 0 by the template 'total and deterministic' (their statements: YtgccapdjhnejcaaTotals.lean).
  GIVEN WITH THE SEED: the statements are not yours to turn. If you find one false, say at which input.
  Laid BY PROGRAM, IN A SANDBOX (cutbox-rows.mjs): the forced cells as the released guide's own fill.sh prints them over the translation 5914c84d4f200ba3… (all of the seat's roots in one cut). By AI agents, Wed Nov 11 2026. No macro, syntax, notation, axiom, sorry.
-/
import Derived.Test.YtgccapdjhnejcaaChecked
import GoSem.Claim
import GoSem.ClaimJoined
import GoSem.ClaimMapViews
import Derived.JoinedTies
import Derived.KernelRfl
namespace Go.Proofs.Ytgccapdjhnejcaa
/- THE CELL 'sum', in the pinned program and in every row, IS THE sha256 OF THE DUMP (.gsa) THAT YtgccapdjhnejcaaProg.lean LOADS. Nothing in Lean hashes anything: it is a label: what it is worth is what the hold of that sum in a sandbox is worth. -/
noncomputable def Try.pinned : Pinned := { name := "ytgccapdjhnejcaa", sum := "5914c84d4f200ba31d253e1dd7f4a3b6bce87018d9e849ecb42ce75b445edc99", checked := Try.checked }
namespace Rows
def none {H : Type} : Left H := { results := [], args := [] }

/-- 'laws.FnExactIsColouring': WHATEVER THE INPUT: true; the input reads as it did. -/
def fnExactIsColouringSpec : ChangeSpec := { name := "fnExactIsColouring", fn := fun _ => fun
  | [d1, d2] => { results := [.lit (.bool true)], args := [d1, d2] }
  | _ => none }
def fnExactIsColouringRow : OpenClaim := { program := "ytgccapdjhnejcaa", sum := "5914c84d4f200ba31d253e1dd7f4a3b6bce87018d9e849ecb42ce75b445edc99", func := "loop.example/g01257/laws.FnExactIsColouring", spec := "fnExactIsColouring", unfollowed := true, recurses := true, apart := false }
def FnExactIsColouringSaid : Prop := fnExactIsColouringRow.holds Try.pinned (OpenSpec.ofChange fnExactIsColouringSpec)

/-- ITS FALSE NEIGHBOUR: 'it returns false'. Refute it at one input. -/
def fnExactIsColouringWrong : ChangeSpec := { name := "fnExactIsColouring", fn := fun _ => fun
  | [d1, d2] => { results := [.lit (.bool false)], args := [d1, d2] }
  | _ => none }
def FnExactIsColouringWrongFalsely : Prop := fnExactIsColouringRow.holds Try.pinned (OpenSpec.ofChange fnExactIsColouringWrong)

/-- 'laws.FnExactPartsParty': WHATEVER THE INPUT: true; the input reads as it did. -/
def fnExactPartsPartySpec : ChangeSpec := { name := "fnExactPartsParty", fn := fun _ => fun
  | [d] => { results := [.lit (.bool true)], args := [d] }
  | _ => none }
def fnExactPartsPartyRow : OpenClaim := { program := "ytgccapdjhnejcaa", sum := "5914c84d4f200ba31d253e1dd7f4a3b6bce87018d9e849ecb42ce75b445edc99", func := "loop.example/g01257/laws.FnExactPartsParty", spec := "fnExactPartsParty", unfollowed := true, recurses := true, apart := false }
def FnExactPartsPartySaid : Prop := fnExactPartsPartyRow.holds Try.pinned (OpenSpec.ofChange fnExactPartsPartySpec)

/-- ITS FALSE NEIGHBOUR: 'it returns false'. Refute it at one input. -/
def fnExactPartsPartyWrong : ChangeSpec := { name := "fnExactPartsParty", fn := fun _ => fun
  | [d] => { results := [.lit (.bool false)], args := [d] }
  | _ => none }
def FnExactPartsPartyWrongFalsely : Prop := fnExactPartsPartyRow.holds Try.pinned (OpenSpec.ofChange fnExactPartsPartyWrong)

/-- 'laws.FnExactTuranParty': WHATEVER THE INPUT: true; the input reads as it did. -/
def fnExactTuranPartySpec : ChangeSpec := { name := "fnExactTuranParty", fn := fun _ => fun
  | [d1, d2] => { results := [.lit (.bool true)], args := [d1, d2] }
  | _ => none }
def fnExactTuranPartyRow : OpenClaim := { program := "ytgccapdjhnejcaa", sum := "5914c84d4f200ba31d253e1dd7f4a3b6bce87018d9e849ecb42ce75b445edc99", func := "loop.example/g01257/laws.FnExactTuranParty", spec := "fnExactTuranParty", unfollowed := true, recurses := true, apart := false }
def FnExactTuranPartySaid : Prop := fnExactTuranPartyRow.holds Try.pinned (OpenSpec.ofChange fnExactTuranPartySpec)

/-- ITS FALSE NEIGHBOUR: 'it returns false'. Refute it at one input. -/
def fnExactTuranPartyWrong : ChangeSpec := { name := "fnExactTuranParty", fn := fun _ => fun
  | [d1, d2] => { results := [.lit (.bool false)], args := [d1, d2] }
  | _ => none }
def FnExactTuranPartyWrongFalsely : Prop := fnExactTuranPartyRow.holds Try.pinned (OpenSpec.ofChange fnExactTuranPartyWrong)

/-- 'laws.FnExactMostWithout': WHATEVER THE INPUT: true; the input reads as it did. -/
def fnExactMostWithoutSpec : ChangeSpec := { name := "fnExactMostWithout", fn := fun _ => fun
  | [d1, d2] => { results := [.lit (.bool true)], args := [d1, d2] }
  | _ => none }
def fnExactMostWithoutRow : OpenClaim := { program := "ytgccapdjhnejcaa", sum := "5914c84d4f200ba31d253e1dd7f4a3b6bce87018d9e849ecb42ce75b445edc99", func := "loop.example/g01257/laws.FnExactMostWithout", spec := "fnExactMostWithout", unfollowed := true, recurses := true, apart := false }
def FnExactMostWithoutSaid : Prop := fnExactMostWithoutRow.holds Try.pinned (OpenSpec.ofChange fnExactMostWithoutSpec)

/-- ITS FALSE NEIGHBOUR: 'it returns false'. Refute it at one input. -/
def fnExactMostWithoutWrong : ChangeSpec := { name := "fnExactMostWithout", fn := fun _ => fun
  | [d1, d2] => { results := [.lit (.bool false)], args := [d1, d2] }
  | _ => none }
def FnExactMostWithoutWrongFalsely : Prop := fnExactMostWithoutRow.holds Try.pinned (OpenSpec.ofChange fnExactMostWithoutWrong)

/-- 'laws.FnExactGreedyColouring': WHATEVER THE INPUT: true; the input reads as it did. -/
def fnExactGreedyColouringSpec : ChangeSpec := { name := "fnExactGreedyColouring", fn := fun _ => fun
  | [d1, d2] => { results := [.lit (.bool true)], args := [d1, d2] }
  | _ => none }
def fnExactGreedyColouringRow : OpenClaim := { program := "ytgccapdjhnejcaa", sum := "5914c84d4f200ba31d253e1dd7f4a3b6bce87018d9e849ecb42ce75b445edc99", func := "loop.example/g01257/laws.FnExactGreedyColouring", spec := "fnExactGreedyColouring", unfollowed := true, recurses := true, apart := false }
def FnExactGreedyColouringSaid : Prop := fnExactGreedyColouringRow.holds Try.pinned (OpenSpec.ofChange fnExactGreedyColouringSpec)

/-- ITS FALSE NEIGHBOUR: 'it returns false'. Refute it at one input. -/
def fnExactGreedyColouringWrong : ChangeSpec := { name := "fnExactGreedyColouring", fn := fun _ => fun
  | [d1, d2] => { results := [.lit (.bool false)], args := [d1, d2] }
  | _ => none }
def FnExactGreedyColouringWrongFalsely : Prop := fnExactGreedyColouringRow.holds Try.pinned (OpenSpec.ofChange fnExactGreedyColouringWrong)

/-- 'laws.FnExactPartsOfParty': WHATEVER THE INPUT: true; the input reads as it did. -/
def fnExactPartsOfPartySpec : ChangeSpec := { name := "fnExactPartsOfParty", fn := fun _ => fun
  | [d] => { results := [.lit (.bool true)], args := [d] }
  | _ => none }
def fnExactPartsOfPartyRow : OpenClaim := { program := "ytgccapdjhnejcaa", sum := "5914c84d4f200ba31d253e1dd7f4a3b6bce87018d9e849ecb42ce75b445edc99", func := "loop.example/g01257/laws.FnExactPartsOfParty", spec := "fnExactPartsOfParty", apart := false }
def FnExactPartsOfPartySaid : Prop := fnExactPartsOfPartyRow.holds Try.pinned (OpenSpec.ofChange fnExactPartsOfPartySpec)

/-- ITS FALSE NEIGHBOUR: 'it returns false'. Refute it at one input. -/
def fnExactPartsOfPartyWrong : ChangeSpec := { name := "fnExactPartsOfParty", fn := fun _ => fun
  | [d] => { results := [.lit (.bool false)], args := [d] }
  | _ => none }
def FnExactPartsOfPartyWrongFalsely : Prop := fnExactPartsOfPartyRow.holds Try.pinned (OpenSpec.ofChange fnExactPartsOfPartyWrong)

/-- 'laws.FnExactPartyOfNumbers': WHATEVER THE INPUT: true; the input reads as it did. -/
def fnExactPartyOfNumbersSpec : ChangeSpec := { name := "fnExactPartyOfNumbers", fn := fun _ => fun
  | [d] => { results := [.lit (.bool true)], args := [d] }
  | _ => none }
def fnExactPartyOfNumbersRow : OpenClaim := { program := "ytgccapdjhnejcaa", sum := "5914c84d4f200ba31d253e1dd7f4a3b6bce87018d9e849ecb42ce75b445edc99", func := "loop.example/g01257/laws.FnExactPartyOfNumbers", spec := "fnExactPartyOfNumbers", unfollowed := true, recurses := true, apart := false }
def FnExactPartyOfNumbersSaid : Prop := fnExactPartyOfNumbersRow.holds Try.pinned (OpenSpec.ofChange fnExactPartyOfNumbersSpec)

/-- ITS FALSE NEIGHBOUR: 'it returns false'. Refute it at one input. -/
def fnExactPartyOfNumbersWrong : ChangeSpec := { name := "fnExactPartyOfNumbers", fn := fun _ => fun
  | [d] => { results := [.lit (.bool false)], args := [d] }
  | _ => none }
def FnExactPartyOfNumbersWrongFalsely : Prop := fnExactPartyOfNumbersRow.holds Try.pinned (OpenSpec.ofChange fnExactPartyOfNumbersWrong)

/- THE SECOND FORM. 'bulk': how many values and letters a reading holds, each counted each time it is reached (what is shared counts as often as it is met; a slice's spare places count too). A statement '..UptoSaid' is the law's where the arguments, and the package variables that the reading takes, are together of bulk at most 1048576: NARROWER than '..Said'. Prove '..Said' where nothing that the law and all that it calls make is longer than what came in: it says more and counts as full. Else prove '..UptoSaid'. A law counts once. -/
mutual
def uptoBulk {H : Type} : DataW H → Nat
  | .lit (.string bytes) => bytes.length + 1
  | .lit _ => 1
  | .nil => 1
  | .ptr d => uptoBulk d + 1
  | .slice elems spare => uptoBulkAll elems + uptoBulkAll spare + 1
  | .agg parts => uptoBulkAll parts + 1
  | .iface _ d => uptoBulk d + 1
  | .map entries => uptoBulkEntries entries + 1
  | .held _ => 1
def uptoBulkAll {H : Type} : List (DataW H) → Nat
  | [] => 0
  | d :: r => uptoBulk d + uptoBulkAll r
def uptoBulkEntries {H : Type} : List (Lit × DataW H) → Nat
  | [] => 0
  | x :: r => uptoBulkEntry x + uptoBulkEntries r
def uptoBulkEntry {H : Type} : Lit × DataW H → Nat
  | (.string bytes, d) => bytes.length + uptoBulk d + 1
  | (_, d) => uptoBulk d + 1
 end
def uptoSmall : (H : Type) → List (DataW H) → Bool := fun _ ds => decide (uptoBulkAll ds ≤ 1048576)
def OpenSpec.upto (s : _root_.Go.ChangeSpec) : _root_.Go.OpenSpec := { _root_.Go.OpenSpec.ofChange s with cond := some uptoSmall }

/-- 'laws.FnExactIsColouring', WHERE WHAT IT READS IS OF BULK AT MOST 1048576: true; the input reads as it did. -/
def fnExactIsColouringUptoRow : OpenClaim := { program := "ytgccapdjhnejcaa", sum := "5914c84d4f200ba31d253e1dd7f4a3b6bce87018d9e849ecb42ce75b445edc99", func := "loop.example/g01257/laws.FnExactIsColouring", spec := "fnExactIsColouring", unfollowed := true, recurses := true, apart := false, narrowed := true }
def FnExactIsColouringUptoSaid : Prop := fnExactIsColouringUptoRow.holds Try.pinned (OpenSpec.upto fnExactIsColouringSpec)

/-- 'laws.FnExactPartsParty', WHERE WHAT IT READS IS OF BULK AT MOST 1048576: true; the input reads as it did. -/
def fnExactPartsPartyUptoRow : OpenClaim := { program := "ytgccapdjhnejcaa", sum := "5914c84d4f200ba31d253e1dd7f4a3b6bce87018d9e849ecb42ce75b445edc99", func := "loop.example/g01257/laws.FnExactPartsParty", spec := "fnExactPartsParty", unfollowed := true, recurses := true, apart := false, narrowed := true }
def FnExactPartsPartyUptoSaid : Prop := fnExactPartsPartyUptoRow.holds Try.pinned (OpenSpec.upto fnExactPartsPartySpec)

/-- 'laws.FnExactTuranParty', WHERE WHAT IT READS IS OF BULK AT MOST 1048576: true; the input reads as it did. -/
def fnExactTuranPartyUptoRow : OpenClaim := { program := "ytgccapdjhnejcaa", sum := "5914c84d4f200ba31d253e1dd7f4a3b6bce87018d9e849ecb42ce75b445edc99", func := "loop.example/g01257/laws.FnExactTuranParty", spec := "fnExactTuranParty", unfollowed := true, recurses := true, apart := false, narrowed := true }
def FnExactTuranPartyUptoSaid : Prop := fnExactTuranPartyUptoRow.holds Try.pinned (OpenSpec.upto fnExactTuranPartySpec)

/-- 'laws.FnExactMostWithout', WHERE WHAT IT READS IS OF BULK AT MOST 1048576: true; the input reads as it did. -/
def fnExactMostWithoutUptoRow : OpenClaim := { program := "ytgccapdjhnejcaa", sum := "5914c84d4f200ba31d253e1dd7f4a3b6bce87018d9e849ecb42ce75b445edc99", func := "loop.example/g01257/laws.FnExactMostWithout", spec := "fnExactMostWithout", unfollowed := true, recurses := true, apart := false, narrowed := true }
def FnExactMostWithoutUptoSaid : Prop := fnExactMostWithoutUptoRow.holds Try.pinned (OpenSpec.upto fnExactMostWithoutSpec)

/-- 'laws.FnExactGreedyColouring', WHERE WHAT IT READS IS OF BULK AT MOST 1048576: true; the input reads as it did. -/
def fnExactGreedyColouringUptoRow : OpenClaim := { program := "ytgccapdjhnejcaa", sum := "5914c84d4f200ba31d253e1dd7f4a3b6bce87018d9e849ecb42ce75b445edc99", func := "loop.example/g01257/laws.FnExactGreedyColouring", spec := "fnExactGreedyColouring", unfollowed := true, recurses := true, apart := false, narrowed := true }
def FnExactGreedyColouringUptoSaid : Prop := fnExactGreedyColouringUptoRow.holds Try.pinned (OpenSpec.upto fnExactGreedyColouringSpec)

/-- 'laws.FnExactPartsOfParty', WHERE WHAT IT READS IS OF BULK AT MOST 1048576: true; the input reads as it did. -/
def fnExactPartsOfPartyUptoRow : OpenClaim := { program := "ytgccapdjhnejcaa", sum := "5914c84d4f200ba31d253e1dd7f4a3b6bce87018d9e849ecb42ce75b445edc99", func := "loop.example/g01257/laws.FnExactPartsOfParty", spec := "fnExactPartsOfParty", apart := false, narrowed := true }
def FnExactPartsOfPartyUptoSaid : Prop := fnExactPartsOfPartyUptoRow.holds Try.pinned (OpenSpec.upto fnExactPartsOfPartySpec)

/-- 'laws.FnExactPartyOfNumbers', WHERE WHAT IT READS IS OF BULK AT MOST 1048576: true; the input reads as it did. -/
def fnExactPartyOfNumbersUptoRow : OpenClaim := { program := "ytgccapdjhnejcaa", sum := "5914c84d4f200ba31d253e1dd7f4a3b6bce87018d9e849ecb42ce75b445edc99", func := "loop.example/g01257/laws.FnExactPartyOfNumbers", spec := "fnExactPartyOfNumbers", unfollowed := true, recurses := true, apart := false, narrowed := true }
def FnExactPartyOfNumbersUptoSaid : Prop := fnExactPartyOfNumbersUptoRow.holds Try.pinned (OpenSpec.upto fnExactPartyOfNumbersSpec)

end Rows
end Go.Proofs.Ytgccapdjhnejcaa
