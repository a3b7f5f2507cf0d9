/-
  No cell of these rows narrows 'for every input' (looked for: loops, veiled, ifaces, maps, wideKeys, modest, calm, conditions, laid).
  DERIVED. THE GIVEN ROWS OF THIS SEAT. 14 by the template 'for every input the law returns true; each argument reads behind the call as it read before'; 0 by the template 'total and deterministic' (their statements: YtepoabbkalhifaaTotals.lean).
  GIVEN WITH THE SEED: the statements are not yours to turn. If you find one false, say at which input.
  Laid BY PROGRAM, IN A SANDBOX (cutbox-rows.mjs): the forced cells as the released guide's own fill.sh prints them over the translation 74e39f8b215f651b… (all of the seat's roots in one cut). By AI agents, Wed Nov 11 2026. No macro, syntax, notation, axiom, sorry.
-/
import Derived.Test.YtepoabbkalhifaaChecked
import GoSem.Claim
import GoSem.ClaimJoined
import GoSem.ClaimMapViews
import Derived.JoinedTies
import Derived.KernelRfl
namespace Go.Proofs.Ytepoabbkalhifaa
/- THE CELL 'sum', in the pinned program and in every row, IS THE sha256 OF THE DUMP (.gsa) THAT YtepoabbkalhifaaProg.lean LOADS. Nothing in Lean hashes anything: it is a label: what it is worth is what the hold of that sum in a sandbox is worth. -/
noncomputable def Try.pinned : Pinned := { name := "ytepoabbkalhifaa", sum := "74e39f8b215f651be59fc1b233f8fc8fc1c8ffff4598d8846249b6bf6eed6582", checked := Try.checked }
namespace Rows
def none {H : Type} : Left H := { results := [], args := [] }

/-- 'laws.FnExactIsPainting': WHATEVER THE INPUT: true; the input reads as it did. -/
def fnExactIsPaintingSpec : ChangeSpec := { name := "fnExactIsPainting", fn := fun _ => fun
  | [d] => { results := [.lit (.bool true)], args := [d] }
  | _ => none }
def fnExactIsPaintingRow : OpenClaim := { program := "ytepoabbkalhifaa", sum := "74e39f8b215f651be59fc1b233f8fc8fc1c8ffff4598d8846249b6bf6eed6582", func := "loop.example/g01257/laws.FnExactIsPainting", spec := "fnExactIsPainting", unfollowed := true, recurses := true, apart := false }
def FnExactIsPaintingSaid : Prop := fnExactIsPaintingRow.holds Try.pinned (OpenSpec.ofChange fnExactIsPaintingSpec)

/-- ITS FALSE NEIGHBOUR: 'it returns false'. Refute it at one input. -/
def fnExactIsPaintingWrong : ChangeSpec := { name := "fnExactIsPainting", fn := fun _ => fun
  | [d] => { results := [.lit (.bool false)], args := [d] }
  | _ => none }
def FnExactIsPaintingWrongFalsely : Prop := fnExactIsPaintingRow.holds Try.pinned (OpenSpec.ofChange fnExactIsPaintingWrong)

/-- 'laws.FnExactColourOf': WHATEVER THE INPUT: true; the input reads as it did. -/
def fnExactColourOfSpec : ChangeSpec := { name := "fnExactColourOf", fn := fun _ => fun
  | [d1, d2, d3] => { results := [.lit (.bool true)], args := [d1, d2, d3] }
  | _ => none }
def fnExactColourOfRow : OpenClaim := { program := "ytepoabbkalhifaa", sum := "74e39f8b215f651be59fc1b233f8fc8fc1c8ffff4598d8846249b6bf6eed6582", func := "loop.example/g01257/laws.FnExactColourOf", spec := "fnExactColourOf", unfollowed := true, recurses := true, apart := false }
def FnExactColourOfSaid : Prop := fnExactColourOfRow.holds Try.pinned (OpenSpec.ofChange fnExactColourOfSpec)

/-- ITS FALSE NEIGHBOUR: 'it returns false'. Refute it at one input. -/
def fnExactColourOfWrong : ChangeSpec := { name := "fnExactColourOf", fn := fun _ => fun
  | [d1, d2, d3] => { results := [.lit (.bool false)], args := [d1, d2, d3] }
  | _ => none }
def FnExactColourOfWrongFalsely : Prop := fnExactColourOfRow.holds Try.pinned (OpenSpec.ofChange fnExactColourOfWrong)

/-- 'laws.FnExactPaintPair': WHATEVER THE INPUT: true; the input reads as it did. -/
def fnExactPaintPairSpec : ChangeSpec := { name := "fnExactPaintPair", fn := fun _ => fun
  | [d1, d2, d3, d4] => { results := [.lit (.bool true)], args := [d1, d2, d3, d4] }
  | _ => none }
def fnExactPaintPairRow : OpenClaim := { program := "ytepoabbkalhifaa", sum := "74e39f8b215f651be59fc1b233f8fc8fc1c8ffff4598d8846249b6bf6eed6582", func := "loop.example/g01257/laws.FnExactPaintPair", spec := "fnExactPaintPair", unfollowed := true, recurses := true, apart := false }
def FnExactPaintPairSaid : Prop := fnExactPaintPairRow.holds Try.pinned (OpenSpec.ofChange fnExactPaintPairSpec)

/-- ITS FALSE NEIGHBOUR: 'it returns false'. Refute it at one input. -/
def fnExactPaintPairWrong : ChangeSpec := { name := "fnExactPaintPair", fn := fun _ => fun
  | [d1, d2, d3, d4] => { results := [.lit (.bool false)], args := [d1, d2, d3, d4] }
  | _ => none }
def FnExactPaintPairWrongFalsely : Prop := fnExactPaintPairRow.holds Try.pinned (OpenSpec.ofChange fnExactPaintPairWrong)

/-- 'laws.FnExactPaintingOf': WHATEVER THE INPUT: true; the input reads as it did. -/
def fnExactPaintingOfSpec : ChangeSpec := { name := "fnExactPaintingOf", fn := fun _ => fun
  | [d] => { results := [.lit (.bool true)], args := [d] }
  | _ => none }
def fnExactPaintingOfRow : OpenClaim := { program := "ytepoabbkalhifaa", sum := "74e39f8b215f651be59fc1b233f8fc8fc1c8ffff4598d8846249b6bf6eed6582", func := "loop.example/g01257/laws.FnExactPaintingOf", spec := "fnExactPaintingOf", unfollowed := true, recurses := true, apart := false }
def FnExactPaintingOfSaid : Prop := fnExactPaintingOfRow.holds Try.pinned (OpenSpec.ofChange fnExactPaintingOfSpec)

/-- ITS FALSE NEIGHBOUR: 'it returns false'. Refute it at one input. -/
def fnExactPaintingOfWrong : ChangeSpec := { name := "fnExactPaintingOf", fn := fun _ => fun
  | [d] => { results := [.lit (.bool false)], args := [d] }
  | _ => none }
def FnExactPaintingOfWrongFalsely : Prop := fnExactPaintingOfRow.holds Try.pinned (OpenSpec.ofChange fnExactPaintingOfWrong)

/-- 'laws.FnExactPartyOfColour': WHATEVER THE INPUT: true; the input reads as it did. -/
def fnExactPartyOfColourSpec : ChangeSpec := { name := "fnExactPartyOfColour", fn := fun _ => fun
  | [d1, d2] => { results := [.lit (.bool true)], args := [d1, d2] }
  | _ => none }
def fnExactPartyOfColourRow : OpenClaim := { program := "ytepoabbkalhifaa", sum := "74e39f8b215f651be59fc1b233f8fc8fc1c8ffff4598d8846249b6bf6eed6582", func := "loop.example/g01257/laws.FnExactPartyOfColour", spec := "fnExactPartyOfColour", unfollowed := true, recurses := true, apart := false }
def FnExactPartyOfColourSaid : Prop := fnExactPartyOfColourRow.holds Try.pinned (OpenSpec.ofChange fnExactPartyOfColourSpec)

/-- ITS FALSE NEIGHBOUR: 'it returns false'. Refute it at one input. -/
def fnExactPartyOfColourWrong : ChangeSpec := { name := "fnExactPartyOfColour", fn := fun _ => fun
  | [d1, d2] => { results := [.lit (.bool false)], args := [d1, d2] }
  | _ => none }
def FnExactPartyOfColourWrongFalsely : Prop := fnExactPartyOfColourRow.holds Try.pinned (OpenSpec.ofChange fnExactPartyOfColourWrong)

/-- 'laws.FnExactOneColourThrees': WHATEVER THE INPUT: true; the input reads as it did. -/
def fnExactOneColourThreesSpec : ChangeSpec := { name := "fnExactOneColourThrees", fn := fun _ => fun
  | [d] => { results := [.lit (.bool true)], args := [d] }
  | _ => none }
def fnExactOneColourThreesRow : OpenClaim := { program := "ytepoabbkalhifaa", sum := "74e39f8b215f651be59fc1b233f8fc8fc1c8ffff4598d8846249b6bf6eed6582", func := "loop.example/g01257/laws.FnExactOneColourThrees", spec := "fnExactOneColourThrees", unfollowed := true, recurses := true, apart := false }
def FnExactOneColourThreesSaid : Prop := fnExactOneColourThreesRow.holds Try.pinned (OpenSpec.ofChange fnExactOneColourThreesSpec)

/-- ITS FALSE NEIGHBOUR: 'it returns false'. Refute it at one input. -/
def fnExactOneColourThreesWrong : ChangeSpec := { name := "fnExactOneColourThrees", fn := fun _ => fun
  | [d] => { results := [.lit (.bool false)], args := [d] }
  | _ => none }
def FnExactOneColourThreesWrongFalsely : Prop := fnExactOneColourThreesRow.holds Try.pinned (OpenSpec.ofChange fnExactOneColourThreesWrong)

/-- 'laws.FnExactCountOneColour': WHATEVER THE INPUT: true; the input reads as it did. -/
def fnExactCountOneColourSpec : ChangeSpec := { name := "fnExactCountOneColour", fn := fun _ => fun
  | [d] => { results := [.lit (.bool true)], args := [d] }
  | _ => none }
def fnExactCountOneColourRow : OpenClaim := { program := "ytepoabbkalhifaa", sum := "74e39f8b215f651be59fc1b233f8fc8fc1c8ffff4598d8846249b6bf6eed6582", func := "loop.example/g01257/laws.FnExactCountOneColour", spec := "fnExactCountOneColour", unfollowed := true, recurses := true, apart := false }
def FnExactCountOneColourSaid : Prop := fnExactCountOneColourRow.holds Try.pinned (OpenSpec.ofChange fnExactCountOneColourSpec)

/-- ITS FALSE NEIGHBOUR: 'it returns false'. Refute it at one input. -/
def fnExactCountOneColourWrong : ChangeSpec := { name := "fnExactCountOneColour", fn := fun _ => fun
  | [d] => { results := [.lit (.bool false)], args := [d] }
  | _ => none }
def FnExactCountOneColourWrongFalsely : Prop := fnExactCountOneColourRow.holds Try.pinned (OpenSpec.ofChange fnExactCountOneColourWrong)

/-- 'laws.FnExactCountMixed': WHATEVER THE INPUT: true; the input reads as it did. -/
def fnExactCountMixedSpec : ChangeSpec := { name := "fnExactCountMixed", fn := fun _ => fun
  | [d] => { results := [.lit (.bool true)], args := [d] }
  | _ => none }
def fnExactCountMixedRow : OpenClaim := { program := "ytepoabbkalhifaa", sum := "74e39f8b215f651be59fc1b233f8fc8fc1c8ffff4598d8846249b6bf6eed6582", func := "loop.example/g01257/laws.FnExactCountMixed", spec := "fnExactCountMixed", unfollowed := true, recurses := true, apart := false }
def FnExactCountMixedSaid : Prop := fnExactCountMixedRow.holds Try.pinned (OpenSpec.ofChange fnExactCountMixedSpec)

/-- ITS FALSE NEIGHBOUR: 'it returns false'. Refute it at one input. -/
def fnExactCountMixedWrong : ChangeSpec := { name := "fnExactCountMixed", fn := fun _ => fun
  | [d] => { results := [.lit (.bool false)], args := [d] }
  | _ => none }
def FnExactCountMixedWrongFalsely : Prop := fnExactCountMixedRow.holds Try.pinned (OpenSpec.ofChange fnExactCountMixedWrong)

/-- 'laws.FnExactLeastThrees': WHATEVER THE INPUT: true; the input reads as it did. -/
def fnExactLeastThreesSpec : ChangeSpec := { name := "fnExactLeastThrees", fn := fun _ => fun
  | [d] => { results := [.lit (.bool true)], args := [d] }
  | _ => none }
def fnExactLeastThreesRow : OpenClaim := { program := "ytepoabbkalhifaa", sum := "74e39f8b215f651be59fc1b233f8fc8fc1c8ffff4598d8846249b6bf6eed6582", func := "loop.example/g01257/laws.FnExactLeastThrees", spec := "fnExactLeastThrees", apart := false }
def FnExactLeastThreesSaid : Prop := fnExactLeastThreesRow.holds Try.pinned (OpenSpec.ofChange fnExactLeastThreesSpec)

/-- ITS FALSE NEIGHBOUR: 'it returns false'. Refute it at one input. -/
def fnExactLeastThreesWrong : ChangeSpec := { name := "fnExactLeastThrees", fn := fun _ => fun
  | [d] => { results := [.lit (.bool false)], args := [d] }
  | _ => none }
def FnExactLeastThreesWrongFalsely : Prop := fnExactLeastThreesRow.holds Try.pinned (OpenSpec.ofChange fnExactLeastThreesWrong)

/-- 'laws.FnExactFirstAvoiding': WHATEVER THE INPUT: true; the input reads as it did. -/
def fnExactFirstAvoidingSpec : ChangeSpec := { name := "fnExactFirstAvoiding", fn := fun _ => fun
  | [d1, d2] => { results := [.lit (.bool true)], args := [d1, d2] }
  | _ => none }
def fnExactFirstAvoidingRow : OpenClaim := { program := "ytepoabbkalhifaa", sum := "74e39f8b215f651be59fc1b233f8fc8fc1c8ffff4598d8846249b6bf6eed6582", func := "loop.example/g01257/laws.FnExactFirstAvoiding", spec := "fnExactFirstAvoiding", unfollowed := true, recurses := true, apart := false }
def FnExactFirstAvoidingSaid : Prop := fnExactFirstAvoidingRow.holds Try.pinned (OpenSpec.ofChange fnExactFirstAvoidingSpec)

/-- ITS FALSE NEIGHBOUR: 'it returns false'. Refute it at one input. -/
def fnExactFirstAvoidingWrong : ChangeSpec := { name := "fnExactFirstAvoiding", fn := fun _ => fun
  | [d1, d2] => { results := [.lit (.bool false)], args := [d1, d2] }
  | _ => none }
def FnExactFirstAvoidingWrongFalsely : Prop := fnExactFirstAvoidingRow.holds Try.pinned (OpenSpec.ofChange fnExactFirstAvoidingWrong)

/-- 'laws.FnExactCountAvoiding': WHATEVER THE INPUT: true; the input reads as it did. -/
def fnExactCountAvoidingSpec : ChangeSpec := { name := "fnExactCountAvoiding", fn := fun _ => fun
  | [d1, d2] => { results := [.lit (.bool true)], args := [d1, d2] }
  | _ => none }
def fnExactCountAvoidingRow : OpenClaim := { program := "ytepoabbkalhifaa", sum := "74e39f8b215f651be59fc1b233f8fc8fc1c8ffff4598d8846249b6bf6eed6582", func := "loop.example/g01257/laws.FnExactCountAvoiding", spec := "fnExactCountAvoiding", unfollowed := true, recurses := true, apart := false }
def FnExactCountAvoidingSaid : Prop := fnExactCountAvoidingRow.holds Try.pinned (OpenSpec.ofChange fnExactCountAvoidingSpec)

/-- ITS FALSE NEIGHBOUR: 'it returns false'. Refute it at one input. -/
def fnExactCountAvoidingWrong : ChangeSpec := { name := "fnExactCountAvoiding", fn := fun _ => fun
  | [d1, d2] => { results := [.lit (.bool false)], args := [d1, d2] }
  | _ => none }
def FnExactCountAvoidingWrongFalsely : Prop := fnExactCountAvoidingRow.holds Try.pinned (OpenSpec.ofChange fnExactCountAvoidingWrong)

/-- 'laws.FnExactExchangeColours': WHATEVER THE INPUT: true; the input reads as it did. -/
def fnExactExchangeColoursSpec : ChangeSpec := { name := "fnExactExchangeColours", fn := fun _ => fun
  | [d1, d2, d3] => { results := [.lit (.bool true)], args := [d1, d2, d3] }
  | _ => none }
def fnExactExchangeColoursRow : OpenClaim := { program := "ytepoabbkalhifaa", sum := "74e39f8b215f651be59fc1b233f8fc8fc1c8ffff4598d8846249b6bf6eed6582", func := "loop.example/g01257/laws.FnExactExchangeColours", spec := "fnExactExchangeColours", unfollowed := true, recurses := true, apart := false }
def FnExactExchangeColoursSaid : Prop := fnExactExchangeColoursRow.holds Try.pinned (OpenSpec.ofChange fnExactExchangeColoursSpec)

/-- ITS FALSE NEIGHBOUR: 'it returns false'. Refute it at one input. -/
def fnExactExchangeColoursWrong : ChangeSpec := { name := "fnExactExchangeColours", fn := fun _ => fun
  | [d1, d2, d3] => { results := [.lit (.bool false)], args := [d1, d2, d3] }
  | _ => none }
def FnExactExchangeColoursWrongFalsely : Prop := fnExactExchangeColoursRow.holds Try.pinned (OpenSpec.ofChange fnExactExchangeColoursWrong)

/-- 'laws.FnExactRenamePainting': WHATEVER THE INPUT: true; the input reads as it did. -/
def fnExactRenamePaintingSpec : ChangeSpec := { name := "fnExactRenamePainting", fn := fun _ => fun
  | [d1, d2] => { results := [.lit (.bool true)], args := [d1, d2] }
  | _ => none }
def fnExactRenamePaintingRow : OpenClaim := { program := "ytepoabbkalhifaa", sum := "74e39f8b215f651be59fc1b233f8fc8fc1c8ffff4598d8846249b6bf6eed6582", func := "loop.example/g01257/laws.FnExactRenamePainting", spec := "fnExactRenamePainting", unfollowed := true, recurses := true, apart := false }
def FnExactRenamePaintingSaid : Prop := fnExactRenamePaintingRow.holds Try.pinned (OpenSpec.ofChange fnExactRenamePaintingSpec)

/-- ITS FALSE NEIGHBOUR: 'it returns false'. Refute it at one input. -/
def fnExactRenamePaintingWrong : ChangeSpec := { name := "fnExactRenamePainting", fn := fun _ => fun
  | [d1, d2] => { results := [.lit (.bool false)], args := [d1, d2] }
  | _ => none }
def FnExactRenamePaintingWrongFalsely : Prop := fnExactRenamePaintingRow.holds Try.pinned (OpenSpec.ofChange fnExactRenamePaintingWrong)

/-- 'laws.FnExactLeastOneKind': WHATEVER THE INPUT: true; the input reads as it did. -/
def fnExactLeastOneKindSpec : ChangeSpec := { name := "fnExactLeastOneKind", fn := fun _ => fun
  | [d] => { results := [.lit (.bool true)], args := [d] }
  | _ => none }
def fnExactLeastOneKindRow : OpenClaim := { program := "ytepoabbkalhifaa", sum := "74e39f8b215f651be59fc1b233f8fc8fc1c8ffff4598d8846249b6bf6eed6582", func := "loop.example/g01257/laws.FnExactLeastOneKind", spec := "fnExactLeastOneKind", apart := false }
def FnExactLeastOneKindSaid : Prop := fnExactLeastOneKindRow.holds Try.pinned (OpenSpec.ofChange fnExactLeastOneKindSpec)

/-- ITS FALSE NEIGHBOUR: 'it returns false'. Refute it at one input. -/
def fnExactLeastOneKindWrong : ChangeSpec := { name := "fnExactLeastOneKind", fn := fun _ => fun
  | [d] => { results := [.lit (.bool false)], args := [d] }
  | _ => none }
def FnExactLeastOneKindWrongFalsely : Prop := fnExactLeastOneKindRow.holds Try.pinned (OpenSpec.ofChange fnExactLeastOneKindWrong)

/- THE SECOND FORM. 'bulk': how many values and letters a reading holds, each counted each time it is reached (what is shared counts as often as it is met; a slice's spare places count too). A statement '..UptoSaid' is the law's where the arguments, and the package variables that the reading takes, are together of bulk at most 1048576: NARROWER than '..Said'. Prove '..Said' where nothing that the law and all that it calls make is longer than what came in: it says more and counts as full. Else prove '..UptoSaid'. A law counts once. -/
mutual
def uptoBulk {H : Type} : DataW H → Nat
  | .lit (.string bytes) => bytes.length + 1
  | .lit _ => 1
  | .nil => 1
  | .ptr d => uptoBulk d + 1
  | .slice elems spare => uptoBulkAll elems + uptoBulkAll spare + 1
  | .agg parts => uptoBulkAll parts + 1
  | .iface _ d => uptoBulk d + 1
  | .map entries => uptoBulkEntries entries + 1
  | .held _ => 1
def uptoBulkAll {H : Type} : List (DataW H) → Nat
  | [] => 0
  | d :: r => uptoBulk d + uptoBulkAll r
def uptoBulkEntries {H : Type} : List (Lit × DataW H) → Nat
  | [] => 0
  | x :: r => uptoBulkEntry x + uptoBulkEntries r
def uptoBulkEntry {H : Type} : Lit × DataW H → Nat
  | (.string bytes, d) => bytes.length + uptoBulk d + 1
  | (_, d) => uptoBulk d + 1
 end
def uptoSmall : (H : Type) → List (DataW H) → Bool := fun _ ds => decide (uptoBulkAll ds ≤ 1048576)
def OpenSpec.upto (s : _root_.Go.ChangeSpec) : _root_.Go.OpenSpec := { _root_.Go.OpenSpec.ofChange s with cond := some uptoSmall }

/-- 'laws.FnExactIsPainting', WHERE WHAT IT READS IS OF BULK AT MOST 1048576: true; the input reads as it did. -/
def fnExactIsPaintingUptoRow : OpenClaim := { program := "ytepoabbkalhifaa", sum := "74e39f8b215f651be59fc1b233f8fc8fc1c8ffff4598d8846249b6bf6eed6582", func := "loop.example/g01257/laws.FnExactIsPainting", spec := "fnExactIsPainting", unfollowed := true, recurses := true, apart := false, narrowed := true }
def FnExactIsPaintingUptoSaid : Prop := fnExactIsPaintingUptoRow.holds Try.pinned (OpenSpec.upto fnExactIsPaintingSpec)

/-- 'laws.FnExactColourOf', WHERE WHAT IT READS IS OF BULK AT MOST 1048576: true; the input reads as it did. -/
def fnExactColourOfUptoRow : OpenClaim := { program := "ytepoabbkalhifaa", sum := "74e39f8b215f651be59fc1b233f8fc8fc1c8ffff4598d8846249b6bf6eed6582", func := "loop.example/g01257/laws.FnExactColourOf", spec := "fnExactColourOf", unfollowed := true, recurses := true, apart := false, narrowed := true }
def FnExactColourOfUptoSaid : Prop := fnExactColourOfUptoRow.holds Try.pinned (OpenSpec.upto fnExactColourOfSpec)

/-- 'laws.FnExactPaintPair', WHERE WHAT IT READS IS OF BULK AT MOST 1048576: true; the input reads as it did. -/
def fnExactPaintPairUptoRow : OpenClaim := { program := "ytepoabbkalhifaa", sum := "74e39f8b215f651be59fc1b233f8fc8fc1c8ffff4598d8846249b6bf6eed6582", func := "loop.example/g01257/laws.FnExactPaintPair", spec := "fnExactPaintPair", unfollowed := true, recurses := true, apart := false, narrowed := true }
def FnExactPaintPairUptoSaid : Prop := fnExactPaintPairUptoRow.holds Try.pinned (OpenSpec.upto fnExactPaintPairSpec)

/-- 'laws.FnExactPaintingOf', WHERE WHAT IT READS IS OF BULK AT MOST 1048576: true; the input reads as it did. -/
def fnExactPaintingOfUptoRow : OpenClaim := { program := "ytepoabbkalhifaa", sum := "74e39f8b215f651be59fc1b233f8fc8fc1c8ffff4598d8846249b6bf6eed6582", func := "loop.example/g01257/laws.FnExactPaintingOf", spec := "fnExactPaintingOf", unfollowed := true, recurses := true, apart := false, narrowed := true }
def FnExactPaintingOfUptoSaid : Prop := fnExactPaintingOfUptoRow.holds Try.pinned (OpenSpec.upto fnExactPaintingOfSpec)

/-- 'laws.FnExactPartyOfColour', WHERE WHAT IT READS IS OF BULK AT MOST 1048576: true; the input reads as it did. -/
def fnExactPartyOfColourUptoRow : OpenClaim := { program := "ytepoabbkalhifaa", sum := "74e39f8b215f651be59fc1b233f8fc8fc1c8ffff4598d8846249b6bf6eed6582", func := "loop.example/g01257/laws.FnExactPartyOfColour", spec := "fnExactPartyOfColour", unfollowed := true, recurses := true, apart := false, narrowed := true }
def FnExactPartyOfColourUptoSaid : Prop := fnExactPartyOfColourUptoRow.holds Try.pinned (OpenSpec.upto fnExactPartyOfColourSpec)

/-- 'laws.FnExactOneColourThrees', WHERE WHAT IT READS IS OF BULK AT MOST 1048576: true; the input reads as it did. -/
def fnExactOneColourThreesUptoRow : OpenClaim := { program := "ytepoabbkalhifaa", sum := "74e39f8b215f651be59fc1b233f8fc8fc1c8ffff4598d8846249b6bf6eed6582", func := "loop.example/g01257/laws.FnExactOneColourThrees", spec := "fnExactOneColourThrees", unfollowed := true, recurses := true, apart := false, narrowed := true }
def FnExactOneColourThreesUptoSaid : Prop := fnExactOneColourThreesUptoRow.holds Try.pinned (OpenSpec.upto fnExactOneColourThreesSpec)

/-- 'laws.FnExactCountOneColour', WHERE WHAT IT READS IS OF BULK AT MOST 1048576: true; the input reads as it did. -/
def fnExactCountOneColourUptoRow : OpenClaim := { program := "ytepoabbkalhifaa", sum := "74e39f8b215f651be59fc1b233f8fc8fc1c8ffff4598d8846249b6bf6eed6582", func := "loop.example/g01257/laws.FnExactCountOneColour", spec := "fnExactCountOneColour", unfollowed := true, recurses := true, apart := false, narrowed := true }
def FnExactCountOneColourUptoSaid : Prop := fnExactCountOneColourUptoRow.holds Try.pinned (OpenSpec.upto fnExactCountOneColourSpec)

/-- 'laws.FnExactCountMixed', WHERE WHAT IT READS IS OF BULK AT MOST 1048576: true; the input reads as it did. -/
def fnExactCountMixedUptoRow : OpenClaim := { program := "ytepoabbkalhifaa", sum := "74e39f8b215f651be59fc1b233f8fc8fc1c8ffff4598d8846249b6bf6eed6582", func := "loop.example/g01257/laws.FnExactCountMixed", spec := "fnExactCountMixed", unfollowed := true, recurses := true, apart := false, narrowed := true }
def FnExactCountMixedUptoSaid : Prop := fnExactCountMixedUptoRow.holds Try.pinned (OpenSpec.upto fnExactCountMixedSpec)

/-- 'laws.FnExactLeastThrees', WHERE WHAT IT READS IS OF BULK AT MOST 1048576: true; the input reads as it did. -/
def fnExactLeastThreesUptoRow : OpenClaim := { program := "ytepoabbkalhifaa", sum := "74e39f8b215f651be59fc1b233f8fc8fc1c8ffff4598d8846249b6bf6eed6582", func := "loop.example/g01257/laws.FnExactLeastThrees", spec := "fnExactLeastThrees", apart := false, narrowed := true }
def FnExactLeastThreesUptoSaid : Prop := fnExactLeastThreesUptoRow.holds Try.pinned (OpenSpec.upto fnExactLeastThreesSpec)

/-- 'laws.FnExactFirstAvoiding', WHERE WHAT IT READS IS OF BULK AT MOST 1048576: true; the input reads as it did. -/
def fnExactFirstAvoidingUptoRow : OpenClaim := { program := "ytepoabbkalhifaa", sum := "74e39f8b215f651be59fc1b233f8fc8fc1c8ffff4598d8846249b6bf6eed6582", func := "loop.example/g01257/laws.FnExactFirstAvoiding", spec := "fnExactFirstAvoiding", unfollowed := true, recurses := true, apart := false, narrowed := true }
def FnExactFirstAvoidingUptoSaid : Prop := fnExactFirstAvoidingUptoRow.holds Try.pinned (OpenSpec.upto fnExactFirstAvoidingSpec)

/-- 'laws.FnExactCountAvoiding', WHERE WHAT IT READS IS OF BULK AT MOST 1048576: true; the input reads as it did. -/
def fnExactCountAvoidingUptoRow : OpenClaim := { program := "ytepoabbkalhifaa", sum := "74e39f8b215f651be59fc1b233f8fc8fc1c8ffff4598d8846249b6bf6eed6582", func := "loop.example/g01257/laws.FnExactCountAvoiding", spec := "fnExactCountAvoiding", unfollowed := true, recurses := true, apart := false, narrowed := true }
def FnExactCountAvoidingUptoSaid : Prop := fnExactCountAvoidingUptoRow.holds Try.pinned (OpenSpec.upto fnExactCountAvoidingSpec)

/-- 'laws.FnExactExchangeColours', WHERE WHAT IT READS IS OF BULK AT MOST 1048576: true; the input reads as it did. -/
def fnExactExchangeColoursUptoRow : OpenClaim := { program := "ytepoabbkalhifaa", sum := "74e39f8b215f651be59fc1b233f8fc8fc1c8ffff4598d8846249b6bf6eed6582", func := "loop.example/g01257/laws.FnExactExchangeColours", spec := "fnExactExchangeColours", unfollowed := true, recurses := true, apart := false, narrowed := true }
def FnExactExchangeColoursUptoSaid : Prop := fnExactExchangeColoursUptoRow.holds Try.pinned (OpenSpec.upto fnExactExchangeColoursSpec)

/-- 'laws.FnExactRenamePainting', WHERE WHAT IT READS IS OF BULK AT MOST 1048576: true; the input reads as it did. -/
def fnExactRenamePaintingUptoRow : OpenClaim := { program := "ytepoabbkalhifaa", sum := "74e39f8b215f651be59fc1b233f8fc8fc1c8ffff4598d8846249b6bf6eed6582", func := "loop.example/g01257/laws.FnExactRenamePainting", spec := "fnExactRenamePainting", unfollowed := true, recurses := true, apart := false, narrowed := true }
def FnExactRenamePaintingUptoSaid : Prop := fnExactRenamePaintingUptoRow.holds Try.pinned (OpenSpec.upto fnExactRenamePaintingSpec)

/-- 'laws.FnExactLeastOneKind', WHERE WHAT IT READS IS OF BULK AT MOST 1048576: true; the input reads as it did. -/
def fnExactLeastOneKindUptoRow : OpenClaim := { program := "ytepoabbkalhifaa", sum := "74e39f8b215f651be59fc1b233f8fc8fc1c8ffff4598d8846249b6bf6eed6582", func := "loop.example/g01257/laws.FnExactLeastOneKind", spec := "fnExactLeastOneKind", apart := false, narrowed := true }
def FnExactLeastOneKindUptoSaid : Prop := fnExactLeastOneKindUptoRow.holds Try.pinned (OpenSpec.upto fnExactLeastOneKindSpec)

end Rows
end Go.Proofs.Ytepoabbkalhifaa
