/-
  No cell of these rows narrows 'for every input' (looked for: loops, veiled, ifaces, maps, wideKeys, modest, calm, conditions, laid).
  DERIVED. THE GIVEN ROWS OF THIS SEAT. 24 by the template 'for every input the law returns true; each argument reads behind the call as it read before'; 0 by the template 'total and deterministic' (their statements: YtkonibmmdinmbaaTotals.lean).
  GIVEN WITH THE SEED: the statements are not yours to turn. If you find one false, say at which input.
  Laid BY PROGRAM, IN A SANDBOX (cutbox-rows.mjs): the forced cells as the released guide's own fill.sh prints them over the translation dd43681f51da7995… (all of the seat's roots in one cut). By AI agents, Wed Nov 11 2026. No macro, syntax, notation, axiom, sorry.
-/
import Derived.Test.YtkonibmmdinmbaaChecked
import GoSem.Claim
import GoSem.ClaimJoined
import GoSem.ClaimMapViews
import Derived.JoinedTies
import Derived.KernelRfl
namespace Go.Proofs.Ytkonibmmdinmbaa
/- THE CELL 'sum', in the pinned program and in every row, IS THE sha256 OF THE DUMP (.gsa) THAT YtkonibmmdinmbaaProg.lean LOADS. Nothing in Lean hashes anything: it is a label: what it is worth is what the hold of that sum in a sandbox is worth. -/
noncomputable def Try.pinned : Pinned := { name := "ytkonibmmdinmbaa", sum := "dd43681f51da79957617469f7c0bfca5103a59a63eae7a41ea6fcaa70590a829", checked := Try.checked }
namespace Rows
def none {H : Type} : Left H := { results := [], args := [] }

/-- 'laws.FnExactChooseParty': WHATEVER THE INPUT: true; the input reads as it did. -/
def fnExactChoosePartySpec : ChangeSpec := { name := "fnExactChooseParty", fn := fun _ => fun
  | [d1, d2] => { results := [.lit (.bool true)], args := [d1, d2] }
  | _ => none }
def fnExactChoosePartyRow : OpenClaim := { program := "ytkonibmmdinmbaa", sum := "dd43681f51da79957617469f7c0bfca5103a59a63eae7a41ea6fcaa70590a829", func := "loop.example/g01257/laws.FnExactChooseParty", spec := "fnExactChooseParty", apart := false }
def FnExactChoosePartySaid : Prop := fnExactChoosePartyRow.holds Try.pinned (OpenSpec.ofChange fnExactChoosePartySpec)

/-- ITS FALSE NEIGHBOUR: 'it returns false'. Refute it at one input. -/
def fnExactChoosePartyWrong : ChangeSpec := { name := "fnExactChooseParty", fn := fun _ => fun
  | [d1, d2] => { results := [.lit (.bool false)], args := [d1, d2] }
  | _ => none }
def FnExactChoosePartyWrongFalsely : Prop := fnExactChoosePartyRow.holds Try.pinned (OpenSpec.ofChange fnExactChoosePartyWrong)

/-- 'laws.FnExactRenameParty': WHATEVER THE INPUT: true; the input reads as it did. -/
def fnExactRenamePartySpec : ChangeSpec := { name := "fnExactRenameParty", fn := fun _ => fun
  | [d1, d2] => { results := [.lit (.bool true)], args := [d1, d2] }
  | _ => none }
def fnExactRenamePartyRow : OpenClaim := { program := "ytkonibmmdinmbaa", sum := "dd43681f51da79957617469f7c0bfca5103a59a63eae7a41ea6fcaa70590a829", func := "loop.example/g01257/laws.FnExactRenameParty", spec := "fnExactRenameParty", unfollowed := true, recurses := true, apart := false }
def FnExactRenamePartySaid : Prop := fnExactRenamePartyRow.holds Try.pinned (OpenSpec.ofChange fnExactRenamePartySpec)

/-- ITS FALSE NEIGHBOUR: 'it returns false'. Refute it at one input. -/
def fnExactRenamePartyWrong : ChangeSpec := { name := "fnExactRenameParty", fn := fun _ => fun
  | [d1, d2] => { results := [.lit (.bool false)], args := [d1, d2] }
  | _ => none }
def FnExactRenamePartyWrongFalsely : Prop := fnExactRenamePartyRow.holds Try.pinned (OpenSpec.ofChange fnExactRenamePartyWrong)

/-- 'laws.FnExactBesideParty': WHATEVER THE INPUT: true; the input reads as it did. -/
def fnExactBesidePartySpec : ChangeSpec := { name := "fnExactBesideParty", fn := fun _ => fun
  | [d1, d2] => { results := [.lit (.bool true)], args := [d1, d2] }
  | _ => none }
def fnExactBesidePartyRow : OpenClaim := { program := "ytkonibmmdinmbaa", sum := "dd43681f51da79957617469f7c0bfca5103a59a63eae7a41ea6fcaa70590a829", func := "loop.example/g01257/laws.FnExactBesideParty", spec := "fnExactBesideParty", apart := false }
def FnExactBesidePartySaid : Prop := fnExactBesidePartyRow.holds Try.pinned (OpenSpec.ofChange fnExactBesidePartySpec)

/-- ITS FALSE NEIGHBOUR: 'it returns false'. Refute it at one input. -/
def fnExactBesidePartyWrong : ChangeSpec := { name := "fnExactBesideParty", fn := fun _ => fun
  | [d1, d2] => { results := [.lit (.bool false)], args := [d1, d2] }
  | _ => none }
def FnExactBesidePartyWrongFalsely : Prop := fnExactBesidePartyRow.holds Try.pinned (OpenSpec.ofChange fnExactBesidePartyWrong)

/-- 'laws.FnExactTogetherParty': WHATEVER THE INPUT: true; the input reads as it did. -/
def fnExactTogetherPartySpec : ChangeSpec := { name := "fnExactTogetherParty", fn := fun _ => fun
  | [d1, d2] => { results := [.lit (.bool true)], args := [d1, d2] }
  | _ => none }
def fnExactTogetherPartyRow : OpenClaim := { program := "ytkonibmmdinmbaa", sum := "dd43681f51da79957617469f7c0bfca5103a59a63eae7a41ea6fcaa70590a829", func := "loop.example/g01257/laws.FnExactTogetherParty", spec := "fnExactTogetherParty", unfollowed := true, recurses := true, apart := false }
def FnExactTogetherPartySaid : Prop := fnExactTogetherPartyRow.holds Try.pinned (OpenSpec.ofChange fnExactTogetherPartySpec)

/-- ITS FALSE NEIGHBOUR: 'it returns false'. Refute it at one input. -/
def fnExactTogetherPartyWrong : ChangeSpec := { name := "fnExactTogetherParty", fn := fun _ => fun
  | [d1, d2] => { results := [.lit (.bool false)], args := [d1, d2] }
  | _ => none }
def FnExactTogetherPartyWrongFalsely : Prop := fnExactTogetherPartyRow.holds Try.pinned (OpenSpec.ofChange fnExactTogetherPartyWrong)

/-- 'laws.FnExactPartsOfParty': WHATEVER THE INPUT: true; the input reads as it did. -/
def fnExactPartsOfPartySpec : ChangeSpec := { name := "fnExactPartsOfParty", fn := fun _ => fun
  | [d] => { results := [.lit (.bool true)], args := [d] }
  | _ => none }
def fnExactPartsOfPartyRow : OpenClaim := { program := "ytkonibmmdinmbaa", sum := "dd43681f51da79957617469f7c0bfca5103a59a63eae7a41ea6fcaa70590a829", func := "loop.example/g01257/laws.FnExactPartsOfParty", spec := "fnExactPartsOfParty", apart := false }
def FnExactPartsOfPartySaid : Prop := fnExactPartsOfPartyRow.holds Try.pinned (OpenSpec.ofChange fnExactPartsOfPartySpec)

/-- ITS FALSE NEIGHBOUR: 'it returns false'. Refute it at one input. -/
def fnExactPartsOfPartyWrong : ChangeSpec := { name := "fnExactPartsOfParty", fn := fun _ => fun
  | [d] => { results := [.lit (.bool false)], args := [d] }
  | _ => none }
def FnExactPartsOfPartyWrongFalsely : Prop := fnExactPartsOfPartyRow.holds Try.pinned (OpenSpec.ofChange fnExactPartsOfPartyWrong)

/-- 'laws.FnExactLeastParty': WHATEVER THE INPUT: true; the input reads as it did. -/
def fnExactLeastPartySpec : ChangeSpec := { name := "fnExactLeastParty", fn := fun _ => fun
  | [d] => { results := [.lit (.bool true)], args := [d] }
  | _ => none }
def fnExactLeastPartyRow : OpenClaim := { program := "ytkonibmmdinmbaa", sum := "dd43681f51da79957617469f7c0bfca5103a59a63eae7a41ea6fcaa70590a829", func := "loop.example/g01257/laws.FnExactLeastParty", spec := "fnExactLeastParty", unfollowed := true, recurses := true, apart := false }
def FnExactLeastPartySaid : Prop := fnExactLeastPartyRow.holds Try.pinned (OpenSpec.ofChange fnExactLeastPartySpec)

/-- ITS FALSE NEIGHBOUR: 'it returns false'. Refute it at one input. -/
def fnExactLeastPartyWrong : ChangeSpec := { name := "fnExactLeastParty", fn := fun _ => fun
  | [d] => { results := [.lit (.bool false)], args := [d] }
  | _ => none }
def FnExactLeastPartyWrongFalsely : Prop := fnExactLeastPartyRow.holds Try.pinned (OpenSpec.ofChange fnExactLeastPartyWrong)

/-- 'laws.FnExactAreSame': WHATEVER THE INPUT: true; the input reads as it did. -/
def fnExactAreSameSpec : ChangeSpec := { name := "fnExactAreSame", fn := fun _ => fun
  | [d1, d2] => { results := [.lit (.bool true)], args := [d1, d2] }
  | _ => none }
def fnExactAreSameRow : OpenClaim := { program := "ytkonibmmdinmbaa", sum := "dd43681f51da79957617469f7c0bfca5103a59a63eae7a41ea6fcaa70590a829", func := "loop.example/g01257/laws.FnExactAreSame", spec := "fnExactAreSame", unfollowed := true, recurses := true, apart := false }
def FnExactAreSameSaid : Prop := fnExactAreSameRow.holds Try.pinned (OpenSpec.ofChange fnExactAreSameSpec)

/-- ITS FALSE NEIGHBOUR: 'it returns false'. Refute it at one input. -/
def fnExactAreSameWrong : ChangeSpec := { name := "fnExactAreSame", fn := fun _ => fun
  | [d1, d2] => { results := [.lit (.bool false)], args := [d1, d2] }
  | _ => none }
def FnExactAreSameWrongFalsely : Prop := fnExactAreSameRow.holds Try.pinned (OpenSpec.ofChange fnExactAreSameWrong)

/-- 'laws.FnExactCountNamed': WHATEVER THE INPUT: true; the input reads as it did. -/
def fnExactCountNamedSpec : ChangeSpec := { name := "fnExactCountNamed", fn := fun _ => fun
  | [d] => { results := [.lit (.bool true)], args := [d] }
  | _ => none }
def fnExactCountNamedRow : OpenClaim := { program := "ytkonibmmdinmbaa", sum := "dd43681f51da79957617469f7c0bfca5103a59a63eae7a41ea6fcaa70590a829", func := "loop.example/g01257/laws.FnExactCountNamed", spec := "fnExactCountNamed", unfollowed := true, recurses := true, apart := false }
def FnExactCountNamedSaid : Prop := fnExactCountNamedRow.holds Try.pinned (OpenSpec.ofChange fnExactCountNamedSpec)

/-- ITS FALSE NEIGHBOUR: 'it returns false'. Refute it at one input. -/
def fnExactCountNamedWrong : ChangeSpec := { name := "fnExactCountNamed", fn := fun _ => fun
  | [d] => { results := [.lit (.bool false)], args := [d] }
  | _ => none }
def FnExactCountNamedWrongFalsely : Prop := fnExactCountNamedRow.holds Try.pinned (OpenSpec.ofChange fnExactCountNamedWrong)

/-- 'laws.FnExactIsNumbers': WHATEVER THE INPUT: true; the input reads as it did. -/
def fnExactIsNumbersSpec : ChangeSpec := { name := "fnExactIsNumbers", fn := fun _ => fun
  | [d] => { results := [.lit (.bool true)], args := [d] }
  | _ => none }
def fnExactIsNumbersRow : OpenClaim := { program := "ytkonibmmdinmbaa", sum := "dd43681f51da79957617469f7c0bfca5103a59a63eae7a41ea6fcaa70590a829", func := "loop.example/g01257/laws.FnExactIsNumbers", spec := "fnExactIsNumbers", apart := false }
def FnExactIsNumbersSaid : Prop := fnExactIsNumbersRow.holds Try.pinned (OpenSpec.ofChange fnExactIsNumbersSpec)

/-- ITS FALSE NEIGHBOUR: 'it returns false'. Refute it at one input. -/
def fnExactIsNumbersWrong : ChangeSpec := { name := "fnExactIsNumbers", fn := fun _ => fun
  | [d] => { results := [.lit (.bool false)], args := [d] }
  | _ => none }
def FnExactIsNumbersWrongFalsely : Prop := fnExactIsNumbersRow.holds Try.pinned (OpenSpec.ofChange fnExactIsNumbersWrong)

/-- 'laws.FnExactCanBe': WHATEVER THE INPUT: true; the input reads as it did. -/
def fnExactCanBeSpec : ChangeSpec := { name := "fnExactCanBe", fn := fun _ => fun
  | [d] => { results := [.lit (.bool true)], args := [d] }
  | _ => none }
def fnExactCanBeRow : OpenClaim := { program := "ytkonibmmdinmbaa", sum := "dd43681f51da79957617469f7c0bfca5103a59a63eae7a41ea6fcaa70590a829", func := "loop.example/g01257/laws.FnExactCanBe", spec := "fnExactCanBe", unfollowed := true, recurses := true, apart := false }
def FnExactCanBeSaid : Prop := fnExactCanBeRow.holds Try.pinned (OpenSpec.ofChange fnExactCanBeSpec)

/-- ITS FALSE NEIGHBOUR: 'it returns false'. Refute it at one input. -/
def fnExactCanBeWrong : ChangeSpec := { name := "fnExactCanBe", fn := fun _ => fun
  | [d] => { results := [.lit (.bool false)], args := [d] }
  | _ => none }
def FnExactCanBeWrongFalsely : Prop := fnExactCanBeRow.holds Try.pinned (OpenSpec.ofChange fnExactCanBeWrong)

/-- 'laws.FnExactFailsAt': WHATEVER THE INPUT: true; the input reads as it did. -/
def fnExactFailsAtSpec : ChangeSpec := { name := "fnExactFailsAt", fn := fun _ => fun
  | [d] => { results := [.lit (.bool true)], args := [d] }
  | _ => none }
def fnExactFailsAtRow : OpenClaim := { program := "ytkonibmmdinmbaa", sum := "dd43681f51da79957617469f7c0bfca5103a59a63eae7a41ea6fcaa70590a829", func := "loop.example/g01257/laws.FnExactFailsAt", spec := "fnExactFailsAt", unfollowed := true, recurses := true, apart := false }
def FnExactFailsAtSaid : Prop := fnExactFailsAtRow.holds Try.pinned (OpenSpec.ofChange fnExactFailsAtSpec)

/-- ITS FALSE NEIGHBOUR: 'it returns false'. Refute it at one input. -/
def fnExactFailsAtWrong : ChangeSpec := { name := "fnExactFailsAt", fn := fun _ => fun
  | [d] => { results := [.lit (.bool false)], args := [d] }
  | _ => none }
def FnExactFailsAtWrongFalsely : Prop := fnExactFailsAtRow.holds Try.pinned (OpenSpec.ofChange fnExactFailsAtWrong)

/-- 'laws.FnExactSortNumbers': WHATEVER THE INPUT: true; the input reads as it did. -/
def fnExactSortNumbersSpec : ChangeSpec := { name := "fnExactSortNumbers", fn := fun _ => fun
  | [d] => { results := [.lit (.bool true)], args := [d] }
  | _ => none }
def fnExactSortNumbersRow : OpenClaim := { program := "ytkonibmmdinmbaa", sum := "dd43681f51da79957617469f7c0bfca5103a59a63eae7a41ea6fcaa70590a829", func := "loop.example/g01257/laws.FnExactSortNumbers", spec := "fnExactSortNumbers", unfollowed := true, recurses := true, apart := false }
def FnExactSortNumbersSaid : Prop := fnExactSortNumbersRow.holds Try.pinned (OpenSpec.ofChange fnExactSortNumbersSpec)

/-- ITS FALSE NEIGHBOUR: 'it returns false'. Refute it at one input. -/
def fnExactSortNumbersWrong : ChangeSpec := { name := "fnExactSortNumbers", fn := fun _ => fun
  | [d] => { results := [.lit (.bool false)], args := [d] }
  | _ => none }
def FnExactSortNumbersWrongFalsely : Prop := fnExactSortNumbersRow.holds Try.pinned (OpenSpec.ofChange fnExactSortNumbersWrong)

/-- 'laws.FnExactPartyOfNumbers': WHATEVER THE INPUT: true; the input reads as it did. -/
def fnExactPartyOfNumbersSpec : ChangeSpec := { name := "fnExactPartyOfNumbers", fn := fun _ => fun
  | [d] => { results := [.lit (.bool true)], args := [d] }
  | _ => none }
def fnExactPartyOfNumbersRow : OpenClaim := { program := "ytkonibmmdinmbaa", sum := "dd43681f51da79957617469f7c0bfca5103a59a63eae7a41ea6fcaa70590a829", func := "loop.example/g01257/laws.FnExactPartyOfNumbers", spec := "fnExactPartyOfNumbers", unfollowed := true, recurses := true, apart := false }
def FnExactPartyOfNumbersSaid : Prop := fnExactPartyOfNumbersRow.holds Try.pinned (OpenSpec.ofChange fnExactPartyOfNumbersSpec)

/-- ITS FALSE NEIGHBOUR: 'it returns false'. Refute it at one input. -/
def fnExactPartyOfNumbersWrong : ChangeSpec := { name := "fnExactPartyOfNumbers", fn := fun _ => fun
  | [d] => { results := [.lit (.bool false)], args := [d] }
  | _ => none }
def FnExactPartyOfNumbersWrongFalsely : Prop := fnExactPartyOfNumbersRow.holds Try.pinned (OpenSpec.ofChange fnExactPartyOfNumbersWrong)

/-- 'laws.FnExactFirstOfNumbers': WHATEVER THE INPUT: true; the input reads as it did. -/
def fnExactFirstOfNumbersSpec : ChangeSpec := { name := "fnExactFirstOfNumbers", fn := fun _ => fun
  | [d] => { results := [.lit (.bool true)], args := [d] }
  | _ => none }
def fnExactFirstOfNumbersRow : OpenClaim := { program := "ytkonibmmdinmbaa", sum := "dd43681f51da79957617469f7c0bfca5103a59a63eae7a41ea6fcaa70590a829", func := "loop.example/g01257/laws.FnExactFirstOfNumbers", spec := "fnExactFirstOfNumbers", unfollowed := true, recurses := true, apart := false }
def FnExactFirstOfNumbersSaid : Prop := fnExactFirstOfNumbersRow.holds Try.pinned (OpenSpec.ofChange fnExactFirstOfNumbersSpec)

/-- ITS FALSE NEIGHBOUR: 'it returns false'. Refute it at one input. -/
def fnExactFirstOfNumbersWrong : ChangeSpec := { name := "fnExactFirstOfNumbers", fn := fun _ => fun
  | [d] => { results := [.lit (.bool false)], args := [d] }
  | _ => none }
def FnExactFirstOfNumbersWrongFalsely : Prop := fnExactFirstOfNumbersRow.holds Try.pinned (OpenSpec.ofChange fnExactFirstOfNumbersWrong)

/-- 'laws.FnExactCountOfNumbers': WHATEVER THE INPUT: true; the input reads as it did. -/
def fnExactCountOfNumbersSpec : ChangeSpec := { name := "fnExactCountOfNumbers", fn := fun _ => fun
  | [d] => { results := [.lit (.bool true)], args := [d] }
  | _ => none }
def fnExactCountOfNumbersRow : OpenClaim := { program := "ytkonibmmdinmbaa", sum := "dd43681f51da79957617469f7c0bfca5103a59a63eae7a41ea6fcaa70590a829", func := "loop.example/g01257/laws.FnExactCountOfNumbers", spec := "fnExactCountOfNumbers", unfollowed := true, recurses := true, apart := false }
def FnExactCountOfNumbersSaid : Prop := fnExactCountOfNumbersRow.holds Try.pinned (OpenSpec.ofChange fnExactCountOfNumbersSpec)

/-- ITS FALSE NEIGHBOUR: 'it returns false'. Refute it at one input. -/
def fnExactCountOfNumbersWrong : ChangeSpec := { name := "fnExactCountOfNumbers", fn := fun _ => fun
  | [d] => { results := [.lit (.bool false)], args := [d] }
  | _ => none }
def FnExactCountOfNumbersWrongFalsely : Prop := fnExactCountOfNumbersRow.holds Try.pinned (OpenSpec.ofChange fnExactCountOfNumbersWrong)

/-- 'laws.FnExactAllNumbers': WHATEVER THE INPUT: true; the input reads as it did. -/
def fnExactAllNumbersSpec : ChangeSpec := { name := "fnExactAllNumbers", fn := fun _ => fun
  | [d] => { results := [.lit (.bool true)], args := [d] }
  | _ => none }
def fnExactAllNumbersRow : OpenClaim := { program := "ytkonibmmdinmbaa", sum := "dd43681f51da79957617469f7c0bfca5103a59a63eae7a41ea6fcaa70590a829", func := "loop.example/g01257/laws.FnExactAllNumbers", spec := "fnExactAllNumbers", unfollowed := true, recurses := true, apart := false }
def FnExactAllNumbersSaid : Prop := fnExactAllNumbersRow.holds Try.pinned (OpenSpec.ofChange fnExactAllNumbersSpec)

/-- ITS FALSE NEIGHBOUR: 'it returns false'. Refute it at one input. -/
def fnExactAllNumbersWrong : ChangeSpec := { name := "fnExactAllNumbers", fn := fun _ => fun
  | [d] => { results := [.lit (.bool false)], args := [d] }
  | _ => none }
def FnExactAllNumbersWrongFalsely : Prop := fnExactAllNumbersRow.holds Try.pinned (OpenSpec.ofChange fnExactAllNumbersWrong)

/-- 'laws.FnExactCountNumbers': WHATEVER THE INPUT: true; the input reads as it did. -/
def fnExactCountNumbersSpec : ChangeSpec := { name := "fnExactCountNumbers", fn := fun _ => fun
  | [d] => { results := [.lit (.bool true)], args := [d] }
  | _ => none }
def fnExactCountNumbersRow : OpenClaim := { program := "ytkonibmmdinmbaa", sum := "dd43681f51da79957617469f7c0bfca5103a59a63eae7a41ea6fcaa70590a829", func := "loop.example/g01257/laws.FnExactCountNumbers", spec := "fnExactCountNumbers", unfollowed := true, recurses := true, apart := false }
def FnExactCountNumbersSaid : Prop := fnExactCountNumbersRow.holds Try.pinned (OpenSpec.ofChange fnExactCountNumbersSpec)

/-- ITS FALSE NEIGHBOUR: 'it returns false'. Refute it at one input. -/
def fnExactCountNumbersWrong : ChangeSpec := { name := "fnExactCountNumbers", fn := fun _ => fun
  | [d] => { results := [.lit (.bool false)], args := [d] }
  | _ => none }
def FnExactCountNumbersWrongFalsely : Prop := fnExactCountNumbersRow.holds Try.pinned (OpenSpec.ofChange fnExactCountNumbersWrong)

/-- 'laws.FnExactOtherNumbers': WHATEVER THE INPUT: true; the input reads as it did. -/
def fnExactOtherNumbersSpec : ChangeSpec := { name := "fnExactOtherNumbers", fn := fun _ => fun
  | [d] => { results := [.lit (.bool true)], args := [d] }
  | _ => none }
def fnExactOtherNumbersRow : OpenClaim := { program := "ytkonibmmdinmbaa", sum := "dd43681f51da79957617469f7c0bfca5103a59a63eae7a41ea6fcaa70590a829", func := "loop.example/g01257/laws.FnExactOtherNumbers", spec := "fnExactOtherNumbers", apart := false }
def FnExactOtherNumbersSaid : Prop := fnExactOtherNumbersRow.holds Try.pinned (OpenSpec.ofChange fnExactOtherNumbersSpec)

/-- ITS FALSE NEIGHBOUR: 'it returns false'. Refute it at one input. -/
def fnExactOtherNumbersWrong : ChangeSpec := { name := "fnExactOtherNumbers", fn := fun _ => fun
  | [d] => { results := [.lit (.bool false)], args := [d] }
  | _ => none }
def FnExactOtherNumbersWrongFalsely : Prop := fnExactOtherNumbersRow.holds Try.pinned (OpenSpec.ofChange fnExactOtherNumbersWrong)

/-- 'laws.FnExactExchangePairs': WHATEVER THE INPUT: true; the input reads as it did. -/
def fnExactExchangePairsSpec : ChangeSpec := { name := "fnExactExchangePairs", fn := fun _ => fun
  | [d1, d2, d3, d4, d5] => { results := [.lit (.bool true)], args := [d1, d2, d3, d4, d5] }
  | _ => none }
def fnExactExchangePairsRow : OpenClaim := { program := "ytkonibmmdinmbaa", sum := "dd43681f51da79957617469f7c0bfca5103a59a63eae7a41ea6fcaa70590a829", func := "loop.example/g01257/laws.FnExactExchangePairs", spec := "fnExactExchangePairs", unfollowed := true, recurses := true, apart := false }
def FnExactExchangePairsSaid : Prop := fnExactExchangePairsRow.holds Try.pinned (OpenSpec.ofChange fnExactExchangePairsSpec)

/-- ITS FALSE NEIGHBOUR: 'it returns false'. Refute it at one input. -/
def fnExactExchangePairsWrong : ChangeSpec := { name := "fnExactExchangePairs", fn := fun _ => fun
  | [d1, d2, d3, d4, d5] => { results := [.lit (.bool false)], args := [d1, d2, d3, d4, d5] }
  | _ => none }
def FnExactExchangePairsWrongFalsely : Prop := fnExactExchangePairsRow.holds Try.pinned (OpenSpec.ofChange fnExactExchangePairsWrong)

/-- 'laws.FnExactAllExchanges': WHATEVER THE INPUT: true; the input reads as it did. -/
def fnExactAllExchangesSpec : ChangeSpec := { name := "fnExactAllExchanges", fn := fun _ => fun
  | [d] => { results := [.lit (.bool true)], args := [d] }
  | _ => none }
def fnExactAllExchangesRow : OpenClaim := { program := "ytkonibmmdinmbaa", sum := "dd43681f51da79957617469f7c0bfca5103a59a63eae7a41ea6fcaa70590a829", func := "loop.example/g01257/laws.FnExactAllExchanges", spec := "fnExactAllExchanges", unfollowed := true, recurses := true, apart := false }
def FnExactAllExchangesSaid : Prop := fnExactAllExchangesRow.holds Try.pinned (OpenSpec.ofChange fnExactAllExchangesSpec)

/-- ITS FALSE NEIGHBOUR: 'it returns false'. Refute it at one input. -/
def fnExactAllExchangesWrong : ChangeSpec := { name := "fnExactAllExchanges", fn := fun _ => fun
  | [d] => { results := [.lit (.bool false)], args := [d] }
  | _ => none }
def FnExactAllExchangesWrongFalsely : Prop := fnExactAllExchangesRow.holds Try.pinned (OpenSpec.ofChange fnExactAllExchangesWrong)

/-- 'laws.FnExactTwoAlike': WHATEVER THE INPUT: true; the input reads as it did. -/
def fnExactTwoAlikeSpec : ChangeSpec := { name := "fnExactTwoAlike", fn := fun _ => fun
  | [d] => { results := [.lit (.bool true)], args := [d] }
  | _ => none }
def fnExactTwoAlikeRow : OpenClaim := { program := "ytkonibmmdinmbaa", sum := "dd43681f51da79957617469f7c0bfca5103a59a63eae7a41ea6fcaa70590a829", func := "loop.example/g01257/laws.FnExactTwoAlike", spec := "fnExactTwoAlike", apart := false }
def FnExactTwoAlikeSaid : Prop := fnExactTwoAlikeRow.holds Try.pinned (OpenSpec.ofChange fnExactTwoAlikeSpec)

/-- ITS FALSE NEIGHBOUR: 'it returns false'. Refute it at one input. -/
def fnExactTwoAlikeWrong : ChangeSpec := { name := "fnExactTwoAlike", fn := fun _ => fun
  | [d] => { results := [.lit (.bool false)], args := [d] }
  | _ => none }
def FnExactTwoAlikeWrongFalsely : Prop := fnExactTwoAlikeRow.holds Try.pinned (OpenSpec.ofChange fnExactTwoAlikeWrong)

/-- 'laws.FnExactHangTogether': WHATEVER THE INPUT: true; the input reads as it did. -/
def fnExactHangTogetherSpec : ChangeSpec := { name := "fnExactHangTogether", fn := fun _ => fun
  | [d] => { results := [.lit (.bool true)], args := [d] }
  | _ => none }
def fnExactHangTogetherRow : OpenClaim := { program := "ytkonibmmdinmbaa", sum := "dd43681f51da79957617469f7c0bfca5103a59a63eae7a41ea6fcaa70590a829", func := "loop.example/g01257/laws.FnExactHangTogether", spec := "fnExactHangTogether", unfollowed := true, recurses := true, apart := false }
def FnExactHangTogetherSaid : Prop := fnExactHangTogetherRow.holds Try.pinned (OpenSpec.ofChange fnExactHangTogetherSpec)

/-- ITS FALSE NEIGHBOUR: 'it returns false'. Refute it at one input. -/
def fnExactHangTogetherWrong : ChangeSpec := { name := "fnExactHangTogether", fn := fun _ => fun
  | [d] => { results := [.lit (.bool false)], args := [d] }
  | _ => none }
def FnExactHangTogetherWrongFalsely : Prop := fnExactHangTogetherRow.holds Try.pinned (OpenSpec.ofChange fnExactHangTogetherWrong)

/-- 'laws.FnExactTreeOfNumbers': WHATEVER THE INPUT: true; the input reads as it did. -/
def fnExactTreeOfNumbersSpec : ChangeSpec := { name := "fnExactTreeOfNumbers", fn := fun _ => fun
  | [d] => { results := [.lit (.bool true)], args := [d] }
  | _ => none }
def fnExactTreeOfNumbersRow : OpenClaim := { program := "ytkonibmmdinmbaa", sum := "dd43681f51da79957617469f7c0bfca5103a59a63eae7a41ea6fcaa70590a829", func := "loop.example/g01257/laws.FnExactTreeOfNumbers", spec := "fnExactTreeOfNumbers", unfollowed := true, recurses := true, apart := false }
def FnExactTreeOfNumbersSaid : Prop := fnExactTreeOfNumbersRow.holds Try.pinned (OpenSpec.ofChange fnExactTreeOfNumbersSpec)

/-- ITS FALSE NEIGHBOUR: 'it returns false'. Refute it at one input. -/
def fnExactTreeOfNumbersWrong : ChangeSpec := { name := "fnExactTreeOfNumbers", fn := fun _ => fun
  | [d] => { results := [.lit (.bool false)], args := [d] }
  | _ => none }
def FnExactTreeOfNumbersWrongFalsely : Prop := fnExactTreeOfNumbersRow.holds Try.pinned (OpenSpec.ofChange fnExactTreeOfNumbersWrong)

/-- 'laws.FnExactIsOnly': WHATEVER THE INPUT: true; the input reads as it did. -/
def fnExactIsOnlySpec : ChangeSpec := { name := "fnExactIsOnly", fn := fun _ => fun
  | [d] => { results := [.lit (.bool true)], args := [d] }
  | _ => none }
def fnExactIsOnlyRow : OpenClaim := { program := "ytkonibmmdinmbaa", sum := "dd43681f51da79957617469f7c0bfca5103a59a63eae7a41ea6fcaa70590a829", func := "loop.example/g01257/laws.FnExactIsOnly", spec := "fnExactIsOnly", unfollowed := true, recurses := true, apart := false }
def FnExactIsOnlySaid : Prop := fnExactIsOnlyRow.holds Try.pinned (OpenSpec.ofChange fnExactIsOnlySpec)

/-- ITS FALSE NEIGHBOUR: 'it returns false'. Refute it at one input. -/
def fnExactIsOnlyWrong : ChangeSpec := { name := "fnExactIsOnly", fn := fun _ => fun
  | [d] => { results := [.lit (.bool false)], args := [d] }
  | _ => none }
def FnExactIsOnlyWrongFalsely : Prop := fnExactIsOnlyRow.holds Try.pinned (OpenSpec.ofChange fnExactIsOnlyWrong)

/- THE SECOND FORM. 'bulk': how many values and letters a reading holds, each counted each time it is reached (what is shared counts as often as it is met; a slice's spare places count too). A statement '..UptoSaid' is the law's where the arguments, and the package variables that the reading takes, are together of bulk at most 1048576: NARROWER than '..Said'. Prove '..Said' where nothing that the law and all that it calls make is longer than what came in: it says more and counts as full. Else prove '..UptoSaid'. A law counts once. -/
mutual
def uptoBulk {H : Type} : DataW H → Nat
  | .lit (.string bytes) => bytes.length + 1
  | .lit _ => 1
  | .nil => 1
  | .ptr d => uptoBulk d + 1
  | .slice elems spare => uptoBulkAll elems + uptoBulkAll spare + 1
  | .agg parts => uptoBulkAll parts + 1
  | .iface _ d => uptoBulk d + 1
  | .map entries => uptoBulkEntries entries + 1
  | .held _ => 1
def uptoBulkAll {H : Type} : List (DataW H) → Nat
  | [] => 0
  | d :: r => uptoBulk d + uptoBulkAll r
def uptoBulkEntries {H : Type} : List (Lit × DataW H) → Nat
  | [] => 0
  | x :: r => uptoBulkEntry x + uptoBulkEntries r
def uptoBulkEntry {H : Type} : Lit × DataW H → Nat
  | (.string bytes, d) => bytes.length + uptoBulk d + 1
  | (_, d) => uptoBulk d + 1
 end
def uptoSmall : (H : Type) → List (DataW H) → Bool := fun _ ds => decide (uptoBulkAll ds ≤ 1048576)
def OpenSpec.upto (s : _root_.Go.ChangeSpec) : _root_.Go.OpenSpec := { _root_.Go.OpenSpec.ofChange s with cond := some uptoSmall }

/-- 'laws.FnExactChooseParty', WHERE WHAT IT READS IS OF BULK AT MOST 1048576: true; the input reads as it did. -/
def fnExactChoosePartyUptoRow : OpenClaim := { program := "ytkonibmmdinmbaa", sum := "dd43681f51da79957617469f7c0bfca5103a59a63eae7a41ea6fcaa70590a829", func := "loop.example/g01257/laws.FnExactChooseParty", spec := "fnExactChooseParty", apart := false, narrowed := true }
def FnExactChoosePartyUptoSaid : Prop := fnExactChoosePartyUptoRow.holds Try.pinned (OpenSpec.upto fnExactChoosePartySpec)

/-- 'laws.FnExactRenameParty', WHERE WHAT IT READS IS OF BULK AT MOST 1048576: true; the input reads as it did. -/
def fnExactRenamePartyUptoRow : OpenClaim := { program := "ytkonibmmdinmbaa", sum := "dd43681f51da79957617469f7c0bfca5103a59a63eae7a41ea6fcaa70590a829", func := "loop.example/g01257/laws.FnExactRenameParty", spec := "fnExactRenameParty", unfollowed := true, recurses := true, apart := false, narrowed := true }
def FnExactRenamePartyUptoSaid : Prop := fnExactRenamePartyUptoRow.holds Try.pinned (OpenSpec.upto fnExactRenamePartySpec)

/-- 'laws.FnExactBesideParty', WHERE WHAT IT READS IS OF BULK AT MOST 1048576: true; the input reads as it did. -/
def fnExactBesidePartyUptoRow : OpenClaim := { program := "ytkonibmmdinmbaa", sum := "dd43681f51da79957617469f7c0bfca5103a59a63eae7a41ea6fcaa70590a829", func := "loop.example/g01257/laws.FnExactBesideParty", spec := "fnExactBesideParty", apart := false, narrowed := true }
def FnExactBesidePartyUptoSaid : Prop := fnExactBesidePartyUptoRow.holds Try.pinned (OpenSpec.upto fnExactBesidePartySpec)

/-- 'laws.FnExactTogetherParty', WHERE WHAT IT READS IS OF BULK AT MOST 1048576: true; the input reads as it did. -/
def fnExactTogetherPartyUptoRow : OpenClaim := { program := "ytkonibmmdinmbaa", sum := "dd43681f51da79957617469f7c0bfca5103a59a63eae7a41ea6fcaa70590a829", func := "loop.example/g01257/laws.FnExactTogetherParty", spec := "fnExactTogetherParty", unfollowed := true, recurses := true, apart := false, narrowed := true }
def FnExactTogetherPartyUptoSaid : Prop := fnExactTogetherPartyUptoRow.holds Try.pinned (OpenSpec.upto fnExactTogetherPartySpec)

/-- 'laws.FnExactPartsOfParty', WHERE WHAT IT READS IS OF BULK AT MOST 1048576: true; the input reads as it did. -/
def fnExactPartsOfPartyUptoRow : OpenClaim := { program := "ytkonibmmdinmbaa", sum := "dd43681f51da79957617469f7c0bfca5103a59a63eae7a41ea6fcaa70590a829", func := "loop.example/g01257/laws.FnExactPartsOfParty", spec := "fnExactPartsOfParty", apart := false, narrowed := true }
def FnExactPartsOfPartyUptoSaid : Prop := fnExactPartsOfPartyUptoRow.holds Try.pinned (OpenSpec.upto fnExactPartsOfPartySpec)

/-- 'laws.FnExactLeastParty', WHERE WHAT IT READS IS OF BULK AT MOST 1048576: true; the input reads as it did. -/
def fnExactLeastPartyUptoRow : OpenClaim := { program := "ytkonibmmdinmbaa", sum := "dd43681f51da79957617469f7c0bfca5103a59a63eae7a41ea6fcaa70590a829", func := "loop.example/g01257/laws.FnExactLeastParty", spec := "fnExactLeastParty", unfollowed := true, recurses := true, apart := false, narrowed := true }
def FnExactLeastPartyUptoSaid : Prop := fnExactLeastPartyUptoRow.holds Try.pinned (OpenSpec.upto fnExactLeastPartySpec)

/-- 'laws.FnExactAreSame', WHERE WHAT IT READS IS OF BULK AT MOST 1048576: true; the input reads as it did. -/
def fnExactAreSameUptoRow : OpenClaim := { program := "ytkonibmmdinmbaa", sum := "dd43681f51da79957617469f7c0bfca5103a59a63eae7a41ea6fcaa70590a829", func := "loop.example/g01257/laws.FnExactAreSame", spec := "fnExactAreSame", unfollowed := true, recurses := true, apart := false, narrowed := true }
def FnExactAreSameUptoSaid : Prop := fnExactAreSameUptoRow.holds Try.pinned (OpenSpec.upto fnExactAreSameSpec)

/-- 'laws.FnExactCountNamed', WHERE WHAT IT READS IS OF BULK AT MOST 1048576: true; the input reads as it did. -/
def fnExactCountNamedUptoRow : OpenClaim := { program := "ytkonibmmdinmbaa", sum := "dd43681f51da79957617469f7c0bfca5103a59a63eae7a41ea6fcaa70590a829", func := "loop.example/g01257/laws.FnExactCountNamed", spec := "fnExactCountNamed", unfollowed := true, recurses := true, apart := false, narrowed := true }
def FnExactCountNamedUptoSaid : Prop := fnExactCountNamedUptoRow.holds Try.pinned (OpenSpec.upto fnExactCountNamedSpec)

/-- 'laws.FnExactIsNumbers', WHERE WHAT IT READS IS OF BULK AT MOST 1048576: true; the input reads as it did. -/
def fnExactIsNumbersUptoRow : OpenClaim := { program := "ytkonibmmdinmbaa", sum := "dd43681f51da79957617469f7c0bfca5103a59a63eae7a41ea6fcaa70590a829", func := "loop.example/g01257/laws.FnExactIsNumbers", spec := "fnExactIsNumbers", apart := false, narrowed := true }
def FnExactIsNumbersUptoSaid : Prop := fnExactIsNumbersUptoRow.holds Try.pinned (OpenSpec.upto fnExactIsNumbersSpec)

/-- 'laws.FnExactCanBe', WHERE WHAT IT READS IS OF BULK AT MOST 1048576: true; the input reads as it did. -/
def fnExactCanBeUptoRow : OpenClaim := { program := "ytkonibmmdinmbaa", sum := "dd43681f51da79957617469f7c0bfca5103a59a63eae7a41ea6fcaa70590a829", func := "loop.example/g01257/laws.FnExactCanBe", spec := "fnExactCanBe", unfollowed := true, recurses := true, apart := false, narrowed := true }
def FnExactCanBeUptoSaid : Prop := fnExactCanBeUptoRow.holds Try.pinned (OpenSpec.upto fnExactCanBeSpec)

/-- 'laws.FnExactFailsAt', WHERE WHAT IT READS IS OF BULK AT MOST 1048576: true; the input reads as it did. -/
def fnExactFailsAtUptoRow : OpenClaim := { program := "ytkonibmmdinmbaa", sum := "dd43681f51da79957617469f7c0bfca5103a59a63eae7a41ea6fcaa70590a829", func := "loop.example/g01257/laws.FnExactFailsAt", spec := "fnExactFailsAt", unfollowed := true, recurses := true, apart := false, narrowed := true }
def FnExactFailsAtUptoSaid : Prop := fnExactFailsAtUptoRow.holds Try.pinned (OpenSpec.upto fnExactFailsAtSpec)

/-- 'laws.FnExactSortNumbers', WHERE WHAT IT READS IS OF BULK AT MOST 1048576: true; the input reads as it did. -/
def fnExactSortNumbersUptoRow : OpenClaim := { program := "ytkonibmmdinmbaa", sum := "dd43681f51da79957617469f7c0bfca5103a59a63eae7a41ea6fcaa70590a829", func := "loop.example/g01257/laws.FnExactSortNumbers", spec := "fnExactSortNumbers", unfollowed := true, recurses := true, apart := false, narrowed := true }
def FnExactSortNumbersUptoSaid : Prop := fnExactSortNumbersUptoRow.holds Try.pinned (OpenSpec.upto fnExactSortNumbersSpec)

/-- 'laws.FnExactPartyOfNumbers', WHERE WHAT IT READS IS OF BULK AT MOST 1048576: true; the input reads as it did. -/
def fnExactPartyOfNumbersUptoRow : OpenClaim := { program := "ytkonibmmdinmbaa", sum := "dd43681f51da79957617469f7c0bfca5103a59a63eae7a41ea6fcaa70590a829", func := "loop.example/g01257/laws.FnExactPartyOfNumbers", spec := "fnExactPartyOfNumbers", unfollowed := true, recurses := true, apart := false, narrowed := true }
def FnExactPartyOfNumbersUptoSaid : Prop := fnExactPartyOfNumbersUptoRow.holds Try.pinned (OpenSpec.upto fnExactPartyOfNumbersSpec)

/-- 'laws.FnExactFirstOfNumbers', WHERE WHAT IT READS IS OF BULK AT MOST 1048576: true; the input reads as it did. -/
def fnExactFirstOfNumbersUptoRow : OpenClaim := { program := "ytkonibmmdinmbaa", sum := "dd43681f51da79957617469f7c0bfca5103a59a63eae7a41ea6fcaa70590a829", func := "loop.example/g01257/laws.FnExactFirstOfNumbers", spec := "fnExactFirstOfNumbers", unfollowed := true, recurses := true, apart := false, narrowed := true }
def FnExactFirstOfNumbersUptoSaid : Prop := fnExactFirstOfNumbersUptoRow.holds Try.pinned (OpenSpec.upto fnExactFirstOfNumbersSpec)

/-- 'laws.FnExactCountOfNumbers', WHERE WHAT IT READS IS OF BULK AT MOST 1048576: true; the input reads as it did. -/
def fnExactCountOfNumbersUptoRow : OpenClaim := { program := "ytkonibmmdinmbaa", sum := "dd43681f51da79957617469f7c0bfca5103a59a63eae7a41ea6fcaa70590a829", func := "loop.example/g01257/laws.FnExactCountOfNumbers", spec := "fnExactCountOfNumbers", unfollowed := true, recurses := true, apart := false, narrowed := true }
def FnExactCountOfNumbersUptoSaid : Prop := fnExactCountOfNumbersUptoRow.holds Try.pinned (OpenSpec.upto fnExactCountOfNumbersSpec)

/-- 'laws.FnExactAllNumbers', WHERE WHAT IT READS IS OF BULK AT MOST 1048576: true; the input reads as it did. -/
def fnExactAllNumbersUptoRow : OpenClaim := { program := "ytkonibmmdinmbaa", sum := "dd43681f51da79957617469f7c0bfca5103a59a63eae7a41ea6fcaa70590a829", func := "loop.example/g01257/laws.FnExactAllNumbers", spec := "fnExactAllNumbers", unfollowed := true, recurses := true, apart := false, narrowed := true }
def FnExactAllNumbersUptoSaid : Prop := fnExactAllNumbersUptoRow.holds Try.pinned (OpenSpec.upto fnExactAllNumbersSpec)

/-- 'laws.FnExactCountNumbers', WHERE WHAT IT READS IS OF BULK AT MOST 1048576: true; the input reads as it did. -/
def fnExactCountNumbersUptoRow : OpenClaim := { program := "ytkonibmmdinmbaa", sum := "dd43681f51da79957617469f7c0bfca5103a59a63eae7a41ea6fcaa70590a829", func := "loop.example/g01257/laws.FnExactCountNumbers", spec := "fnExactCountNumbers", unfollowed := true, recurses := true, apart := false, narrowed := true }
def FnExactCountNumbersUptoSaid : Prop := fnExactCountNumbersUptoRow.holds Try.pinned (OpenSpec.upto fnExactCountNumbersSpec)

/-- 'laws.FnExactOtherNumbers', WHERE WHAT IT READS IS OF BULK AT MOST 1048576: true; the input reads as it did. -/
def fnExactOtherNumbersUptoRow : OpenClaim := { program := "ytkonibmmdinmbaa", sum := "dd43681f51da79957617469f7c0bfca5103a59a63eae7a41ea6fcaa70590a829", func := "loop.example/g01257/laws.FnExactOtherNumbers", spec := "fnExactOtherNumbers", apart := false, narrowed := true }
def FnExactOtherNumbersUptoSaid : Prop := fnExactOtherNumbersUptoRow.holds Try.pinned (OpenSpec.upto fnExactOtherNumbersSpec)

/-- 'laws.FnExactExchangePairs', WHERE WHAT IT READS IS OF BULK AT MOST 1048576: true; the input reads as it did. -/
def fnExactExchangePairsUptoRow : OpenClaim := { program := "ytkonibmmdinmbaa", sum := "dd43681f51da79957617469f7c0bfca5103a59a63eae7a41ea6fcaa70590a829", func := "loop.example/g01257/laws.FnExactExchangePairs", spec := "fnExactExchangePairs", unfollowed := true, recurses := true, apart := false, narrowed := true }
def FnExactExchangePairsUptoSaid : Prop := fnExactExchangePairsUptoRow.holds Try.pinned (OpenSpec.upto fnExactExchangePairsSpec)

/-- 'laws.FnExactAllExchanges', WHERE WHAT IT READS IS OF BULK AT MOST 1048576: true; the input reads as it did. -/
def fnExactAllExchangesUptoRow : OpenClaim := { program := "ytkonibmmdinmbaa", sum := "dd43681f51da79957617469f7c0bfca5103a59a63eae7a41ea6fcaa70590a829", func := "loop.example/g01257/laws.FnExactAllExchanges", spec := "fnExactAllExchanges", unfollowed := true, recurses := true, apart := false, narrowed := true }
def FnExactAllExchangesUptoSaid : Prop := fnExactAllExchangesUptoRow.holds Try.pinned (OpenSpec.upto fnExactAllExchangesSpec)

/-- 'laws.FnExactTwoAlike', WHERE WHAT IT READS IS OF BULK AT MOST 1048576: true; the input reads as it did. -/
def fnExactTwoAlikeUptoRow : OpenClaim := { program := "ytkonibmmdinmbaa", sum := "dd43681f51da79957617469f7c0bfca5103a59a63eae7a41ea6fcaa70590a829", func := "loop.example/g01257/laws.FnExactTwoAlike", spec := "fnExactTwoAlike", apart := false, narrowed := true }
def FnExactTwoAlikeUptoSaid : Prop := fnExactTwoAlikeUptoRow.holds Try.pinned (OpenSpec.upto fnExactTwoAlikeSpec)

/-- 'laws.FnExactHangTogether', WHERE WHAT IT READS IS OF BULK AT MOST 1048576: true; the input reads as it did. -/
def fnExactHangTogetherUptoRow : OpenClaim := { program := "ytkonibmmdinmbaa", sum := "dd43681f51da79957617469f7c0bfca5103a59a63eae7a41ea6fcaa70590a829", func := "loop.example/g01257/laws.FnExactHangTogether", spec := "fnExactHangTogether", unfollowed := true, recurses := true, apart := false, narrowed := true }
def FnExactHangTogetherUptoSaid : Prop := fnExactHangTogetherUptoRow.holds Try.pinned (OpenSpec.upto fnExactHangTogetherSpec)

/-- 'laws.FnExactTreeOfNumbers', WHERE WHAT IT READS IS OF BULK AT MOST 1048576: true; the input reads as it did. -/
def fnExactTreeOfNumbersUptoRow : OpenClaim := { program := "ytkonibmmdinmbaa", sum := "dd43681f51da79957617469f7c0bfca5103a59a63eae7a41ea6fcaa70590a829", func := "loop.example/g01257/laws.FnExactTreeOfNumbers", spec := "fnExactTreeOfNumbers", unfollowed := true, recurses := true, apart := false, narrowed := true }
def FnExactTreeOfNumbersUptoSaid : Prop := fnExactTreeOfNumbersUptoRow.holds Try.pinned (OpenSpec.upto fnExactTreeOfNumbersSpec)

/-- 'laws.FnExactIsOnly', WHERE WHAT IT READS IS OF BULK AT MOST 1048576: true; the input reads as it did. -/
def fnExactIsOnlyUptoRow : OpenClaim := { program := "ytkonibmmdinmbaa", sum := "dd43681f51da79957617469f7c0bfca5103a59a63eae7a41ea6fcaa70590a829", func := "loop.example/g01257/laws.FnExactIsOnly", spec := "fnExactIsOnly", unfollowed := true, recurses := true, apart := false, narrowed := true }
def FnExactIsOnlyUptoSaid : Prop := fnExactIsOnlyUptoRow.holds Try.pinned (OpenSpec.upto fnExactIsOnlySpec)

end Rows
end Go.Proofs.Ytkonibmmdinmbaa
