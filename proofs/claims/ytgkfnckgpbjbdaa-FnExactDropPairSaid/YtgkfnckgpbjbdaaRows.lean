/-
  No cell of these rows narrows 'for every input' (looked for: loops, veiled, ifaces, maps, wideKeys, modest, calm, conditions, laid).
  DERIVED. THE GIVEN ROWS OF THIS SEAT. 17 by the template 'for every input the law returns true; each argument reads behind the call as it read before'; 0 by the template 'total and deterministic' (their statements: YtgkfnckgpbjbdaaTotals.lean).
  GIVEN WITH THE SEED: the statements are not yours to turn. If you find one false, say at which input.
  Laid BY PROGRAM, IN A SANDBOX (cutbox-rows.mjs): the forced cells as the released guide's own fill.sh prints them over the translation 6f3a8f8f2906f718… (all of the seat's roots in one cut). By AI agents, Wed Nov 11 2026. No macro, syntax, notation, axiom, sorry.
-/
import Derived.Test.YtgkfnckgpbjbdaaChecked
import GoSem.Claim
import GoSem.ClaimJoined
import GoSem.ClaimMapViews
import Derived.JoinedTies
import Derived.KernelRfl
namespace Go.Proofs.Ytgkfnckgpbjbdaa
/- THE CELL 'sum', in the pinned program and in every row, IS THE sha256 OF THE DUMP (.gsa) THAT YtgkfnckgpbjbdaaProg.lean LOADS. Nothing in Lean hashes anything: it is a label: what it is worth is what the hold of that sum in a sandbox is worth. -/
noncomputable def Try.pinned : Pinned := { name := "ytgkfnckgpbjbdaa", sum := "6f3a8f8f2906f7185c434d71d368d457eefeffc1c6e191f6989fd42200b659eb", checked := Try.checked }
namespace Rows
def none {H : Type} : Left H := { results := [], args := [] }

/-- 'laws.FnExactIsParty': WHATEVER THE INPUT: true; the input reads as it did. -/
def fnExactIsPartySpec : ChangeSpec := { name := "fnExactIsParty", fn := fun _ => fun
  | [d] => { results := [.lit (.bool true)], args := [d] }
  | _ => none }
def fnExactIsPartyRow : OpenClaim := { program := "ytgkfnckgpbjbdaa", sum := "6f3a8f8f2906f7185c434d71d368d457eefeffc1c6e191f6989fd42200b659eb", func := "loop.example/g01257/laws.FnExactIsParty", spec := "fnExactIsParty", apart := false }
def FnExactIsPartySaid : Prop := fnExactIsPartyRow.holds Try.pinned (OpenSpec.ofChange fnExactIsPartySpec)

/-- ITS FALSE NEIGHBOUR: 'it returns false'. Refute it at one input. -/
def fnExactIsPartyWrong : ChangeSpec := { name := "fnExactIsParty", fn := fun _ => fun
  | [d] => { results := [.lit (.bool false)], args := [d] }
  | _ => none }
def FnExactIsPartyWrongFalsely : Prop := fnExactIsPartyRow.holds Try.pinned (OpenSpec.ofChange fnExactIsPartyWrong)

/-- 'laws.FnExactEmptyParty': WHATEVER THE INPUT: true; the input reads as it did. -/
def fnExactEmptyPartySpec : ChangeSpec := { name := "fnExactEmptyParty", fn := fun _ => fun
  | [d] => { results := [.lit (.bool true)], args := [d] }
  | _ => none }
def fnExactEmptyPartyRow : OpenClaim := { program := "ytgkfnckgpbjbdaa", sum := "6f3a8f8f2906f7185c434d71d368d457eefeffc1c6e191f6989fd42200b659eb", func := "loop.example/g01257/laws.FnExactEmptyParty", spec := "fnExactEmptyParty", apart := false }
def FnExactEmptyPartySaid : Prop := fnExactEmptyPartyRow.holds Try.pinned (OpenSpec.ofChange fnExactEmptyPartySpec)

/-- ITS FALSE NEIGHBOUR: 'it returns false'. Refute it at one input. -/
def fnExactEmptyPartyWrong : ChangeSpec := { name := "fnExactEmptyParty", fn := fun _ => fun
  | [d] => { results := [.lit (.bool false)], args := [d] }
  | _ => none }
def FnExactEmptyPartyWrongFalsely : Prop := fnExactEmptyPartyRow.holds Try.pinned (OpenSpec.ofChange fnExactEmptyPartyWrong)

/-- 'laws.FnExactFullParty': WHATEVER THE INPUT: true; the input reads as it did. -/
def fnExactFullPartySpec : ChangeSpec := { name := "fnExactFullParty", fn := fun _ => fun
  | [d] => { results := [.lit (.bool true)], args := [d] }
  | _ => none }
def fnExactFullPartyRow : OpenClaim := { program := "ytgkfnckgpbjbdaa", sum := "6f3a8f8f2906f7185c434d71d368d457eefeffc1c6e191f6989fd42200b659eb", func := "loop.example/g01257/laws.FnExactFullParty", spec := "fnExactFullParty", unfollowed := true, recurses := true, apart := false }
def FnExactFullPartySaid : Prop := fnExactFullPartyRow.holds Try.pinned (OpenSpec.ofChange fnExactFullPartySpec)

/-- ITS FALSE NEIGHBOUR: 'it returns false'. Refute it at one input. -/
def fnExactFullPartyWrong : ChangeSpec := { name := "fnExactFullParty", fn := fun _ => fun
  | [d] => { results := [.lit (.bool false)], args := [d] }
  | _ => none }
def FnExactFullPartyWrongFalsely : Prop := fnExactFullPartyRow.holds Try.pinned (OpenSpec.ofChange fnExactFullPartyWrong)

/-- 'laws.FnExactAreFriends': WHATEVER THE INPUT: true; the input reads as it did. -/
def fnExactAreFriendsSpec : ChangeSpec := { name := "fnExactAreFriends", fn := fun _ => fun
  | [d1, d2, d3] => { results := [.lit (.bool true)], args := [d1, d2, d3] }
  | _ => none }
def fnExactAreFriendsRow : OpenClaim := { program := "ytgkfnckgpbjbdaa", sum := "6f3a8f8f2906f7185c434d71d368d457eefeffc1c6e191f6989fd42200b659eb", func := "loop.example/g01257/laws.FnExactAreFriends", spec := "fnExactAreFriends", apart := false }
def FnExactAreFriendsSaid : Prop := fnExactAreFriendsRow.holds Try.pinned (OpenSpec.ofChange fnExactAreFriendsSpec)

/-- ITS FALSE NEIGHBOUR: 'it returns false'. Refute it at one input. -/
def fnExactAreFriendsWrong : ChangeSpec := { name := "fnExactAreFriends", fn := fun _ => fun
  | [d1, d2, d3] => { results := [.lit (.bool false)], args := [d1, d2, d3] }
  | _ => none }
def FnExactAreFriendsWrongFalsely : Prop := fnExactAreFriendsRow.holds Try.pinned (OpenSpec.ofChange fnExactAreFriendsWrong)

/-- 'laws.FnExactFriendsOf': WHATEVER THE INPUT: true; the input reads as it did. -/
def fnExactFriendsOfSpec : ChangeSpec := { name := "fnExactFriendsOf", fn := fun _ => fun
  | [d1, d2] => { results := [.lit (.bool true)], args := [d1, d2] }
  | _ => none }
def fnExactFriendsOfRow : OpenClaim := { program := "ytgkfnckgpbjbdaa", sum := "6f3a8f8f2906f7185c434d71d368d457eefeffc1c6e191f6989fd42200b659eb", func := "loop.example/g01257/laws.FnExactFriendsOf", spec := "fnExactFriendsOf", apart := false }
def FnExactFriendsOfSaid : Prop := fnExactFriendsOfRow.holds Try.pinned (OpenSpec.ofChange fnExactFriendsOfSpec)

/-- ITS FALSE NEIGHBOUR: 'it returns false'. Refute it at one input. -/
def fnExactFriendsOfWrong : ChangeSpec := { name := "fnExactFriendsOf", fn := fun _ => fun
  | [d1, d2] => { results := [.lit (.bool false)], args := [d1, d2] }
  | _ => none }
def FnExactFriendsOfWrongFalsely : Prop := fnExactFriendsOfRow.holds Try.pinned (OpenSpec.ofChange fnExactFriendsOfWrong)

/-- 'laws.FnExactNumbersOfFriends': WHATEVER THE INPUT: true; the input reads as it did. -/
def fnExactNumbersOfFriendsSpec : ChangeSpec := { name := "fnExactNumbersOfFriends", fn := fun _ => fun
  | [d] => { results := [.lit (.bool true)], args := [d] }
  | _ => none }
def fnExactNumbersOfFriendsRow : OpenClaim := { program := "ytgkfnckgpbjbdaa", sum := "6f3a8f8f2906f7185c434d71d368d457eefeffc1c6e191f6989fd42200b659eb", func := "loop.example/g01257/laws.FnExactNumbersOfFriends", spec := "fnExactNumbersOfFriends", apart := false }
def FnExactNumbersOfFriendsSaid : Prop := fnExactNumbersOfFriendsRow.holds Try.pinned (OpenSpec.ofChange fnExactNumbersOfFriendsSpec)

/-- ITS FALSE NEIGHBOUR: 'it returns false'. Refute it at one input. -/
def fnExactNumbersOfFriendsWrong : ChangeSpec := { name := "fnExactNumbersOfFriends", fn := fun _ => fun
  | [d] => { results := [.lit (.bool false)], args := [d] }
  | _ => none }
def FnExactNumbersOfFriendsWrongFalsely : Prop := fnExactNumbersOfFriendsRow.holds Try.pinned (OpenSpec.ofChange fnExactNumbersOfFriendsWrong)

/-- 'laws.FnExactAddPair': WHATEVER THE INPUT: true; the input reads as it did. -/
def fnExactAddPairSpec : ChangeSpec := { name := "fnExactAddPair", fn := fun _ => fun
  | [d1, d2, d3] => { results := [.lit (.bool true)], args := [d1, d2, d3] }
  | _ => none }
def fnExactAddPairRow : OpenClaim := { program := "ytgkfnckgpbjbdaa", sum := "6f3a8f8f2906f7185c434d71d368d457eefeffc1c6e191f6989fd42200b659eb", func := "loop.example/g01257/laws.FnExactAddPair", spec := "fnExactAddPair", unfollowed := true, recurses := true, apart := false }
def FnExactAddPairSaid : Prop := fnExactAddPairRow.holds Try.pinned (OpenSpec.ofChange fnExactAddPairSpec)

/-- ITS FALSE NEIGHBOUR: 'it returns false'. Refute it at one input. -/
def fnExactAddPairWrong : ChangeSpec := { name := "fnExactAddPair", fn := fun _ => fun
  | [d1, d2, d3] => { results := [.lit (.bool false)], args := [d1, d2, d3] }
  | _ => none }
def FnExactAddPairWrongFalsely : Prop := fnExactAddPairRow.holds Try.pinned (OpenSpec.ofChange fnExactAddPairWrong)

/-- 'laws.FnExactDropPair': WHATEVER THE INPUT: true; the input reads as it did. -/
def fnExactDropPairSpec : ChangeSpec := { name := "fnExactDropPair", fn := fun _ => fun
  | [d1, d2, d3] => { results := [.lit (.bool true)], args := [d1, d2, d3] }
  | _ => none }
def fnExactDropPairRow : OpenClaim := { program := "ytgkfnckgpbjbdaa", sum := "6f3a8f8f2906f7185c434d71d368d457eefeffc1c6e191f6989fd42200b659eb", func := "loop.example/g01257/laws.FnExactDropPair", spec := "fnExactDropPair", unfollowed := true, recurses := true, apart := false }
def FnExactDropPairSaid : Prop := fnExactDropPairRow.holds Try.pinned (OpenSpec.ofChange fnExactDropPairSpec)

/-- ITS FALSE NEIGHBOUR: 'it returns false'. Refute it at one input. -/
def fnExactDropPairWrong : ChangeSpec := { name := "fnExactDropPair", fn := fun _ => fun
  | [d1, d2, d3] => { results := [.lit (.bool false)], args := [d1, d2, d3] }
  | _ => none }
def FnExactDropPairWrongFalsely : Prop := fnExactDropPairRow.holds Try.pinned (OpenSpec.ofChange fnExactDropPairWrong)

/-- 'laws.FnExactOtherParty': WHATEVER THE INPUT: true; the input reads as it did. -/
def fnExactOtherPartySpec : ChangeSpec := { name := "fnExactOtherParty", fn := fun _ => fun
  | [d] => { results := [.lit (.bool true)], args := [d] }
  | _ => none }
def fnExactOtherPartyRow : OpenClaim := { program := "ytgkfnckgpbjbdaa", sum := "6f3a8f8f2906f7185c434d71d368d457eefeffc1c6e191f6989fd42200b659eb", func := "loop.example/g01257/laws.FnExactOtherParty", spec := "fnExactOtherParty", unfollowed := true, recurses := true, apart := false }
def FnExactOtherPartySaid : Prop := fnExactOtherPartyRow.holds Try.pinned (OpenSpec.ofChange fnExactOtherPartySpec)

/-- ITS FALSE NEIGHBOUR: 'it returns false'. Refute it at one input. -/
def fnExactOtherPartyWrong : ChangeSpec := { name := "fnExactOtherParty", fn := fun _ => fun
  | [d] => { results := [.lit (.bool false)], args := [d] }
  | _ => none }
def FnExactOtherPartyWrongFalsely : Prop := fnExactOtherPartyRow.holds Try.pinned (OpenSpec.ofChange fnExactOtherPartyWrong)

/-- 'laws.FnExactChooseParty': WHATEVER THE INPUT: true; the input reads as it did. -/
def fnExactChoosePartySpec : ChangeSpec := { name := "fnExactChooseParty", fn := fun _ => fun
  | [d1, d2] => { results := [.lit (.bool true)], args := [d1, d2] }
  | _ => none }
def fnExactChoosePartyRow : OpenClaim := { program := "ytgkfnckgpbjbdaa", sum := "6f3a8f8f2906f7185c434d71d368d457eefeffc1c6e191f6989fd42200b659eb", func := "loop.example/g01257/laws.FnExactChooseParty", spec := "fnExactChooseParty", apart := false }
def FnExactChoosePartySaid : Prop := fnExactChoosePartyRow.holds Try.pinned (OpenSpec.ofChange fnExactChoosePartySpec)

/-- ITS FALSE NEIGHBOUR: 'it returns false'. Refute it at one input. -/
def fnExactChoosePartyWrong : ChangeSpec := { name := "fnExactChooseParty", fn := fun _ => fun
  | [d1, d2] => { results := [.lit (.bool false)], args := [d1, d2] }
  | _ => none }
def FnExactChoosePartyWrongFalsely : Prop := fnExactChoosePartyRow.holds Try.pinned (OpenSpec.ofChange fnExactChoosePartyWrong)

/-- 'laws.FnExactRenameParty': WHATEVER THE INPUT: true; the input reads as it did. -/
def fnExactRenamePartySpec : ChangeSpec := { name := "fnExactRenameParty", fn := fun _ => fun
  | [d1, d2] => { results := [.lit (.bool true)], args := [d1, d2] }
  | _ => none }
def fnExactRenamePartyRow : OpenClaim := { program := "ytgkfnckgpbjbdaa", sum := "6f3a8f8f2906f7185c434d71d368d457eefeffc1c6e191f6989fd42200b659eb", func := "loop.example/g01257/laws.FnExactRenameParty", spec := "fnExactRenameParty", unfollowed := true, recurses := true, apart := false }
def FnExactRenamePartySaid : Prop := fnExactRenamePartyRow.holds Try.pinned (OpenSpec.ofChange fnExactRenamePartySpec)

/-- ITS FALSE NEIGHBOUR: 'it returns false'. Refute it at one input. -/
def fnExactRenamePartyWrong : ChangeSpec := { name := "fnExactRenameParty", fn := fun _ => fun
  | [d1, d2] => { results := [.lit (.bool false)], args := [d1, d2] }
  | _ => none }
def FnExactRenamePartyWrongFalsely : Prop := fnExactRenamePartyRow.holds Try.pinned (OpenSpec.ofChange fnExactRenamePartyWrong)

/-- 'laws.FnExactBesideParty': WHATEVER THE INPUT: true; the input reads as it did. -/
def fnExactBesidePartySpec : ChangeSpec := { name := "fnExactBesideParty", fn := fun _ => fun
  | [d1, d2] => { results := [.lit (.bool true)], args := [d1, d2] }
  | _ => none }
def fnExactBesidePartyRow : OpenClaim := { program := "ytgkfnckgpbjbdaa", sum := "6f3a8f8f2906f7185c434d71d368d457eefeffc1c6e191f6989fd42200b659eb", func := "loop.example/g01257/laws.FnExactBesideParty", spec := "fnExactBesideParty", apart := false }
def FnExactBesidePartySaid : Prop := fnExactBesidePartyRow.holds Try.pinned (OpenSpec.ofChange fnExactBesidePartySpec)

/-- ITS FALSE NEIGHBOUR: 'it returns false'. Refute it at one input. -/
def fnExactBesidePartyWrong : ChangeSpec := { name := "fnExactBesideParty", fn := fun _ => fun
  | [d1, d2] => { results := [.lit (.bool false)], args := [d1, d2] }
  | _ => none }
def FnExactBesidePartyWrongFalsely : Prop := fnExactBesidePartyRow.holds Try.pinned (OpenSpec.ofChange fnExactBesidePartyWrong)

/-- 'laws.FnExactTogetherParty': WHATEVER THE INPUT: true; the input reads as it did. -/
def fnExactTogetherPartySpec : ChangeSpec := { name := "fnExactTogetherParty", fn := fun _ => fun
  | [d1, d2] => { results := [.lit (.bool true)], args := [d1, d2] }
  | _ => none }
def fnExactTogetherPartyRow : OpenClaim := { program := "ytgkfnckgpbjbdaa", sum := "6f3a8f8f2906f7185c434d71d368d457eefeffc1c6e191f6989fd42200b659eb", func := "loop.example/g01257/laws.FnExactTogetherParty", spec := "fnExactTogetherParty", unfollowed := true, recurses := true, apart := false }
def FnExactTogetherPartySaid : Prop := fnExactTogetherPartyRow.holds Try.pinned (OpenSpec.ofChange fnExactTogetherPartySpec)

/-- ITS FALSE NEIGHBOUR: 'it returns false'. Refute it at one input. -/
def fnExactTogetherPartyWrong : ChangeSpec := { name := "fnExactTogetherParty", fn := fun _ => fun
  | [d1, d2] => { results := [.lit (.bool false)], args := [d1, d2] }
  | _ => none }
def FnExactTogetherPartyWrongFalsely : Prop := fnExactTogetherPartyRow.holds Try.pinned (OpenSpec.ofChange fnExactTogetherPartyWrong)

/-- 'laws.FnExactPartsOfParty': WHATEVER THE INPUT: true; the input reads as it did. -/
def fnExactPartsOfPartySpec : ChangeSpec := { name := "fnExactPartsOfParty", fn := fun _ => fun
  | [d] => { results := [.lit (.bool true)], args := [d] }
  | _ => none }
def fnExactPartsOfPartyRow : OpenClaim := { program := "ytgkfnckgpbjbdaa", sum := "6f3a8f8f2906f7185c434d71d368d457eefeffc1c6e191f6989fd42200b659eb", func := "loop.example/g01257/laws.FnExactPartsOfParty", spec := "fnExactPartsOfParty", apart := false }
def FnExactPartsOfPartySaid : Prop := fnExactPartsOfPartyRow.holds Try.pinned (OpenSpec.ofChange fnExactPartsOfPartySpec)

/-- ITS FALSE NEIGHBOUR: 'it returns false'. Refute it at one input. -/
def fnExactPartsOfPartyWrong : ChangeSpec := { name := "fnExactPartsOfParty", fn := fun _ => fun
  | [d] => { results := [.lit (.bool false)], args := [d] }
  | _ => none }
def FnExactPartsOfPartyWrongFalsely : Prop := fnExactPartsOfPartyRow.holds Try.pinned (OpenSpec.ofChange fnExactPartsOfPartyWrong)

/-- 'laws.FnExactLeastParty': WHATEVER THE INPUT: true; the input reads as it did. -/
def fnExactLeastPartySpec : ChangeSpec := { name := "fnExactLeastParty", fn := fun _ => fun
  | [d] => { results := [.lit (.bool true)], args := [d] }
  | _ => none }
def fnExactLeastPartyRow : OpenClaim := { program := "ytgkfnckgpbjbdaa", sum := "6f3a8f8f2906f7185c434d71d368d457eefeffc1c6e191f6989fd42200b659eb", func := "loop.example/g01257/laws.FnExactLeastParty", spec := "fnExactLeastParty", unfollowed := true, recurses := true, apart := false }
def FnExactLeastPartySaid : Prop := fnExactLeastPartyRow.holds Try.pinned (OpenSpec.ofChange fnExactLeastPartySpec)

/-- ITS FALSE NEIGHBOUR: 'it returns false'. Refute it at one input. -/
def fnExactLeastPartyWrong : ChangeSpec := { name := "fnExactLeastParty", fn := fun _ => fun
  | [d] => { results := [.lit (.bool false)], args := [d] }
  | _ => none }
def FnExactLeastPartyWrongFalsely : Prop := fnExactLeastPartyRow.holds Try.pinned (OpenSpec.ofChange fnExactLeastPartyWrong)

/-- 'laws.FnExactAreSame': WHATEVER THE INPUT: true; the input reads as it did. -/
def fnExactAreSameSpec : ChangeSpec := { name := "fnExactAreSame", fn := fun _ => fun
  | [d1, d2] => { results := [.lit (.bool true)], args := [d1, d2] }
  | _ => none }
def fnExactAreSameRow : OpenClaim := { program := "ytgkfnckgpbjbdaa", sum := "6f3a8f8f2906f7185c434d71d368d457eefeffc1c6e191f6989fd42200b659eb", func := "loop.example/g01257/laws.FnExactAreSame", spec := "fnExactAreSame", unfollowed := true, recurses := true, apart := false }
def FnExactAreSameSaid : Prop := fnExactAreSameRow.holds Try.pinned (OpenSpec.ofChange fnExactAreSameSpec)

/-- ITS FALSE NEIGHBOUR: 'it returns false'. Refute it at one input. -/
def fnExactAreSameWrong : ChangeSpec := { name := "fnExactAreSame", fn := fun _ => fun
  | [d1, d2] => { results := [.lit (.bool false)], args := [d1, d2] }
  | _ => none }
def FnExactAreSameWrongFalsely : Prop := fnExactAreSameRow.holds Try.pinned (OpenSpec.ofChange fnExactAreSameWrong)

/-- 'laws.FnExactCountNamed': WHATEVER THE INPUT: true; the input reads as it did. -/
def fnExactCountNamedSpec : ChangeSpec := { name := "fnExactCountNamed", fn := fun _ => fun
  | [d] => { results := [.lit (.bool true)], args := [d] }
  | _ => none }
def fnExactCountNamedRow : OpenClaim := { program := "ytgkfnckgpbjbdaa", sum := "6f3a8f8f2906f7185c434d71d368d457eefeffc1c6e191f6989fd42200b659eb", func := "loop.example/g01257/laws.FnExactCountNamed", spec := "fnExactCountNamed", unfollowed := true, recurses := true, apart := false }
def FnExactCountNamedSaid : Prop := fnExactCountNamedRow.holds Try.pinned (OpenSpec.ofChange fnExactCountNamedSpec)

/-- ITS FALSE NEIGHBOUR: 'it returns false'. Refute it at one input. -/
def fnExactCountNamedWrong : ChangeSpec := { name := "fnExactCountNamed", fn := fun _ => fun
  | [d] => { results := [.lit (.bool false)], args := [d] }
  | _ => none }
def FnExactCountNamedWrongFalsely : Prop := fnExactCountNamedRow.holds Try.pinned (OpenSpec.ofChange fnExactCountNamedWrong)

/- THE SECOND FORM. 'bulk': how many values and letters a reading holds, each counted each time it is reached (what is shared counts as often as it is met; a slice's spare places count too). A statement '..UptoSaid' is the law's where the arguments, and the package variables that the reading takes, are together of bulk at most 1048576: NARROWER than '..Said'. Prove '..Said' where nothing that the law and all that it calls make is longer than what came in: it says more and counts as full. Else prove '..UptoSaid'. A law counts once. -/
mutual
def uptoBulk {H : Type} : DataW H → Nat
  | .lit (.string bytes) => bytes.length + 1
  | .lit _ => 1
  | .nil => 1
  | .ptr d => uptoBulk d + 1
  | .slice elems spare => uptoBulkAll elems + uptoBulkAll spare + 1
  | .agg parts => uptoBulkAll parts + 1
  | .iface _ d => uptoBulk d + 1
  | .map entries => uptoBulkEntries entries + 1
  | .held _ => 1
def uptoBulkAll {H : Type} : List (DataW H) → Nat
  | [] => 0
  | d :: r => uptoBulk d + uptoBulkAll r
def uptoBulkEntries {H : Type} : List (Lit × DataW H) → Nat
  | [] => 0
  | x :: r => uptoBulkEntry x + uptoBulkEntries r
def uptoBulkEntry {H : Type} : Lit × DataW H → Nat
  | (.string bytes, d) => bytes.length + uptoBulk d + 1
  | (_, d) => uptoBulk d + 1
 end
def uptoSmall : (H : Type) → List (DataW H) → Bool := fun _ ds => decide (uptoBulkAll ds ≤ 1048576)
def OpenSpec.upto (s : _root_.Go.ChangeSpec) : _root_.Go.OpenSpec := { _root_.Go.OpenSpec.ofChange s with cond := some uptoSmall }

/-- 'laws.FnExactIsParty', WHERE WHAT IT READS IS OF BULK AT MOST 1048576: true; the input reads as it did. -/
def fnExactIsPartyUptoRow : OpenClaim := { program := "ytgkfnckgpbjbdaa", sum := "6f3a8f8f2906f7185c434d71d368d457eefeffc1c6e191f6989fd42200b659eb", func := "loop.example/g01257/laws.FnExactIsParty", spec := "fnExactIsParty", apart := false, narrowed := true }
def FnExactIsPartyUptoSaid : Prop := fnExactIsPartyUptoRow.holds Try.pinned (OpenSpec.upto fnExactIsPartySpec)

/-- 'laws.FnExactEmptyParty', WHERE WHAT IT READS IS OF BULK AT MOST 1048576: true; the input reads as it did. -/
def fnExactEmptyPartyUptoRow : OpenClaim := { program := "ytgkfnckgpbjbdaa", sum := "6f3a8f8f2906f7185c434d71d368d457eefeffc1c6e191f6989fd42200b659eb", func := "loop.example/g01257/laws.FnExactEmptyParty", spec := "fnExactEmptyParty", apart := false, narrowed := true }
def FnExactEmptyPartyUptoSaid : Prop := fnExactEmptyPartyUptoRow.holds Try.pinned (OpenSpec.upto fnExactEmptyPartySpec)

/-- 'laws.FnExactFullParty', WHERE WHAT IT READS IS OF BULK AT MOST 1048576: true; the input reads as it did. -/
def fnExactFullPartyUptoRow : OpenClaim := { program := "ytgkfnckgpbjbdaa", sum := "6f3a8f8f2906f7185c434d71d368d457eefeffc1c6e191f6989fd42200b659eb", func := "loop.example/g01257/laws.FnExactFullParty", spec := "fnExactFullParty", unfollowed := true, recurses := true, apart := false, narrowed := true }
def FnExactFullPartyUptoSaid : Prop := fnExactFullPartyUptoRow.holds Try.pinned (OpenSpec.upto fnExactFullPartySpec)

/-- 'laws.FnExactAreFriends', WHERE WHAT IT READS IS OF BULK AT MOST 1048576: true; the input reads as it did. -/
def fnExactAreFriendsUptoRow : OpenClaim := { program := "ytgkfnckgpbjbdaa", sum := "6f3a8f8f2906f7185c434d71d368d457eefeffc1c6e191f6989fd42200b659eb", func := "loop.example/g01257/laws.FnExactAreFriends", spec := "fnExactAreFriends", apart := false, narrowed := true }
def FnExactAreFriendsUptoSaid : Prop := fnExactAreFriendsUptoRow.holds Try.pinned (OpenSpec.upto fnExactAreFriendsSpec)

/-- 'laws.FnExactFriendsOf', WHERE WHAT IT READS IS OF BULK AT MOST 1048576: true; the input reads as it did. -/
def fnExactFriendsOfUptoRow : OpenClaim := { program := "ytgkfnckgpbjbdaa", sum := "6f3a8f8f2906f7185c434d71d368d457eefeffc1c6e191f6989fd42200b659eb", func := "loop.example/g01257/laws.FnExactFriendsOf", spec := "fnExactFriendsOf", apart := false, narrowed := true }
def FnExactFriendsOfUptoSaid : Prop := fnExactFriendsOfUptoRow.holds Try.pinned (OpenSpec.upto fnExactFriendsOfSpec)

/-- 'laws.FnExactNumbersOfFriends', WHERE WHAT IT READS IS OF BULK AT MOST 1048576: true; the input reads as it did. -/
def fnExactNumbersOfFriendsUptoRow : OpenClaim := { program := "ytgkfnckgpbjbdaa", sum := "6f3a8f8f2906f7185c434d71d368d457eefeffc1c6e191f6989fd42200b659eb", func := "loop.example/g01257/laws.FnExactNumbersOfFriends", spec := "fnExactNumbersOfFriends", apart := false, narrowed := true }
def FnExactNumbersOfFriendsUptoSaid : Prop := fnExactNumbersOfFriendsUptoRow.holds Try.pinned (OpenSpec.upto fnExactNumbersOfFriendsSpec)

/-- 'laws.FnExactAddPair', WHERE WHAT IT READS IS OF BULK AT MOST 1048576: true; the input reads as it did. -/
def fnExactAddPairUptoRow : OpenClaim := { program := "ytgkfnckgpbjbdaa", sum := "6f3a8f8f2906f7185c434d71d368d457eefeffc1c6e191f6989fd42200b659eb", func := "loop.example/g01257/laws.FnExactAddPair", spec := "fnExactAddPair", unfollowed := true, recurses := true, apart := false, narrowed := true }
def FnExactAddPairUptoSaid : Prop := fnExactAddPairUptoRow.holds Try.pinned (OpenSpec.upto fnExactAddPairSpec)

/-- 'laws.FnExactDropPair', WHERE WHAT IT READS IS OF BULK AT MOST 1048576: true; the input reads as it did. -/
def fnExactDropPairUptoRow : OpenClaim := { program := "ytgkfnckgpbjbdaa", sum := "6f3a8f8f2906f7185c434d71d368d457eefeffc1c6e191f6989fd42200b659eb", func := "loop.example/g01257/laws.FnExactDropPair", spec := "fnExactDropPair", unfollowed := true, recurses := true, apart := false, narrowed := true }
def FnExactDropPairUptoSaid : Prop := fnExactDropPairUptoRow.holds Try.pinned (OpenSpec.upto fnExactDropPairSpec)

/-- 'laws.FnExactOtherParty', WHERE WHAT IT READS IS OF BULK AT MOST 1048576: true; the input reads as it did. -/
def fnExactOtherPartyUptoRow : OpenClaim := { program := "ytgkfnckgpbjbdaa", sum := "6f3a8f8f2906f7185c434d71d368d457eefeffc1c6e191f6989fd42200b659eb", func := "loop.example/g01257/laws.FnExactOtherParty", spec := "fnExactOtherParty", unfollowed := true, recurses := true, apart := false, narrowed := true }
def FnExactOtherPartyUptoSaid : Prop := fnExactOtherPartyUptoRow.holds Try.pinned (OpenSpec.upto fnExactOtherPartySpec)

/-- 'laws.FnExactChooseParty', WHERE WHAT IT READS IS OF BULK AT MOST 1048576: true; the input reads as it did. -/
def fnExactChoosePartyUptoRow : OpenClaim := { program := "ytgkfnckgpbjbdaa", sum := "6f3a8f8f2906f7185c434d71d368d457eefeffc1c6e191f6989fd42200b659eb", func := "loop.example/g01257/laws.FnExactChooseParty", spec := "fnExactChooseParty", apart := false, narrowed := true }
def FnExactChoosePartyUptoSaid : Prop := fnExactChoosePartyUptoRow.holds Try.pinned (OpenSpec.upto fnExactChoosePartySpec)

/-- 'laws.FnExactRenameParty', WHERE WHAT IT READS IS OF BULK AT MOST 1048576: true; the input reads as it did. -/
def fnExactRenamePartyUptoRow : OpenClaim := { program := "ytgkfnckgpbjbdaa", sum := "6f3a8f8f2906f7185c434d71d368d457eefeffc1c6e191f6989fd42200b659eb", func := "loop.example/g01257/laws.FnExactRenameParty", spec := "fnExactRenameParty", unfollowed := true, recurses := true, apart := false, narrowed := true }
def FnExactRenamePartyUptoSaid : Prop := fnExactRenamePartyUptoRow.holds Try.pinned (OpenSpec.upto fnExactRenamePartySpec)

/-- 'laws.FnExactBesideParty', WHERE WHAT IT READS IS OF BULK AT MOST 1048576: true; the input reads as it did. -/
def fnExactBesidePartyUptoRow : OpenClaim := { program := "ytgkfnckgpbjbdaa", sum := "6f3a8f8f2906f7185c434d71d368d457eefeffc1c6e191f6989fd42200b659eb", func := "loop.example/g01257/laws.FnExactBesideParty", spec := "fnExactBesideParty", apart := false, narrowed := true }
def FnExactBesidePartyUptoSaid : Prop := fnExactBesidePartyUptoRow.holds Try.pinned (OpenSpec.upto fnExactBesidePartySpec)

/-- 'laws.FnExactTogetherParty', WHERE WHAT IT READS IS OF BULK AT MOST 1048576: true; the input reads as it did. -/
def fnExactTogetherPartyUptoRow : OpenClaim := { program := "ytgkfnckgpbjbdaa", sum := "6f3a8f8f2906f7185c434d71d368d457eefeffc1c6e191f6989fd42200b659eb", func := "loop.example/g01257/laws.FnExactTogetherParty", spec := "fnExactTogetherParty", unfollowed := true, recurses := true, apart := false, narrowed := true }
def FnExactTogetherPartyUptoSaid : Prop := fnExactTogetherPartyUptoRow.holds Try.pinned (OpenSpec.upto fnExactTogetherPartySpec)

/-- 'laws.FnExactPartsOfParty', WHERE WHAT IT READS IS OF BULK AT MOST 1048576: true; the input reads as it did. -/
def fnExactPartsOfPartyUptoRow : OpenClaim := { program := "ytgkfnckgpbjbdaa", sum := "6f3a8f8f2906f7185c434d71d368d457eefeffc1c6e191f6989fd42200b659eb", func := "loop.example/g01257/laws.FnExactPartsOfParty", spec := "fnExactPartsOfParty", apart := false, narrowed := true }
def FnExactPartsOfPartyUptoSaid : Prop := fnExactPartsOfPartyUptoRow.holds Try.pinned (OpenSpec.upto fnExactPartsOfPartySpec)

/-- 'laws.FnExactLeastParty', WHERE WHAT IT READS IS OF BULK AT MOST 1048576: true; the input reads as it did. -/
def fnExactLeastPartyUptoRow : OpenClaim := { program := "ytgkfnckgpbjbdaa", sum := "6f3a8f8f2906f7185c434d71d368d457eefeffc1c6e191f6989fd42200b659eb", func := "loop.example/g01257/laws.FnExactLeastParty", spec := "fnExactLeastParty", unfollowed := true, recurses := true, apart := false, narrowed := true }
def FnExactLeastPartyUptoSaid : Prop := fnExactLeastPartyUptoRow.holds Try.pinned (OpenSpec.upto fnExactLeastPartySpec)

/-- 'laws.FnExactAreSame', WHERE WHAT IT READS IS OF BULK AT MOST 1048576: true; the input reads as it did. -/
def fnExactAreSameUptoRow : OpenClaim := { program := "ytgkfnckgpbjbdaa", sum := "6f3a8f8f2906f7185c434d71d368d457eefeffc1c6e191f6989fd42200b659eb", func := "loop.example/g01257/laws.FnExactAreSame", spec := "fnExactAreSame", unfollowed := true, recurses := true, apart := false, narrowed := true }
def FnExactAreSameUptoSaid : Prop := fnExactAreSameUptoRow.holds Try.pinned (OpenSpec.upto fnExactAreSameSpec)

/-- 'laws.FnExactCountNamed', WHERE WHAT IT READS IS OF BULK AT MOST 1048576: true; the input reads as it did. -/
def fnExactCountNamedUptoRow : OpenClaim := { program := "ytgkfnckgpbjbdaa", sum := "6f3a8f8f2906f7185c434d71d368d457eefeffc1c6e191f6989fd42200b659eb", func := "loop.example/g01257/laws.FnExactCountNamed", spec := "fnExactCountNamed", unfollowed := true, recurses := true, apart := false, narrowed := true }
def FnExactCountNamedUptoSaid : Prop := fnExactCountNamedUptoRow.holds Try.pinned (OpenSpec.upto fnExactCountNamedSpec)

end Rows
end Go.Proofs.Ytgkfnckgpbjbdaa
