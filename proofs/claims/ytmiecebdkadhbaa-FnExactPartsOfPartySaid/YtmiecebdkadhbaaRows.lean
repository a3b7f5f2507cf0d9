/-
  No cell of these rows narrows 'for every input' (looked for: loops, veiled, ifaces, maps, wideKeys, modest, calm, conditions, laid).
  DERIVED. THE GIVEN ROWS OF THIS SEAT. 12 by the template 'for every input the law returns true; each argument reads behind the call as it read before'; 0 by the template 'total and deterministic' (their statements: YtmiecebdkadhbaaTotals.lean).
  GIVEN WITH THE SEED: the statements are not yours to turn. If you find one false, say at which input.
  Laid BY PROGRAM, IN A SANDBOX (cutbox-rows.mjs): the forced cells as the released guide's own fill.sh prints them over the translation 54f47c1c76d4adae… (all of the seat's roots in one cut). By AI agents, Wed Nov 11 2026. No macro, syntax, notation, axiom, sorry.
-/
import Derived.Test.YtmiecebdkadhbaaChecked
import GoSem.Claim
import GoSem.ClaimJoined
import GoSem.ClaimMapViews
import Derived.JoinedTies
import Derived.KernelRfl
namespace Go.Proofs.Ytmiecebdkadhbaa
/- THE CELL 'sum', in the pinned program and in every row, IS THE sha256 OF THE DUMP (.gsa) THAT YtmiecebdkadhbaaProg.lean LOADS. Nothing in Lean hashes anything: it is a label: what it is worth is what the hold of that sum in a sandbox is worth. -/
noncomputable def Try.pinned : Pinned := { name := "ytmiecebdkadhbaa", sum := "54f47c1c76d4adaefb0e5d0a305f5c2bc3c3105858636a5e28bae0cefdc16f25", checked := Try.checked }
namespace Rows
def none {H : Type} : Left H := { results := [], args := [] }

/-- 'laws.FnExactIsSeating': WHATEVER THE INPUT: true; the input reads as it did. -/
def fnExactIsSeatingSpec : ChangeSpec := { name := "fnExactIsSeating", fn := fun _ => fun
  | [d1, d2] => { results := [.lit (.bool true)], args := [d1, d2] }
  | _ => none }
def fnExactIsSeatingRow : OpenClaim := { program := "ytmiecebdkadhbaa", sum := "54f47c1c76d4adaefb0e5d0a305f5c2bc3c3105858636a5e28bae0cefdc16f25", func := "loop.example/g01257/laws.FnExactIsSeating", spec := "fnExactIsSeating", unfollowed := true, recurses := true, leaving := true, apart := false }
def FnExactIsSeatingSaid : Prop := fnExactIsSeatingRow.holds Try.pinned (OpenSpec.ofChange fnExactIsSeatingSpec)

/-- ITS FALSE NEIGHBOUR: 'it returns false'. Refute it at one input. -/
def fnExactIsSeatingWrong : ChangeSpec := { name := "fnExactIsSeating", fn := fun _ => fun
  | [d1, d2] => { results := [.lit (.bool false)], args := [d1, d2] }
  | _ => none }
def FnExactIsSeatingWrongFalsely : Prop := fnExactIsSeatingRow.holds Try.pinned (OpenSpec.ofChange fnExactIsSeatingWrong)

/-- 'laws.FnExactIsRow': WHATEVER THE INPUT: true; the input reads as it did. -/
def fnExactIsRowSpec : ChangeSpec := { name := "fnExactIsRow", fn := fun _ => fun
  | [d1, d2] => { results := [.lit (.bool true)], args := [d1, d2] }
  | _ => none }
def fnExactIsRowRow : OpenClaim := { program := "ytmiecebdkadhbaa", sum := "54f47c1c76d4adaefb0e5d0a305f5c2bc3c3105858636a5e28bae0cefdc16f25", func := "loop.example/g01257/laws.FnExactIsRow", spec := "fnExactIsRow", unfollowed := true, recurses := true, leaving := true, apart := false }
def FnExactIsRowSaid : Prop := fnExactIsRowRow.holds Try.pinned (OpenSpec.ofChange fnExactIsRowSpec)

/-- ITS FALSE NEIGHBOUR: 'it returns false'. Refute it at one input. -/
def fnExactIsRowWrong : ChangeSpec := { name := "fnExactIsRow", fn := fun _ => fun
  | [d1, d2] => { results := [.lit (.bool false)], args := [d1, d2] }
  | _ => none }
def FnExactIsRowWrongFalsely : Prop := fnExactIsRowRow.holds Try.pinned (OpenSpec.ofChange fnExactIsRowWrong)

/-- 'laws.FnExactStrangersBeside': WHATEVER THE INPUT: true; the input reads as it did. -/
def fnExactStrangersBesideSpec : ChangeSpec := { name := "fnExactStrangersBeside", fn := fun _ => fun
  | [d1, d2] => { results := [.lit (.bool true)], args := [d1, d2] }
  | _ => none }
def fnExactStrangersBesideRow : OpenClaim := { program := "ytmiecebdkadhbaa", sum := "54f47c1c76d4adaefb0e5d0a305f5c2bc3c3105858636a5e28bae0cefdc16f25", func := "loop.example/g01257/laws.FnExactStrangersBeside", spec := "fnExactStrangersBeside", apart := false }
def FnExactStrangersBesideSaid : Prop := fnExactStrangersBesideRow.holds Try.pinned (OpenSpec.ofChange fnExactStrangersBesideSpec)

/-- ITS FALSE NEIGHBOUR: 'it returns false'. Refute it at one input. -/
def fnExactStrangersBesideWrong : ChangeSpec := { name := "fnExactStrangersBeside", fn := fun _ => fun
  | [d1, d2] => { results := [.lit (.bool false)], args := [d1, d2] }
  | _ => none }
def FnExactStrangersBesideWrongFalsely : Prop := fnExactStrangersBesideRow.holds Try.pinned (OpenSpec.ofChange fnExactStrangersBesideWrong)

/-- 'laws.FnExactTurnSeats': WHATEVER THE INPUT: true; the input reads as it did. -/
def fnExactTurnSeatsSpec : ChangeSpec := { name := "fnExactTurnSeats", fn := fun _ => fun
  | [d1, d2, d3] => { results := [.lit (.bool true)], args := [d1, d2, d3] }
  | _ => none }
def fnExactTurnSeatsRow : OpenClaim := { program := "ytmiecebdkadhbaa", sum := "54f47c1c76d4adaefb0e5d0a305f5c2bc3c3105858636a5e28bae0cefdc16f25", func := "loop.example/g01257/laws.FnExactTurnSeats", spec := "fnExactTurnSeats", apart := false }
def FnExactTurnSeatsSaid : Prop := fnExactTurnSeatsRow.holds Try.pinned (OpenSpec.ofChange fnExactTurnSeatsSpec)

/-- ITS FALSE NEIGHBOUR: 'it returns false'. Refute it at one input. -/
def fnExactTurnSeatsWrong : ChangeSpec := { name := "fnExactTurnSeats", fn := fun _ => fun
  | [d1, d2, d3] => { results := [.lit (.bool false)], args := [d1, d2, d3] }
  | _ => none }
def FnExactTurnSeatsWrongFalsely : Prop := fnExactTurnSeatsRow.holds Try.pinned (OpenSpec.ofChange fnExactTurnSeatsWrong)

/-- 'laws.FnExactMendSeats': WHATEVER THE INPUT: true; the input reads as it did. -/
def fnExactMendSeatsSpec : ChangeSpec := { name := "fnExactMendSeats", fn := fun _ => fun
  | [d1, d2] => { results := [.lit (.bool true)], args := [d1, d2] }
  | _ => none }
def fnExactMendSeatsRow : OpenClaim := { program := "ytmiecebdkadhbaa", sum := "54f47c1c76d4adaefb0e5d0a305f5c2bc3c3105858636a5e28bae0cefdc16f25", func := "loop.example/g01257/laws.FnExactMendSeats", spec := "fnExactMendSeats", leaving := true, apart := false }
def FnExactMendSeatsSaid : Prop := fnExactMendSeatsRow.holds Try.pinned (OpenSpec.ofChange fnExactMendSeatsSpec)

/-- ITS FALSE NEIGHBOUR: 'it returns false'. Refute it at one input. -/
def fnExactMendSeatsWrong : ChangeSpec := { name := "fnExactMendSeats", fn := fun _ => fun
  | [d1, d2] => { results := [.lit (.bool false)], args := [d1, d2] }
  | _ => none }
def FnExactMendSeatsWrongFalsely : Prop := fnExactMendSeatsRow.holds Try.pinned (OpenSpec.ofChange fnExactMendSeatsWrong)

/-- 'laws.FnExactMendAll': WHATEVER THE INPUT: true; the input reads as it did. -/
def fnExactMendAllSpec : ChangeSpec := { name := "fnExactMendAll", fn := fun _ => fun
  | [d1, d2] => { results := [.lit (.bool true)], args := [d1, d2] }
  | _ => none }
def fnExactMendAllRow : OpenClaim := { program := "ytmiecebdkadhbaa", sum := "54f47c1c76d4adaefb0e5d0a305f5c2bc3c3105858636a5e28bae0cefdc16f25", func := "loop.example/g01257/laws.FnExactMendAll", spec := "fnExactMendAll", leaving := true, apart := false }
def FnExactMendAllSaid : Prop := fnExactMendAllRow.holds Try.pinned (OpenSpec.ofChange fnExactMendAllSpec)

/-- ITS FALSE NEIGHBOUR: 'it returns false'. Refute it at one input. -/
def fnExactMendAllWrong : ChangeSpec := { name := "fnExactMendAll", fn := fun _ => fun
  | [d1, d2] => { results := [.lit (.bool false)], args := [d1, d2] }
  | _ => none }
def FnExactMendAllWrongFalsely : Prop := fnExactMendAllRow.holds Try.pinned (OpenSpec.ofChange fnExactMendAllWrong)

/-- 'laws.FnExactEnoughFriends': WHATEVER THE INPUT: true; the input reads as it did. -/
def fnExactEnoughFriendsSpec : ChangeSpec := { name := "fnExactEnoughFriends", fn := fun _ => fun
  | [d] => { results := [.lit (.bool true)], args := [d] }
  | _ => none }
def fnExactEnoughFriendsRow : OpenClaim := { program := "ytmiecebdkadhbaa", sum := "54f47c1c76d4adaefb0e5d0a305f5c2bc3c3105858636a5e28bae0cefdc16f25", func := "loop.example/g01257/laws.FnExactEnoughFriends", spec := "fnExactEnoughFriends", unfollowed := true, recurses := true, leaving := true, apart := false }
def FnExactEnoughFriendsSaid : Prop := fnExactEnoughFriendsRow.holds Try.pinned (OpenSpec.ofChange fnExactEnoughFriendsSpec)

/-- ITS FALSE NEIGHBOUR: 'it returns false'. Refute it at one input. -/
def fnExactEnoughFriendsWrong : ChangeSpec := { name := "fnExactEnoughFriends", fn := fun _ => fun
  | [d] => { results := [.lit (.bool false)], args := [d] }
  | _ => none }
def FnExactEnoughFriendsWrongFalsely : Prop := fnExactEnoughFriendsRow.holds Try.pinned (OpenSpec.ofChange fnExactEnoughFriendsWrong)

/-- 'laws.FnExactEnoughTogether': WHATEVER THE INPUT: true; the input reads as it did. -/
def fnExactEnoughTogetherSpec : ChangeSpec := { name := "fnExactEnoughTogether", fn := fun _ => fun
  | [d] => { results := [.lit (.bool true)], args := [d] }
  | _ => none }
def fnExactEnoughTogetherRow : OpenClaim := { program := "ytmiecebdkadhbaa", sum := "54f47c1c76d4adaefb0e5d0a305f5c2bc3c3105858636a5e28bae0cefdc16f25", func := "loop.example/g01257/laws.FnExactEnoughTogether", spec := "fnExactEnoughTogether", unfollowed := true, recurses := true, leaving := true, apart := false }
def FnExactEnoughTogetherSaid : Prop := fnExactEnoughTogetherRow.holds Try.pinned (OpenSpec.ofChange fnExactEnoughTogetherSpec)

/-- ITS FALSE NEIGHBOUR: 'it returns false'. Refute it at one input. -/
def fnExactEnoughTogetherWrong : ChangeSpec := { name := "fnExactEnoughTogether", fn := fun _ => fun
  | [d] => { results := [.lit (.bool false)], args := [d] }
  | _ => none }
def FnExactEnoughTogetherWrongFalsely : Prop := fnExactEnoughTogetherRow.holds Try.pinned (OpenSpec.ofChange fnExactEnoughTogetherWrong)

/-- 'laws.FnExactFirstPairing': WHATEVER THE INPUT: true; the input reads as it did. -/
def fnExactFirstPairingSpec : ChangeSpec := { name := "fnExactFirstPairing", fn := fun _ => fun
  | [d] => { results := [.lit (.bool true)], args := [d] }
  | _ => none }
def fnExactFirstPairingRow : OpenClaim := { program := "ytmiecebdkadhbaa", sum := "54f47c1c76d4adaefb0e5d0a305f5c2bc3c3105858636a5e28bae0cefdc16f25", func := "loop.example/g01257/laws.FnExactFirstPairing", spec := "fnExactFirstPairing", unfollowed := true, recurses := true, leaving := true, apart := false }
def FnExactFirstPairingSaid : Prop := fnExactFirstPairingRow.holds Try.pinned (OpenSpec.ofChange fnExactFirstPairingSpec)

/-- ITS FALSE NEIGHBOUR: 'it returns false'. Refute it at one input. -/
def fnExactFirstPairingWrong : ChangeSpec := { name := "fnExactFirstPairing", fn := fun _ => fun
  | [d] => { results := [.lit (.bool false)], args := [d] }
  | _ => none }
def FnExactFirstPairingWrongFalsely : Prop := fnExactFirstPairingRow.holds Try.pinned (OpenSpec.ofChange fnExactFirstPairingWrong)

/-- 'laws.FnExactCountPairings': WHATEVER THE INPUT: true; the input reads as it did. -/
def fnExactCountPairingsSpec : ChangeSpec := { name := "fnExactCountPairings", fn := fun _ => fun
  | [d] => { results := [.lit (.bool true)], args := [d] }
  | _ => none }
def fnExactCountPairingsRow : OpenClaim := { program := "ytmiecebdkadhbaa", sum := "54f47c1c76d4adaefb0e5d0a305f5c2bc3c3105858636a5e28bae0cefdc16f25", func := "loop.example/g01257/laws.FnExactCountPairings", spec := "fnExactCountPairings", unfollowed := true, recurses := true, leaving := true, apart := false }
def FnExactCountPairingsSaid : Prop := fnExactCountPairingsRow.holds Try.pinned (OpenSpec.ofChange fnExactCountPairingsSpec)

/-- ITS FALSE NEIGHBOUR: 'it returns false'. Refute it at one input. -/
def fnExactCountPairingsWrong : ChangeSpec := { name := "fnExactCountPairings", fn := fun _ => fun
  | [d] => { results := [.lit (.bool false)], args := [d] }
  | _ => none }
def FnExactCountPairingsWrongFalsely : Prop := fnExactCountPairingsRow.holds Try.pinned (OpenSpec.ofChange fnExactCountPairingsWrong)

/-- 'laws.FnExactMostInPairs': WHATEVER THE INPUT: true; the input reads as it did. -/
def fnExactMostInPairsSpec : ChangeSpec := { name := "fnExactMostInPairs", fn := fun _ => fun
  | [d] => { results := [.lit (.bool true)], args := [d] }
  | _ => none }
def fnExactMostInPairsRow : OpenClaim := { program := "ytmiecebdkadhbaa", sum := "54f47c1c76d4adaefb0e5d0a305f5c2bc3c3105858636a5e28bae0cefdc16f25", func := "loop.example/g01257/laws.FnExactMostInPairs", spec := "fnExactMostInPairs", unfollowed := true, recurses := true, leaving := true, apart := false }
def FnExactMostInPairsSaid : Prop := fnExactMostInPairsRow.holds Try.pinned (OpenSpec.ofChange fnExactMostInPairsSpec)

/-- ITS FALSE NEIGHBOUR: 'it returns false'. Refute it at one input. -/
def fnExactMostInPairsWrong : ChangeSpec := { name := "fnExactMostInPairs", fn := fun _ => fun
  | [d] => { results := [.lit (.bool false)], args := [d] }
  | _ => none }
def FnExactMostInPairsWrongFalsely : Prop := fnExactMostInPairsRow.holds Try.pinned (OpenSpec.ofChange fnExactMostInPairsWrong)

/-- 'laws.FnExactPartsOfParty': WHATEVER THE INPUT: true; the input reads as it did. -/
def fnExactPartsOfPartySpec : ChangeSpec := { name := "fnExactPartsOfParty", fn := fun _ => fun
  | [d] => { results := [.lit (.bool true)], args := [d] }
  | _ => none }
def fnExactPartsOfPartyRow : OpenClaim := { program := "ytmiecebdkadhbaa", sum := "54f47c1c76d4adaefb0e5d0a305f5c2bc3c3105858636a5e28bae0cefdc16f25", func := "loop.example/g01257/laws.FnExactPartsOfParty", spec := "fnExactPartsOfParty", apart := false }
def FnExactPartsOfPartySaid : Prop := fnExactPartsOfPartyRow.holds Try.pinned (OpenSpec.ofChange fnExactPartsOfPartySpec)

/-- ITS FALSE NEIGHBOUR: 'it returns false'. Refute it at one input. -/
def fnExactPartsOfPartyWrong : ChangeSpec := { name := "fnExactPartsOfParty", fn := fun _ => fun
  | [d] => { results := [.lit (.bool false)], args := [d] }
  | _ => none }
def FnExactPartsOfPartyWrongFalsely : Prop := fnExactPartsOfPartyRow.holds Try.pinned (OpenSpec.ofChange fnExactPartsOfPartyWrong)

/- THE SECOND FORM. 'bulk': how many values and letters a reading holds, each counted each time it is reached (what is shared counts as often as it is met; a slice's spare places count too). A statement '..UptoSaid' is the law's where the arguments, and the package variables that the reading takes, are together of bulk at most 1048576: NARROWER than '..Said'. Prove '..Said' where nothing that the law and all that it calls make is longer than what came in: it says more and counts as full. Else prove '..UptoSaid'. A law counts once. -/
mutual
def uptoBulk {H : Type} : DataW H → Nat
  | .lit (.string bytes) => bytes.length + 1
  | .lit _ => 1
  | .nil => 1
  | .ptr d => uptoBulk d + 1
  | .slice elems spare => uptoBulkAll elems + uptoBulkAll spare + 1
  | .agg parts => uptoBulkAll parts + 1
  | .iface _ d => uptoBulk d + 1
  | .map entries => uptoBulkEntries entries + 1
  | .held _ => 1
def uptoBulkAll {H : Type} : List (DataW H) → Nat
  | [] => 0
  | d :: r => uptoBulk d + uptoBulkAll r
def uptoBulkEntries {H : Type} : List (Lit × DataW H) → Nat
  | [] => 0
  | x :: r => uptoBulkEntry x + uptoBulkEntries r
def uptoBulkEntry {H : Type} : Lit × DataW H → Nat
  | (.string bytes, d) => bytes.length + uptoBulk d + 1
  | (_, d) => uptoBulk d + 1
 end
def uptoSmall : (H : Type) → List (DataW H) → Bool := fun _ ds => decide (uptoBulkAll ds ≤ 1048576)
def OpenSpec.upto (s : _root_.Go.ChangeSpec) : _root_.Go.OpenSpec := { _root_.Go.OpenSpec.ofChange s with cond := some uptoSmall }

/-- 'laws.FnExactIsSeating', WHERE WHAT IT READS IS OF BULK AT MOST 1048576: true; the input reads as it did. -/
def fnExactIsSeatingUptoRow : OpenClaim := { program := "ytmiecebdkadhbaa", sum := "54f47c1c76d4adaefb0e5d0a305f5c2bc3c3105858636a5e28bae0cefdc16f25", func := "loop.example/g01257/laws.FnExactIsSeating", spec := "fnExactIsSeating", unfollowed := true, recurses := true, leaving := true, apart := false, narrowed := true }
def FnExactIsSeatingUptoSaid : Prop := fnExactIsSeatingUptoRow.holds Try.pinned (OpenSpec.upto fnExactIsSeatingSpec)

/-- 'laws.FnExactIsRow', WHERE WHAT IT READS IS OF BULK AT MOST 1048576: true; the input reads as it did. -/
def fnExactIsRowUptoRow : OpenClaim := { program := "ytmiecebdkadhbaa", sum := "54f47c1c76d4adaefb0e5d0a305f5c2bc3c3105858636a5e28bae0cefdc16f25", func := "loop.example/g01257/laws.FnExactIsRow", spec := "fnExactIsRow", unfollowed := true, recurses := true, leaving := true, apart := false, narrowed := true }
def FnExactIsRowUptoSaid : Prop := fnExactIsRowUptoRow.holds Try.pinned (OpenSpec.upto fnExactIsRowSpec)

/-- 'laws.FnExactStrangersBeside', WHERE WHAT IT READS IS OF BULK AT MOST 1048576: true; the input reads as it did. -/
def fnExactStrangersBesideUptoRow : OpenClaim := { program := "ytmiecebdkadhbaa", sum := "54f47c1c76d4adaefb0e5d0a305f5c2bc3c3105858636a5e28bae0cefdc16f25", func := "loop.example/g01257/laws.FnExactStrangersBeside", spec := "fnExactStrangersBeside", apart := false, narrowed := true }
def FnExactStrangersBesideUptoSaid : Prop := fnExactStrangersBesideUptoRow.holds Try.pinned (OpenSpec.upto fnExactStrangersBesideSpec)

/-- 'laws.FnExactTurnSeats', WHERE WHAT IT READS IS OF BULK AT MOST 1048576: true; the input reads as it did. -/
def fnExactTurnSeatsUptoRow : OpenClaim := { program := "ytmiecebdkadhbaa", sum := "54f47c1c76d4adaefb0e5d0a305f5c2bc3c3105858636a5e28bae0cefdc16f25", func := "loop.example/g01257/laws.FnExactTurnSeats", spec := "fnExactTurnSeats", apart := false, narrowed := true }
def FnExactTurnSeatsUptoSaid : Prop := fnExactTurnSeatsUptoRow.holds Try.pinned (OpenSpec.upto fnExactTurnSeatsSpec)

/-- 'laws.FnExactMendSeats', WHERE WHAT IT READS IS OF BULK AT MOST 1048576: true; the input reads as it did. -/
def fnExactMendSeatsUptoRow : OpenClaim := { program := "ytmiecebdkadhbaa", sum := "54f47c1c76d4adaefb0e5d0a305f5c2bc3c3105858636a5e28bae0cefdc16f25", func := "loop.example/g01257/laws.FnExactMendSeats", spec := "fnExactMendSeats", leaving := true, apart := false, narrowed := true }
def FnExactMendSeatsUptoSaid : Prop := fnExactMendSeatsUptoRow.holds Try.pinned (OpenSpec.upto fnExactMendSeatsSpec)

/-- 'laws.FnExactMendAll', WHERE WHAT IT READS IS OF BULK AT MOST 1048576: true; the input reads as it did. -/
def fnExactMendAllUptoRow : OpenClaim := { program := "ytmiecebdkadhbaa", sum := "54f47c1c76d4adaefb0e5d0a305f5c2bc3c3105858636a5e28bae0cefdc16f25", func := "loop.example/g01257/laws.FnExactMendAll", spec := "fnExactMendAll", leaving := true, apart := false, narrowed := true }
def FnExactMendAllUptoSaid : Prop := fnExactMendAllUptoRow.holds Try.pinned (OpenSpec.upto fnExactMendAllSpec)

/-- 'laws.FnExactEnoughFriends', WHERE WHAT IT READS IS OF BULK AT MOST 1048576: true; the input reads as it did. -/
def fnExactEnoughFriendsUptoRow : OpenClaim := { program := "ytmiecebdkadhbaa", sum := "54f47c1c76d4adaefb0e5d0a305f5c2bc3c3105858636a5e28bae0cefdc16f25", func := "loop.example/g01257/laws.FnExactEnoughFriends", spec := "fnExactEnoughFriends", unfollowed := true, recurses := true, leaving := true, apart := false, narrowed := true }
def FnExactEnoughFriendsUptoSaid : Prop := fnExactEnoughFriendsUptoRow.holds Try.pinned (OpenSpec.upto fnExactEnoughFriendsSpec)

/-- 'laws.FnExactEnoughTogether', WHERE WHAT IT READS IS OF BULK AT MOST 1048576: true; the input reads as it did. -/
def fnExactEnoughTogetherUptoRow : OpenClaim := { program := "ytmiecebdkadhbaa", sum := "54f47c1c76d4adaefb0e5d0a305f5c2bc3c3105858636a5e28bae0cefdc16f25", func := "loop.example/g01257/laws.FnExactEnoughTogether", spec := "fnExactEnoughTogether", unfollowed := true, recurses := true, leaving := true, apart := false, narrowed := true }
def FnExactEnoughTogetherUptoSaid : Prop := fnExactEnoughTogetherUptoRow.holds Try.pinned (OpenSpec.upto fnExactEnoughTogetherSpec)

/-- 'laws.FnExactFirstPairing', WHERE WHAT IT READS IS OF BULK AT MOST 1048576: true; the input reads as it did. -/
def fnExactFirstPairingUptoRow : OpenClaim := { program := "ytmiecebdkadhbaa", sum := "54f47c1c76d4adaefb0e5d0a305f5c2bc3c3105858636a5e28bae0cefdc16f25", func := "loop.example/g01257/laws.FnExactFirstPairing", spec := "fnExactFirstPairing", unfollowed := true, recurses := true, leaving := true, apart := false, narrowed := true }
def FnExactFirstPairingUptoSaid : Prop := fnExactFirstPairingUptoRow.holds Try.pinned (OpenSpec.upto fnExactFirstPairingSpec)

/-- 'laws.FnExactCountPairings', WHERE WHAT IT READS IS OF BULK AT MOST 1048576: true; the input reads as it did. -/
def fnExactCountPairingsUptoRow : OpenClaim := { program := "ytmiecebdkadhbaa", sum := "54f47c1c76d4adaefb0e5d0a305f5c2bc3c3105858636a5e28bae0cefdc16f25", func := "loop.example/g01257/laws.FnExactCountPairings", spec := "fnExactCountPairings", unfollowed := true, recurses := true, leaving := true, apart := false, narrowed := true }
def FnExactCountPairingsUptoSaid : Prop := fnExactCountPairingsUptoRow.holds Try.pinned (OpenSpec.upto fnExactCountPairingsSpec)

/-- 'laws.FnExactMostInPairs', WHERE WHAT IT READS IS OF BULK AT MOST 1048576: true; the input reads as it did. -/
def fnExactMostInPairsUptoRow : OpenClaim := { program := "ytmiecebdkadhbaa", sum := "54f47c1c76d4adaefb0e5d0a305f5c2bc3c3105858636a5e28bae0cefdc16f25", func := "loop.example/g01257/laws.FnExactMostInPairs", spec := "fnExactMostInPairs", unfollowed := true, recurses := true, leaving := true, apart := false, narrowed := true }
def FnExactMostInPairsUptoSaid : Prop := fnExactMostInPairsUptoRow.holds Try.pinned (OpenSpec.upto fnExactMostInPairsSpec)

/-- 'laws.FnExactPartsOfParty', WHERE WHAT IT READS IS OF BULK AT MOST 1048576: true; the input reads as it did. -/
def fnExactPartsOfPartyUptoRow : OpenClaim := { program := "ytmiecebdkadhbaa", sum := "54f47c1c76d4adaefb0e5d0a305f5c2bc3c3105858636a5e28bae0cefdc16f25", func := "loop.example/g01257/laws.FnExactPartsOfParty", spec := "fnExactPartsOfParty", apart := false, narrowed := true }
def FnExactPartsOfPartyUptoSaid : Prop := fnExactPartsOfPartyUptoRow.holds Try.pinned (OpenSpec.upto fnExactPartsOfPartySpec)

end Rows
end Go.Proofs.Ytmiecebdkadhbaa
