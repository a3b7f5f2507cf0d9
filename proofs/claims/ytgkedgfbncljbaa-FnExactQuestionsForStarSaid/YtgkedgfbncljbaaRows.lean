/-
  No cell of these rows narrows 'for every input' (looked for: loops, veiled, ifaces, maps, wideKeys, modest, calm, conditions, laid).
  DERIVED. THE GIVEN ROWS OF THIS SEAT. 15 by the template 'for every input the law returns true; each argument reads behind the call as it read before'; 0 by the template 'total and deterministic' (their statements: YtgkedgfbncljbaaTotals.lean).
  GIVEN WITH THE SEED: the statements are not yours to turn. If you find one false, say at which input.
  Laid BY PROGRAM, IN A SANDBOX (cutbox-rows.mjs): the forced cells as the released guide's own fill.sh prints them over the translation c5fce132349fd606… (all of the seat's roots in one cut). By AI agents, Wed Nov 11 2026. No macro, syntax, notation, axiom, sorry.
-/
import Derived.Test.YtgkedgfbncljbaaChecked
import GoSem.Claim
import GoSem.ClaimJoined
import GoSem.ClaimMapViews
import Derived.JoinedTies
import Derived.KernelRfl
namespace Go.Proofs.Ytgkedgfbncljbaa
/- THE CELL 'sum', in the pinned program and in every row, IS THE sha256 OF THE DUMP (.gsa) THAT YtgkedgfbncljbaaProg.lean LOADS. Nothing in Lean hashes anything: it is a label: what it is worth is what the hold of that sum in a sandbox is worth. -/
noncomputable def Try.pinned : Pinned := { name := "ytgkedgfbncljbaa", sum := "c5fce132349fd60666428c0f6459004d9a32a47258765f546e63e3b725c06b1f", checked := Try.checked }
namespace Rows
def none {H : Type} : Left H := { results := [], args := [] }

/-- 'laws.FnExactCouplesParty': WHATEVER THE INPUT: true; the input reads as it did. -/
def fnExactCouplesPartySpec : ChangeSpec := { name := "fnExactCouplesParty", fn := fun _ => fun
  | [d] => { results := [.lit (.bool true)], args := [d] }
  | _ => none }
def fnExactCouplesPartyRow : OpenClaim := { program := "ytgkedgfbncljbaa", sum := "c5fce132349fd60666428c0f6459004d9a32a47258765f546e63e3b725c06b1f", func := "loop.example/g01257/laws.FnExactCouplesParty", spec := "fnExactCouplesParty", unfollowed := true, recurses := true, leaving := true, apart := false }
def FnExactCouplesPartySaid : Prop := fnExactCouplesPartyRow.holds Try.pinned (OpenSpec.ofChange fnExactCouplesPartySpec)

/-- ITS FALSE NEIGHBOUR: 'it returns false'. Refute it at one input. -/
def fnExactCouplesPartyWrong : ChangeSpec := { name := "fnExactCouplesParty", fn := fun _ => fun
  | [d] => { results := [.lit (.bool false)], args := [d] }
  | _ => none }
def FnExactCouplesPartyWrongFalsely : Prop := fnExactCouplesPartyRow.holds Try.pinned (OpenSpec.ofChange fnExactCouplesPartyWrong)

/-- 'laws.FnExactAreCouples': WHATEVER THE INPUT: true; the input reads as it did. -/
def fnExactAreCouplesSpec : ChangeSpec := { name := "fnExactAreCouples", fn := fun _ => fun
  | [d] => { results := [.lit (.bool true)], args := [d] }
  | _ => none }
def fnExactAreCouplesRow : OpenClaim := { program := "ytgkedgfbncljbaa", sum := "c5fce132349fd60666428c0f6459004d9a32a47258765f546e63e3b725c06b1f", func := "loop.example/g01257/laws.FnExactAreCouples", spec := "fnExactAreCouples", unfollowed := true, recurses := true, leaving := true, apart := false }
def FnExactAreCouplesSaid : Prop := fnExactAreCouplesRow.holds Try.pinned (OpenSpec.ofChange fnExactAreCouplesSpec)

/-- ITS FALSE NEIGHBOUR: 'it returns false'. Refute it at one input. -/
def fnExactAreCouplesWrong : ChangeSpec := { name := "fnExactAreCouples", fn := fun _ => fun
  | [d] => { results := [.lit (.bool false)], args := [d] }
  | _ => none }
def FnExactAreCouplesWrongFalsely : Prop := fnExactAreCouplesRow.holds Try.pinned (OpenSpec.ofChange fnExactAreCouplesWrong)

/-- 'laws.FnExactToldNumbers': WHATEVER THE INPUT: true; the input reads as it did. -/
def fnExactToldNumbersSpec : ChangeSpec := { name := "fnExactToldNumbers", fn := fun _ => fun
  | [d] => { results := [.lit (.bool true)], args := [d] }
  | _ => none }
def fnExactToldNumbersRow : OpenClaim := { program := "ytgkedgfbncljbaa", sum := "c5fce132349fd60666428c0f6459004d9a32a47258765f546e63e3b725c06b1f", func := "loop.example/g01257/laws.FnExactToldNumbers", spec := "fnExactToldNumbers", unfollowed := true, recurses := true, leaving := true, apart := false }
def FnExactToldNumbersSaid : Prop := fnExactToldNumbersRow.holds Try.pinned (OpenSpec.ofChange fnExactToldNumbersSpec)

/-- ITS FALSE NEIGHBOUR: 'it returns false'. Refute it at one input. -/
def fnExactToldNumbersWrong : ChangeSpec := { name := "fnExactToldNumbers", fn := fun _ => fun
  | [d] => { results := [.lit (.bool false)], args := [d] }
  | _ => none }
def FnExactToldNumbersWrongFalsely : Prop := fnExactToldNumbersRow.holds Try.pinned (OpenSpec.ofChange fnExactToldNumbersWrong)

/-- 'laws.FnExactSpouseNumber': WHATEVER THE INPUT: true; the input reads as it did. -/
def fnExactSpouseNumberSpec : ChangeSpec := { name := "fnExactSpouseNumber", fn := fun _ => fun
  | [d] => { results := [.lit (.bool true)], args := [d] }
  | _ => none }
def fnExactSpouseNumberRow : OpenClaim := { program := "ytgkedgfbncljbaa", sum := "c5fce132349fd60666428c0f6459004d9a32a47258765f546e63e3b725c06b1f", func := "loop.example/g01257/laws.FnExactSpouseNumber", spec := "fnExactSpouseNumber", unfollowed := true, recurses := true, leaving := true, apart := false }
def FnExactSpouseNumberSaid : Prop := fnExactSpouseNumberRow.holds Try.pinned (OpenSpec.ofChange fnExactSpouseNumberSpec)

/-- ITS FALSE NEIGHBOUR: 'it returns false'. Refute it at one input. -/
def fnExactSpouseNumberWrong : ChangeSpec := { name := "fnExactSpouseNumber", fn := fun _ => fun
  | [d] => { results := [.lit (.bool false)], args := [d] }
  | _ => none }
def FnExactSpouseNumberWrongFalsely : Prop := fnExactSpouseNumberRow.holds Try.pinned (OpenSpec.ofChange fnExactSpouseNumberWrong)

/-- 'laws.FnExactIsFame': WHATEVER THE INPUT: true; the input reads as it did. -/
def fnExactIsFameSpec : ChangeSpec := { name := "fnExactIsFame", fn := fun _ => fun
  | [d] => { results := [.lit (.bool true)], args := [d] }
  | _ => none }
def fnExactIsFameRow : OpenClaim := { program := "ytgkedgfbncljbaa", sum := "c5fce132349fd60666428c0f6459004d9a32a47258765f546e63e3b725c06b1f", func := "loop.example/g01257/laws.FnExactIsFame", spec := "fnExactIsFame", apart := false }
def FnExactIsFameSaid : Prop := fnExactIsFameRow.holds Try.pinned (OpenSpec.ofChange fnExactIsFameSpec)

/-- ITS FALSE NEIGHBOUR: 'it returns false'. Refute it at one input. -/
def fnExactIsFameWrong : ChangeSpec := { name := "fnExactIsFame", fn := fun _ => fun
  | [d] => { results := [.lit (.bool false)], args := [d] }
  | _ => none }
def FnExactIsFameWrongFalsely : Prop := fnExactIsFameRow.holds Try.pinned (OpenSpec.ofChange fnExactIsFameWrong)

/-- 'laws.FnExactStarOf': WHATEVER THE INPUT: true; the input reads as it did. -/
def fnExactStarOfSpec : ChangeSpec := { name := "fnExactStarOf", fn := fun _ => fun
  | [d] => { results := [.lit (.bool true)], args := [d] }
  | _ => none }
def fnExactStarOfRow : OpenClaim := { program := "ytgkedgfbncljbaa", sum := "c5fce132349fd60666428c0f6459004d9a32a47258765f546e63e3b725c06b1f", func := "loop.example/g01257/laws.FnExactStarOf", spec := "fnExactStarOf", apart := false }
def FnExactStarOfSaid : Prop := fnExactStarOfRow.holds Try.pinned (OpenSpec.ofChange fnExactStarOfSpec)

/-- ITS FALSE NEIGHBOUR: 'it returns false'. Refute it at one input. -/
def fnExactStarOfWrong : ChangeSpec := { name := "fnExactStarOf", fn := fun _ => fun
  | [d] => { results := [.lit (.bool false)], args := [d] }
  | _ => none }
def FnExactStarOfWrongFalsely : Prop := fnExactStarOfRow.holds Try.pinned (OpenSpec.ofChange fnExactStarOfWrong)

/-- 'laws.FnExactQuestionsForStar': WHATEVER THE INPUT: true; the input reads as it did. -/
def fnExactQuestionsForStarSpec : ChangeSpec := { name := "fnExactQuestionsForStar", fn := fun _ => fun
  | [d] => { results := [.lit (.bool true)], args := [d] }
  | _ => none }
def fnExactQuestionsForStarRow : OpenClaim := { program := "ytgkedgfbncljbaa", sum := "c5fce132349fd60666428c0f6459004d9a32a47258765f546e63e3b725c06b1f", func := "loop.example/g01257/laws.FnExactQuestionsForStar", spec := "fnExactQuestionsForStar", apart := false }
def FnExactQuestionsForStarSaid : Prop := fnExactQuestionsForStarRow.holds Try.pinned (OpenSpec.ofChange fnExactQuestionsForStarSpec)

/-- ITS FALSE NEIGHBOUR: 'it returns false'. Refute it at one input. -/
def fnExactQuestionsForStarWrong : ChangeSpec := { name := "fnExactQuestionsForStar", fn := fun _ => fun
  | [d] => { results := [.lit (.bool false)], args := [d] }
  | _ => none }
def FnExactQuestionsForStarWrongFalsely : Prop := fnExactQuestionsForStarRow.holds Try.pinned (OpenSpec.ofChange fnExactQuestionsForStarWrong)

/-- 'laws.FnExactAreCalls': WHATEVER THE INPUT: true; the input reads as it did. -/
def fnExactAreCallsSpec : ChangeSpec := { name := "fnExactAreCalls", fn := fun _ => fun
  | [d1, d2] => { results := [.lit (.bool true)], args := [d1, d2] }
  | _ => none }
def fnExactAreCallsRow : OpenClaim := { program := "ytgkedgfbncljbaa", sum := "c5fce132349fd60666428c0f6459004d9a32a47258765f546e63e3b725c06b1f", func := "loop.example/g01257/laws.FnExactAreCalls", spec := "fnExactAreCalls", unfollowed := true, recurses := true, leaving := true, apart := false }
def FnExactAreCallsSaid : Prop := fnExactAreCallsRow.holds Try.pinned (OpenSpec.ofChange fnExactAreCallsSpec)

/-- ITS FALSE NEIGHBOUR: 'it returns false'. Refute it at one input. -/
def fnExactAreCallsWrong : ChangeSpec := { name := "fnExactAreCalls", fn := fun _ => fun
  | [d1, d2] => { results := [.lit (.bool false)], args := [d1, d2] }
  | _ => none }
def FnExactAreCallsWrongFalsely : Prop := fnExactAreCallsRow.holds Try.pinned (OpenSpec.ofChange fnExactAreCallsWrong)

/-- 'laws.FnExactAllKnowAll': WHATEVER THE INPUT: true; the input reads as it did. -/
def fnExactAllKnowAllSpec : ChangeSpec := { name := "fnExactAllKnowAll", fn := fun _ => fun
  | [d1, d2] => { results := [.lit (.bool true)], args := [d1, d2] }
  | _ => none }
def fnExactAllKnowAllRow : OpenClaim := { program := "ytgkedgfbncljbaa", sum := "c5fce132349fd60666428c0f6459004d9a32a47258765f546e63e3b725c06b1f", func := "loop.example/g01257/laws.FnExactAllKnowAll", spec := "fnExactAllKnowAll", unfollowed := true, recurses := true, leaving := true, apart := false }
def FnExactAllKnowAllSaid : Prop := fnExactAllKnowAllRow.holds Try.pinned (OpenSpec.ofChange fnExactAllKnowAllSpec)

/-- ITS FALSE NEIGHBOUR: 'it returns false'. Refute it at one input. -/
def fnExactAllKnowAllWrong : ChangeSpec := { name := "fnExactAllKnowAll", fn := fun _ => fun
  | [d1, d2] => { results := [.lit (.bool false)], args := [d1, d2] }
  | _ => none }
def FnExactAllKnowAllWrongFalsely : Prop := fnExactAllKnowAllRow.holds Try.pinned (OpenSpec.ofChange fnExactAllKnowAllWrong)

/-- 'laws.FnExactFewestCalls': WHATEVER THE INPUT: true; the input reads as it did. -/
def fnExactFewestCallsSpec : ChangeSpec := { name := "fnExactFewestCalls", fn := fun _ => fun
  | [d] => { results := [.lit (.bool true)], args := [d] }
  | _ => none }
def fnExactFewestCallsRow : OpenClaim := { program := "ytgkedgfbncljbaa", sum := "c5fce132349fd60666428c0f6459004d9a32a47258765f546e63e3b725c06b1f", func := "loop.example/g01257/laws.FnExactFewestCalls", spec := "fnExactFewestCalls", apart := false }
def FnExactFewestCallsSaid : Prop := fnExactFewestCallsRow.holds Try.pinned (OpenSpec.ofChange fnExactFewestCallsSpec)

/-- ITS FALSE NEIGHBOUR: 'it returns false'. Refute it at one input. -/
def fnExactFewestCallsWrong : ChangeSpec := { name := "fnExactFewestCalls", fn := fun _ => fun
  | [d] => { results := [.lit (.bool false)], args := [d] }
  | _ => none }
def FnExactFewestCallsWrongFalsely : Prop := fnExactFewestCallsRow.holds Try.pinned (OpenSpec.ofChange fnExactFewestCallsWrong)

/-- 'laws.FnExactGossipCalls': WHATEVER THE INPUT: true; the input reads as it did. -/
def fnExactGossipCallsSpec : ChangeSpec := { name := "fnExactGossipCalls", fn := fun _ => fun
  | [d] => { results := [.lit (.bool true)], args := [d] }
  | _ => none }
def fnExactGossipCallsRow : OpenClaim := { program := "ytgkedgfbncljbaa", sum := "c5fce132349fd60666428c0f6459004d9a32a47258765f546e63e3b725c06b1f", func := "loop.example/g01257/laws.FnExactGossipCalls", spec := "fnExactGossipCalls", apart := false }
def FnExactGossipCallsSaid : Prop := fnExactGossipCallsRow.holds Try.pinned (OpenSpec.ofChange fnExactGossipCallsSpec)

/-- ITS FALSE NEIGHBOUR: 'it returns false'. Refute it at one input. -/
def fnExactGossipCallsWrong : ChangeSpec := { name := "fnExactGossipCalls", fn := fun _ => fun
  | [d] => { results := [.lit (.bool false)], args := [d] }
  | _ => none }
def FnExactGossipCallsWrongFalsely : Prop := fnExactGossipCallsRow.holds Try.pinned (OpenSpec.ofChange fnExactGossipCallsWrong)

/-- 'laws.FnExactUselessCalls': WHATEVER THE INPUT: true; the input reads as it did. -/
def fnExactUselessCallsSpec : ChangeSpec := { name := "fnExactUselessCalls", fn := fun _ => fun
  | [d1, d2] => { results := [.lit (.bool true)], args := [d1, d2] }
  | _ => none }
def fnExactUselessCallsRow : OpenClaim := { program := "ytgkedgfbncljbaa", sum := "c5fce132349fd60666428c0f6459004d9a32a47258765f546e63e3b725c06b1f", func := "loop.example/g01257/laws.FnExactUselessCalls", spec := "fnExactUselessCalls", unfollowed := true, recurses := true, leaving := true, apart := false }
def FnExactUselessCallsSaid : Prop := fnExactUselessCallsRow.holds Try.pinned (OpenSpec.ofChange fnExactUselessCallsSpec)

/-- ITS FALSE NEIGHBOUR: 'it returns false'. Refute it at one input. -/
def fnExactUselessCallsWrong : ChangeSpec := { name := "fnExactUselessCalls", fn := fun _ => fun
  | [d1, d2] => { results := [.lit (.bool false)], args := [d1, d2] }
  | _ => none }
def FnExactUselessCallsWrongFalsely : Prop := fnExactUselessCallsRow.holds Try.pinned (OpenSpec.ofChange fnExactUselessCallsWrong)

/-- 'laws.FnExactFirstHeard': WHATEVER THE INPUT: true; the input reads as it did. -/
def fnExactFirstHeardSpec : ChangeSpec := { name := "fnExactFirstHeard", fn := fun _ => fun
  | [d1, d2, d3, d4] => { results := [.lit (.bool true)], args := [d1, d2, d3, d4] }
  | _ => none }
def fnExactFirstHeardRow : OpenClaim := { program := "ytgkedgfbncljbaa", sum := "c5fce132349fd60666428c0f6459004d9a32a47258765f546e63e3b725c06b1f", func := "loop.example/g01257/laws.FnExactFirstHeard", spec := "fnExactFirstHeard", unfollowed := true, recurses := true, leaving := true, apart := false }
def FnExactFirstHeardSaid : Prop := fnExactFirstHeardRow.holds Try.pinned (OpenSpec.ofChange fnExactFirstHeardSpec)

/-- ITS FALSE NEIGHBOUR: 'it returns false'. Refute it at one input. -/
def fnExactFirstHeardWrong : ChangeSpec := { name := "fnExactFirstHeard", fn := fun _ => fun
  | [d1, d2, d3, d4] => { results := [.lit (.bool false)], args := [d1, d2, d3, d4] }
  | _ => none }
def FnExactFirstHeardWrongFalsely : Prop := fnExactFirstHeardRow.holds Try.pinned (OpenSpec.ofChange fnExactFirstHeardWrong)

/-- 'laws.FnExactRoundsForAll': WHATEVER THE INPUT: true; the input reads as it did. -/
def fnExactRoundsForAllSpec : ChangeSpec := { name := "fnExactRoundsForAll", fn := fun _ => fun
  | [d] => { results := [.lit (.bool true)], args := [d] }
  | _ => none }
def fnExactRoundsForAllRow : OpenClaim := { program := "ytgkedgfbncljbaa", sum := "c5fce132349fd60666428c0f6459004d9a32a47258765f546e63e3b725c06b1f", func := "loop.example/g01257/laws.FnExactRoundsForAll", spec := "fnExactRoundsForAll", apart := false }
def FnExactRoundsForAllSaid : Prop := fnExactRoundsForAllRow.holds Try.pinned (OpenSpec.ofChange fnExactRoundsForAllSpec)

/-- ITS FALSE NEIGHBOUR: 'it returns false'. Refute it at one input. -/
def fnExactRoundsForAllWrong : ChangeSpec := { name := "fnExactRoundsForAll", fn := fun _ => fun
  | [d] => { results := [.lit (.bool false)], args := [d] }
  | _ => none }
def FnExactRoundsForAllWrongFalsely : Prop := fnExactRoundsForAllRow.holds Try.pinned (OpenSpec.ofChange fnExactRoundsForAllWrong)

/-- 'laws.FnExactRoundCalls': WHATEVER THE INPUT: true; the input reads as it did. -/
def fnExactRoundCallsSpec : ChangeSpec := { name := "fnExactRoundCalls", fn := fun _ => fun
  | [d] => { results := [.lit (.bool true)], args := [d] }
  | _ => none }
def fnExactRoundCallsRow : OpenClaim := { program := "ytgkedgfbncljbaa", sum := "c5fce132349fd60666428c0f6459004d9a32a47258765f546e63e3b725c06b1f", func := "loop.example/g01257/laws.FnExactRoundCalls", spec := "fnExactRoundCalls", apart := false }
def FnExactRoundCallsSaid : Prop := fnExactRoundCallsRow.holds Try.pinned (OpenSpec.ofChange fnExactRoundCallsSpec)

/-- ITS FALSE NEIGHBOUR: 'it returns false'. Refute it at one input. -/
def fnExactRoundCallsWrong : ChangeSpec := { name := "fnExactRoundCalls", fn := fun _ => fun
  | [d] => { results := [.lit (.bool false)], args := [d] }
  | _ => none }
def FnExactRoundCallsWrongFalsely : Prop := fnExactRoundCallsRow.holds Try.pinned (OpenSpec.ofChange fnExactRoundCallsWrong)

/- THE SECOND FORM. 'bulk': how many values and letters a reading holds, each counted each time it is reached (what is shared counts as often as it is met; a slice's spare places count too). A statement '..UptoSaid' is the law's where the arguments, and the package variables that the reading takes, are together of bulk at most 1048576: NARROWER than '..Said'. Prove '..Said' where nothing that the law and all that it calls make is longer than what came in: it says more and counts as full. Else prove '..UptoSaid'. A law counts once. -/
mutual
def uptoBulk {H : Type} : DataW H → Nat
  | .lit (.string bytes) => bytes.length + 1
  | .lit _ => 1
  | .nil => 1
  | .ptr d => uptoBulk d + 1
  | .slice elems spare => uptoBulkAll elems + uptoBulkAll spare + 1
  | .agg parts => uptoBulkAll parts + 1
  | .iface _ d => uptoBulk d + 1
  | .map entries => uptoBulkEntries entries + 1
  | .held _ => 1
def uptoBulkAll {H : Type} : List (DataW H) → Nat
  | [] => 0
  | d :: r => uptoBulk d + uptoBulkAll r
def uptoBulkEntries {H : Type} : List (Lit × DataW H) → Nat
  | [] => 0
  | x :: r => uptoBulkEntry x + uptoBulkEntries r
def uptoBulkEntry {H : Type} : Lit × DataW H → Nat
  | (.string bytes, d) => bytes.length + uptoBulk d + 1
  | (_, d) => uptoBulk d + 1
 end
def uptoSmall : (H : Type) → List (DataW H) → Bool := fun _ ds => decide (uptoBulkAll ds ≤ 1048576)
def OpenSpec.upto (s : _root_.Go.ChangeSpec) : _root_.Go.OpenSpec := { _root_.Go.OpenSpec.ofChange s with cond := some uptoSmall }

/-- 'laws.FnExactCouplesParty', WHERE WHAT IT READS IS OF BULK AT MOST 1048576: true; the input reads as it did. -/
def fnExactCouplesPartyUptoRow : OpenClaim := { program := "ytgkedgfbncljbaa", sum := "c5fce132349fd60666428c0f6459004d9a32a47258765f546e63e3b725c06b1f", func := "loop.example/g01257/laws.FnExactCouplesParty", spec := "fnExactCouplesParty", unfollowed := true, recurses := true, leaving := true, apart := false, narrowed := true }
def FnExactCouplesPartyUptoSaid : Prop := fnExactCouplesPartyUptoRow.holds Try.pinned (OpenSpec.upto fnExactCouplesPartySpec)

/-- 'laws.FnExactAreCouples', WHERE WHAT IT READS IS OF BULK AT MOST 1048576: true; the input reads as it did. -/
def fnExactAreCouplesUptoRow : OpenClaim := { program := "ytgkedgfbncljbaa", sum := "c5fce132349fd60666428c0f6459004d9a32a47258765f546e63e3b725c06b1f", func := "loop.example/g01257/laws.FnExactAreCouples", spec := "fnExactAreCouples", unfollowed := true, recurses := true, leaving := true, apart := false, narrowed := true }
def FnExactAreCouplesUptoSaid : Prop := fnExactAreCouplesUptoRow.holds Try.pinned (OpenSpec.upto fnExactAreCouplesSpec)

/-- 'laws.FnExactToldNumbers', WHERE WHAT IT READS IS OF BULK AT MOST 1048576: true; the input reads as it did. -/
def fnExactToldNumbersUptoRow : OpenClaim := { program := "ytgkedgfbncljbaa", sum := "c5fce132349fd60666428c0f6459004d9a32a47258765f546e63e3b725c06b1f", func := "loop.example/g01257/laws.FnExactToldNumbers", spec := "fnExactToldNumbers", unfollowed := true, recurses := true, leaving := true, apart := false, narrowed := true }
def FnExactToldNumbersUptoSaid : Prop := fnExactToldNumbersUptoRow.holds Try.pinned (OpenSpec.upto fnExactToldNumbersSpec)

/-- 'laws.FnExactSpouseNumber', WHERE WHAT IT READS IS OF BULK AT MOST 1048576: true; the input reads as it did. -/
def fnExactSpouseNumberUptoRow : OpenClaim := { program := "ytgkedgfbncljbaa", sum := "c5fce132349fd60666428c0f6459004d9a32a47258765f546e63e3b725c06b1f", func := "loop.example/g01257/laws.FnExactSpouseNumber", spec := "fnExactSpouseNumber", unfollowed := true, recurses := true, leaving := true, apart := false, narrowed := true }
def FnExactSpouseNumberUptoSaid : Prop := fnExactSpouseNumberUptoRow.holds Try.pinned (OpenSpec.upto fnExactSpouseNumberSpec)

/-- 'laws.FnExactIsFame', WHERE WHAT IT READS IS OF BULK AT MOST 1048576: true; the input reads as it did. -/
def fnExactIsFameUptoRow : OpenClaim := { program := "ytgkedgfbncljbaa", sum := "c5fce132349fd60666428c0f6459004d9a32a47258765f546e63e3b725c06b1f", func := "loop.example/g01257/laws.FnExactIsFame", spec := "fnExactIsFame", apart := false, narrowed := true }
def FnExactIsFameUptoSaid : Prop := fnExactIsFameUptoRow.holds Try.pinned (OpenSpec.upto fnExactIsFameSpec)

/-- 'laws.FnExactStarOf', WHERE WHAT IT READS IS OF BULK AT MOST 1048576: true; the input reads as it did. -/
def fnExactStarOfUptoRow : OpenClaim := { program := "ytgkedgfbncljbaa", sum := "c5fce132349fd60666428c0f6459004d9a32a47258765f546e63e3b725c06b1f", func := "loop.example/g01257/laws.FnExactStarOf", spec := "fnExactStarOf", apart := false, narrowed := true }
def FnExactStarOfUptoSaid : Prop := fnExactStarOfUptoRow.holds Try.pinned (OpenSpec.upto fnExactStarOfSpec)

/-- 'laws.FnExactQuestionsForStar', WHERE WHAT IT READS IS OF BULK AT MOST 1048576: true; the input reads as it did. -/
def fnExactQuestionsForStarUptoRow : OpenClaim := { program := "ytgkedgfbncljbaa", sum := "c5fce132349fd60666428c0f6459004d9a32a47258765f546e63e3b725c06b1f", func := "loop.example/g01257/laws.FnExactQuestionsForStar", spec := "fnExactQuestionsForStar", apart := false, narrowed := true }
def FnExactQuestionsForStarUptoSaid : Prop := fnExactQuestionsForStarUptoRow.holds Try.pinned (OpenSpec.upto fnExactQuestionsForStarSpec)

/-- 'laws.FnExactAreCalls', WHERE WHAT IT READS IS OF BULK AT MOST 1048576: true; the input reads as it did. -/
def fnExactAreCallsUptoRow : OpenClaim := { program := "ytgkedgfbncljbaa", sum := "c5fce132349fd60666428c0f6459004d9a32a47258765f546e63e3b725c06b1f", func := "loop.example/g01257/laws.FnExactAreCalls", spec := "fnExactAreCalls", unfollowed := true, recurses := true, leaving := true, apart := false, narrowed := true }
def FnExactAreCallsUptoSaid : Prop := fnExactAreCallsUptoRow.holds Try.pinned (OpenSpec.upto fnExactAreCallsSpec)

/-- 'laws.FnExactAllKnowAll', WHERE WHAT IT READS IS OF BULK AT MOST 1048576: true; the input reads as it did. -/
def fnExactAllKnowAllUptoRow : OpenClaim := { program := "ytgkedgfbncljbaa", sum := "c5fce132349fd60666428c0f6459004d9a32a47258765f546e63e3b725c06b1f", func := "loop.example/g01257/laws.FnExactAllKnowAll", spec := "fnExactAllKnowAll", unfollowed := true, recurses := true, leaving := true, apart := false, narrowed := true }
def FnExactAllKnowAllUptoSaid : Prop := fnExactAllKnowAllUptoRow.holds Try.pinned (OpenSpec.upto fnExactAllKnowAllSpec)

/-- 'laws.FnExactFewestCalls', WHERE WHAT IT READS IS OF BULK AT MOST 1048576: true; the input reads as it did. -/
def fnExactFewestCallsUptoRow : OpenClaim := { program := "ytgkedgfbncljbaa", sum := "c5fce132349fd60666428c0f6459004d9a32a47258765f546e63e3b725c06b1f", func := "loop.example/g01257/laws.FnExactFewestCalls", spec := "fnExactFewestCalls", apart := false, narrowed := true }
def FnExactFewestCallsUptoSaid : Prop := fnExactFewestCallsUptoRow.holds Try.pinned (OpenSpec.upto fnExactFewestCallsSpec)

/-- 'laws.FnExactGossipCalls', WHERE WHAT IT READS IS OF BULK AT MOST 1048576: true; the input reads as it did. -/
def fnExactGossipCallsUptoRow : OpenClaim := { program := "ytgkedgfbncljbaa", sum := "c5fce132349fd60666428c0f6459004d9a32a47258765f546e63e3b725c06b1f", func := "loop.example/g01257/laws.FnExactGossipCalls", spec := "fnExactGossipCalls", apart := false, narrowed := true }
def FnExactGossipCallsUptoSaid : Prop := fnExactGossipCallsUptoRow.holds Try.pinned (OpenSpec.upto fnExactGossipCallsSpec)

/-- 'laws.FnExactUselessCalls', WHERE WHAT IT READS IS OF BULK AT MOST 1048576: true; the input reads as it did. -/
def fnExactUselessCallsUptoRow : OpenClaim := { program := "ytgkedgfbncljbaa", sum := "c5fce132349fd60666428c0f6459004d9a32a47258765f546e63e3b725c06b1f", func := "loop.example/g01257/laws.FnExactUselessCalls", spec := "fnExactUselessCalls", unfollowed := true, recurses := true, leaving := true, apart := false, narrowed := true }
def FnExactUselessCallsUptoSaid : Prop := fnExactUselessCallsUptoRow.holds Try.pinned (OpenSpec.upto fnExactUselessCallsSpec)

/-- 'laws.FnExactFirstHeard', WHERE WHAT IT READS IS OF BULK AT MOST 1048576: true; the input reads as it did. -/
def fnExactFirstHeardUptoRow : OpenClaim := { program := "ytgkedgfbncljbaa", sum := "c5fce132349fd60666428c0f6459004d9a32a47258765f546e63e3b725c06b1f", func := "loop.example/g01257/laws.FnExactFirstHeard", spec := "fnExactFirstHeard", unfollowed := true, recurses := true, leaving := true, apart := false, narrowed := true }
def FnExactFirstHeardUptoSaid : Prop := fnExactFirstHeardUptoRow.holds Try.pinned (OpenSpec.upto fnExactFirstHeardSpec)

/-- 'laws.FnExactRoundsForAll', WHERE WHAT IT READS IS OF BULK AT MOST 1048576: true; the input reads as it did. -/
def fnExactRoundsForAllUptoRow : OpenClaim := { program := "ytgkedgfbncljbaa", sum := "c5fce132349fd60666428c0f6459004d9a32a47258765f546e63e3b725c06b1f", func := "loop.example/g01257/laws.FnExactRoundsForAll", spec := "fnExactRoundsForAll", apart := false, narrowed := true }
def FnExactRoundsForAllUptoSaid : Prop := fnExactRoundsForAllUptoRow.holds Try.pinned (OpenSpec.upto fnExactRoundsForAllSpec)

/-- 'laws.FnExactRoundCalls', WHERE WHAT IT READS IS OF BULK AT MOST 1048576: true; the input reads as it did. -/
def fnExactRoundCallsUptoRow : OpenClaim := { program := "ytgkedgfbncljbaa", sum := "c5fce132349fd60666428c0f6459004d9a32a47258765f546e63e3b725c06b1f", func := "loop.example/g01257/laws.FnExactRoundCalls", spec := "fnExactRoundCalls", apart := false, narrowed := true }
def FnExactRoundCallsUptoSaid : Prop := fnExactRoundCallsUptoRow.holds Try.pinned (OpenSpec.upto fnExactRoundCallsSpec)

end Rows
end Go.Proofs.Ytgkedgfbncljbaa
