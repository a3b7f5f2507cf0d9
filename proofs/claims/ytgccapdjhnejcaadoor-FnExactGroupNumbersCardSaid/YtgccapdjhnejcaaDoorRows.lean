/-
  NARROWER THAN 'FOR EVERY INPUT', by the rows' own cells (each row's printed sentence says how): FnExactGrowGroup: laid · FnExactLacksGroup: laid · FnExactGroupNumbers: laid · FnExactGroupsAt: laid · FnExactCountThrees: laid · FnExactFriendThrees: laid · FnExactThreesAt: laid · FnExactGreatestGroup: laid · FnExactGreatestStrange: laid · FnExactCountGroups: laid · FnExactHasNeither: laid.
  DERIVED. THE GIVEN ROWS OF THIS SEAT. 11 by the template 'for every input the law returns true; each argument reads behind the call as it read before'; 0 by the template 'total and deterministic' (their statements: YtgccapdjhnejcaaDoorTotals.lean).
  GIVEN WITH THE SEED: the statements are not yours to turn. If you find one false, say at which input.
  Laid BY PROGRAM, IN A SANDBOX (cutbox-rows.mjs): the forced cells as the released guide's own fill.sh prints them over the translation 49e248642d50091f… (all of the seat's roots in one cut). By AI agents, Wed Nov 11 2026. No macro, syntax, notation, axiom, sorry.
-/
import Derived.Test.YtgccapdjhnejcaaDoorChecked
import GoSem.Claim
import GoSem.ClaimJoined
import GoSem.ClaimMapViews
import Derived.JoinedTies
import Derived.KernelRfl
namespace Go.Proofs.YtgccapdjhnejcaaDoor
/- THE CELL 'sum', in the pinned program and in every row, IS THE sha256 OF THE DUMP (.gsa) THAT YtgccapdjhnejcaaDoorProg.lean LOADS. Nothing in Lean hashes anything: it is a label: what it is worth is what the hold of that sum in a sandbox is worth. -/
noncomputable def Tryd.pinned : Pinned := { name := "ytgccapdjhnejcaadoor", sum := "49e248642d50091fcca95f967c364013daf113bef515e0422c43dd58c924fcae", checked := Tryd.checked }
namespace Rows
def none {H : Type} : Left H := { results := [], args := [] }

/- WHAT THE LISTED PACKAGE-LEVEL VARIABLES READ AS WHEN THE CALL BEGINS. Each datum BY PROGRAM (the guide's laid-datum.mjs) off the statement by which the dump's own 'gosem.cut.vars' lays the variable. In a bare row this is a premise. The card (YtgccapdjhnejcaaDoorCards.lean) ties it to the program's text. -/
def laid_math_bits_deBruijn32tab {H : Type} : DataW H := .agg [.lit (.int .u8 0), .lit (.int .u8 1), .lit (.int .u8 28), .lit (.int .u8 2), .lit (.int .u8 29), .lit (.int .u8 14), .lit (.int .u8 24), .lit (.int .u8 3), .lit (.int .u8 30), .lit (.int .u8 22), .lit (.int .u8 20), .lit (.int .u8 15), .lit (.int .u8 25), .lit (.int .u8 17), .lit (.int .u8 4), .lit (.int .u8 8), .lit (.int .u8 31), .lit (.int .u8 27), .lit (.int .u8 13), .lit (.int .u8 23), .lit (.int .u8 21), .lit (.int .u8 19), .lit (.int .u8 16), .lit (.int .u8 7), .lit (.int .u8 26), .lit (.int .u8 12), .lit (.int .u8 18), .lit (.int .u8 6), .lit (.int .u8 11), .lit (.int .u8 5), .lit (.int .u8 10), .lit (.int .u8 9)]

/-- 'laws.FnExactGrowGroup': WHATEVER THE INPUT: true; the input reads as it did. -/
def fnExactGrowGroupSpec : ChangeSpec := { name := "fnExactGrowGroup", fn := fun _ => fun
  | [d1, d2] => { results := [.lit (.bool true)], args := [d1, d2] }
  | _ => none }
def fnExactGrowGroupRow : OpenClaim := { program := "ytgccapdjhnejcaadoor", sum := "49e248642d50091fcca95f967c364013daf113bef515e0422c43dd58c924fcae", func := "loop.example/g01257/laws.FnExactGrowGroup", spec := "fnExactGrowGroup", unfollowed := true, recurses := true, named := ["math/bits.deBruijn32tab"], apart := false, laid := [("math/bits.deBruijn32tab", laid_math_bits_deBruijn32tab)] }
def FnExactGrowGroupSaid : Prop := fnExactGrowGroupRow.holds Tryd.pinned (OpenSpec.ofChange fnExactGrowGroupSpec)

/-- ITS FALSE NEIGHBOUR: 'it returns false'. Refute it at one input. -/
def fnExactGrowGroupWrong : ChangeSpec := { name := "fnExactGrowGroup", fn := fun _ => fun
  | [d1, d2] => { results := [.lit (.bool false)], args := [d1, d2] }
  | _ => none }
def FnExactGrowGroupWrongFalsely : Prop := fnExactGrowGroupRow.holds Tryd.pinned (OpenSpec.ofChange fnExactGrowGroupWrong)

/-- 'laws.FnExactLacksGroup': WHATEVER THE INPUT: true; the input reads as it did. -/
def fnExactLacksGroupSpec : ChangeSpec := { name := "fnExactLacksGroup", fn := fun _ => fun
  | [d1, d2] => { results := [.lit (.bool true)], args := [d1, d2] }
  | _ => none }
def fnExactLacksGroupRow : OpenClaim := { program := "ytgccapdjhnejcaadoor", sum := "49e248642d50091fcca95f967c364013daf113bef515e0422c43dd58c924fcae", func := "loop.example/g01257/laws.FnExactLacksGroup", spec := "fnExactLacksGroup", unfollowed := true, recurses := true, named := ["math/bits.deBruijn32tab"], apart := false, laid := [("math/bits.deBruijn32tab", laid_math_bits_deBruijn32tab)] }
def FnExactLacksGroupSaid : Prop := fnExactLacksGroupRow.holds Tryd.pinned (OpenSpec.ofChange fnExactLacksGroupSpec)

/-- ITS FALSE NEIGHBOUR: 'it returns false'. Refute it at one input. -/
def fnExactLacksGroupWrong : ChangeSpec := { name := "fnExactLacksGroup", fn := fun _ => fun
  | [d1, d2] => { results := [.lit (.bool false)], args := [d1, d2] }
  | _ => none }
def FnExactLacksGroupWrongFalsely : Prop := fnExactLacksGroupRow.holds Tryd.pinned (OpenSpec.ofChange fnExactLacksGroupWrong)

/-- 'laws.FnExactGroupNumbers': WHATEVER THE INPUT: true; the input reads as it did. -/
def fnExactGroupNumbersSpec : ChangeSpec := { name := "fnExactGroupNumbers", fn := fun _ => fun
  | [d] => { results := [.lit (.bool true)], args := [d] }
  | _ => none }
def fnExactGroupNumbersRow : OpenClaim := { program := "ytgccapdjhnejcaadoor", sum := "49e248642d50091fcca95f967c364013daf113bef515e0422c43dd58c924fcae", func := "loop.example/g01257/laws.FnExactGroupNumbers", spec := "fnExactGroupNumbers", unfollowed := true, recurses := true, named := ["math/bits.deBruijn32tab"], apart := false, laid := [("math/bits.deBruijn32tab", laid_math_bits_deBruijn32tab)] }
def FnExactGroupNumbersSaid : Prop := fnExactGroupNumbersRow.holds Tryd.pinned (OpenSpec.ofChange fnExactGroupNumbersSpec)

/-- ITS FALSE NEIGHBOUR: 'it returns false'. Refute it at one input. -/
def fnExactGroupNumbersWrong : ChangeSpec := { name := "fnExactGroupNumbers", fn := fun _ => fun
  | [d] => { results := [.lit (.bool false)], args := [d] }
  | _ => none }
def FnExactGroupNumbersWrongFalsely : Prop := fnExactGroupNumbersRow.holds Tryd.pinned (OpenSpec.ofChange fnExactGroupNumbersWrong)

/-- 'laws.FnExactGroupsAt': WHATEVER THE INPUT: true; the input reads as it did. -/
def fnExactGroupsAtSpec : ChangeSpec := { name := "fnExactGroupsAt", fn := fun _ => fun
  | [d1, d2] => { results := [.lit (.bool true)], args := [d1, d2] }
  | _ => none }
def fnExactGroupsAtRow : OpenClaim := { program := "ytgccapdjhnejcaadoor", sum := "49e248642d50091fcca95f967c364013daf113bef515e0422c43dd58c924fcae", func := "loop.example/g01257/laws.FnExactGroupsAt", spec := "fnExactGroupsAt", unfollowed := true, recurses := true, named := ["math/bits.deBruijn32tab"], apart := false, laid := [("math/bits.deBruijn32tab", laid_math_bits_deBruijn32tab)] }
def FnExactGroupsAtSaid : Prop := fnExactGroupsAtRow.holds Tryd.pinned (OpenSpec.ofChange fnExactGroupsAtSpec)

/-- ITS FALSE NEIGHBOUR: 'it returns false'. Refute it at one input. -/
def fnExactGroupsAtWrong : ChangeSpec := { name := "fnExactGroupsAt", fn := fun _ => fun
  | [d1, d2] => { results := [.lit (.bool false)], args := [d1, d2] }
  | _ => none }
def FnExactGroupsAtWrongFalsely : Prop := fnExactGroupsAtRow.holds Tryd.pinned (OpenSpec.ofChange fnExactGroupsAtWrong)

/-- 'laws.FnExactCountThrees': WHATEVER THE INPUT: true; the input reads as it did. -/
def fnExactCountThreesSpec : ChangeSpec := { name := "fnExactCountThrees", fn := fun _ => fun
  | [d] => { results := [.lit (.bool true)], args := [d] }
  | _ => none }
def fnExactCountThreesRow : OpenClaim := { program := "ytgccapdjhnejcaadoor", sum := "49e248642d50091fcca95f967c364013daf113bef515e0422c43dd58c924fcae", func := "loop.example/g01257/laws.FnExactCountThrees", spec := "fnExactCountThrees", unfollowed := true, recurses := true, named := ["math/bits.deBruijn32tab"], apart := false, laid := [("math/bits.deBruijn32tab", laid_math_bits_deBruijn32tab)] }
def FnExactCountThreesSaid : Prop := fnExactCountThreesRow.holds Tryd.pinned (OpenSpec.ofChange fnExactCountThreesSpec)

/-- ITS FALSE NEIGHBOUR: 'it returns false'. Refute it at one input. -/
def fnExactCountThreesWrong : ChangeSpec := { name := "fnExactCountThrees", fn := fun _ => fun
  | [d] => { results := [.lit (.bool false)], args := [d] }
  | _ => none }
def FnExactCountThreesWrongFalsely : Prop := fnExactCountThreesRow.holds Tryd.pinned (OpenSpec.ofChange fnExactCountThreesWrong)

/-- 'laws.FnExactFriendThrees': WHATEVER THE INPUT: true; the input reads as it did. -/
def fnExactFriendThreesSpec : ChangeSpec := { name := "fnExactFriendThrees", fn := fun _ => fun
  | [d] => { results := [.lit (.bool true)], args := [d] }
  | _ => none }
def fnExactFriendThreesRow : OpenClaim := { program := "ytgccapdjhnejcaadoor", sum := "49e248642d50091fcca95f967c364013daf113bef515e0422c43dd58c924fcae", func := "loop.example/g01257/laws.FnExactFriendThrees", spec := "fnExactFriendThrees", unfollowed := true, recurses := true, named := ["math/bits.deBruijn32tab"], apart := false, laid := [("math/bits.deBruijn32tab", laid_math_bits_deBruijn32tab)] }
def FnExactFriendThreesSaid : Prop := fnExactFriendThreesRow.holds Tryd.pinned (OpenSpec.ofChange fnExactFriendThreesSpec)

/-- ITS FALSE NEIGHBOUR: 'it returns false'. Refute it at one input. -/
def fnExactFriendThreesWrong : ChangeSpec := { name := "fnExactFriendThrees", fn := fun _ => fun
  | [d] => { results := [.lit (.bool false)], args := [d] }
  | _ => none }
def FnExactFriendThreesWrongFalsely : Prop := fnExactFriendThreesRow.holds Tryd.pinned (OpenSpec.ofChange fnExactFriendThreesWrong)

/-- 'laws.FnExactThreesAt': WHATEVER THE INPUT: true; the input reads as it did. -/
def fnExactThreesAtSpec : ChangeSpec := { name := "fnExactThreesAt", fn := fun _ => fun
  | [d1, d2] => { results := [.lit (.bool true)], args := [d1, d2] }
  | _ => none }
def fnExactThreesAtRow : OpenClaim := { program := "ytgccapdjhnejcaadoor", sum := "49e248642d50091fcca95f967c364013daf113bef515e0422c43dd58c924fcae", func := "loop.example/g01257/laws.FnExactThreesAt", spec := "fnExactThreesAt", unfollowed := true, recurses := true, named := ["math/bits.deBruijn32tab"], apart := false, laid := [("math/bits.deBruijn32tab", laid_math_bits_deBruijn32tab)] }
def FnExactThreesAtSaid : Prop := fnExactThreesAtRow.holds Tryd.pinned (OpenSpec.ofChange fnExactThreesAtSpec)

/-- ITS FALSE NEIGHBOUR: 'it returns false'. Refute it at one input. -/
def fnExactThreesAtWrong : ChangeSpec := { name := "fnExactThreesAt", fn := fun _ => fun
  | [d1, d2] => { results := [.lit (.bool false)], args := [d1, d2] }
  | _ => none }
def FnExactThreesAtWrongFalsely : Prop := fnExactThreesAtRow.holds Tryd.pinned (OpenSpec.ofChange fnExactThreesAtWrong)

/-- 'laws.FnExactGreatestGroup': WHATEVER THE INPUT: true; the input reads as it did. -/
def fnExactGreatestGroupSpec : ChangeSpec := { name := "fnExactGreatestGroup", fn := fun _ => fun
  | [d] => { results := [.lit (.bool true)], args := [d] }
  | _ => none }
def fnExactGreatestGroupRow : OpenClaim := { program := "ytgccapdjhnejcaadoor", sum := "49e248642d50091fcca95f967c364013daf113bef515e0422c43dd58c924fcae", func := "loop.example/g01257/laws.FnExactGreatestGroup", spec := "fnExactGreatestGroup", unfollowed := true, recurses := true, named := ["math/bits.deBruijn32tab"], apart := false, laid := [("math/bits.deBruijn32tab", laid_math_bits_deBruijn32tab)] }
def FnExactGreatestGroupSaid : Prop := fnExactGreatestGroupRow.holds Tryd.pinned (OpenSpec.ofChange fnExactGreatestGroupSpec)

/-- ITS FALSE NEIGHBOUR: 'it returns false'. Refute it at one input. -/
def fnExactGreatestGroupWrong : ChangeSpec := { name := "fnExactGreatestGroup", fn := fun _ => fun
  | [d] => { results := [.lit (.bool false)], args := [d] }
  | _ => none }
def FnExactGreatestGroupWrongFalsely : Prop := fnExactGreatestGroupRow.holds Tryd.pinned (OpenSpec.ofChange fnExactGreatestGroupWrong)

/-- 'laws.FnExactGreatestStrange': WHATEVER THE INPUT: true; the input reads as it did. -/
def fnExactGreatestStrangeSpec : ChangeSpec := { name := "fnExactGreatestStrange", fn := fun _ => fun
  | [d] => { results := [.lit (.bool true)], args := [d] }
  | _ => none }
def fnExactGreatestStrangeRow : OpenClaim := { program := "ytgccapdjhnejcaadoor", sum := "49e248642d50091fcca95f967c364013daf113bef515e0422c43dd58c924fcae", func := "loop.example/g01257/laws.FnExactGreatestStrange", spec := "fnExactGreatestStrange", unfollowed := true, recurses := true, named := ["math/bits.deBruijn32tab"], apart := false, laid := [("math/bits.deBruijn32tab", laid_math_bits_deBruijn32tab)] }
def FnExactGreatestStrangeSaid : Prop := fnExactGreatestStrangeRow.holds Tryd.pinned (OpenSpec.ofChange fnExactGreatestStrangeSpec)

/-- ITS FALSE NEIGHBOUR: 'it returns false'. Refute it at one input. -/
def fnExactGreatestStrangeWrong : ChangeSpec := { name := "fnExactGreatestStrange", fn := fun _ => fun
  | [d] => { results := [.lit (.bool false)], args := [d] }
  | _ => none }
def FnExactGreatestStrangeWrongFalsely : Prop := fnExactGreatestStrangeRow.holds Tryd.pinned (OpenSpec.ofChange fnExactGreatestStrangeWrong)

/-- 'laws.FnExactCountGroups': WHATEVER THE INPUT: true; the input reads as it did. -/
def fnExactCountGroupsSpec : ChangeSpec := { name := "fnExactCountGroups", fn := fun _ => fun
  | [d1, d2] => { results := [.lit (.bool true)], args := [d1, d2] }
  | _ => none }
def fnExactCountGroupsRow : OpenClaim := { program := "ytgccapdjhnejcaadoor", sum := "49e248642d50091fcca95f967c364013daf113bef515e0422c43dd58c924fcae", func := "loop.example/g01257/laws.FnExactCountGroups", spec := "fnExactCountGroups", unfollowed := true, recurses := true, named := ["math/bits.deBruijn32tab"], apart := false, laid := [("math/bits.deBruijn32tab", laid_math_bits_deBruijn32tab)] }
def FnExactCountGroupsSaid : Prop := fnExactCountGroupsRow.holds Tryd.pinned (OpenSpec.ofChange fnExactCountGroupsSpec)

/-- ITS FALSE NEIGHBOUR: 'it returns false'. Refute it at one input. -/
def fnExactCountGroupsWrong : ChangeSpec := { name := "fnExactCountGroups", fn := fun _ => fun
  | [d1, d2] => { results := [.lit (.bool false)], args := [d1, d2] }
  | _ => none }
def FnExactCountGroupsWrongFalsely : Prop := fnExactCountGroupsRow.holds Tryd.pinned (OpenSpec.ofChange fnExactCountGroupsWrong)

/-- 'laws.FnExactHasNeither': WHATEVER THE INPUT: true; the input reads as it did. -/
def fnExactHasNeitherSpec : ChangeSpec := { name := "fnExactHasNeither", fn := fun _ => fun
  | [d1, d2, d3] => { results := [.lit (.bool true)], args := [d1, d2, d3] }
  | _ => none }
def fnExactHasNeitherRow : OpenClaim := { program := "ytgccapdjhnejcaadoor", sum := "49e248642d50091fcca95f967c364013daf113bef515e0422c43dd58c924fcae", func := "loop.example/g01257/laws.FnExactHasNeither", spec := "fnExactHasNeither", unfollowed := true, recurses := true, named := ["math/bits.deBruijn32tab"], apart := false, laid := [("math/bits.deBruijn32tab", laid_math_bits_deBruijn32tab)] }
def FnExactHasNeitherSaid : Prop := fnExactHasNeitherRow.holds Tryd.pinned (OpenSpec.ofChange fnExactHasNeitherSpec)

/-- ITS FALSE NEIGHBOUR: 'it returns false'. Refute it at one input. -/
def fnExactHasNeitherWrong : ChangeSpec := { name := "fnExactHasNeither", fn := fun _ => fun
  | [d1, d2, d3] => { results := [.lit (.bool false)], args := [d1, d2, d3] }
  | _ => none }
def FnExactHasNeitherWrongFalsely : Prop := fnExactHasNeitherRow.holds Tryd.pinned (OpenSpec.ofChange fnExactHasNeitherWrong)

/- THE SECOND FORM. 'bulk': how many values and letters a reading holds, each counted each time it is reached (what is shared counts as often as it is met; a slice's spare places count too). A statement '..UptoSaid' is the law's where the arguments, and the package variables that the reading takes, are together of bulk at most 1048576: NARROWER than '..Said'. Prove '..Said' where nothing that the law and all that it calls make is longer than what came in: it says more and counts as full. Else prove '..UptoSaid'. A law counts once. -/
mutual
def uptoBulk {H : Type} : DataW H → Nat
  | .lit (.string bytes) => bytes.length + 1
  | .lit _ => 1
  | .nil => 1
  | .ptr d => uptoBulk d + 1
  | .slice elems spare => uptoBulkAll elems + uptoBulkAll spare + 1
  | .agg parts => uptoBulkAll parts + 1
  | .iface _ d => uptoBulk d + 1
  | .map entries => uptoBulkEntries entries + 1
  | .held _ => 1
def uptoBulkAll {H : Type} : List (DataW H) → Nat
  | [] => 0
  | d :: r => uptoBulk d + uptoBulkAll r
def uptoBulkEntries {H : Type} : List (Lit × DataW H) → Nat
  | [] => 0
  | x :: r => uptoBulkEntry x + uptoBulkEntries r
def uptoBulkEntry {H : Type} : Lit × DataW H → Nat
  | (.string bytes, d) => bytes.length + uptoBulk d + 1
  | (_, d) => uptoBulk d + 1
 end
def uptoSmall : (H : Type) → List (DataW H) → Bool := fun _ ds => decide (uptoBulkAll ds ≤ 1048576)
def OpenSpec.upto (s : _root_.Go.ChangeSpec) : _root_.Go.OpenSpec := { _root_.Go.OpenSpec.ofChange s with cond := some uptoSmall }

/-- 'laws.FnExactGrowGroup', WHERE WHAT IT READS IS OF BULK AT MOST 1048576: true; the input reads as it did. -/
def fnExactGrowGroupUptoRow : OpenClaim := { program := "ytgccapdjhnejcaadoor", sum := "49e248642d50091fcca95f967c364013daf113bef515e0422c43dd58c924fcae", func := "loop.example/g01257/laws.FnExactGrowGroup", spec := "fnExactGrowGroup", unfollowed := true, recurses := true, named := ["math/bits.deBruijn32tab"], apart := false, laid := [("math/bits.deBruijn32tab", laid_math_bits_deBruijn32tab)], narrowed := true }
def FnExactGrowGroupUptoSaid : Prop := fnExactGrowGroupUptoRow.holds Tryd.pinned (OpenSpec.upto fnExactGrowGroupSpec)

/-- 'laws.FnExactLacksGroup', WHERE WHAT IT READS IS OF BULK AT MOST 1048576: true; the input reads as it did. -/
def fnExactLacksGroupUptoRow : OpenClaim := { program := "ytgccapdjhnejcaadoor", sum := "49e248642d50091fcca95f967c364013daf113bef515e0422c43dd58c924fcae", func := "loop.example/g01257/laws.FnExactLacksGroup", spec := "fnExactLacksGroup", unfollowed := true, recurses := true, named := ["math/bits.deBruijn32tab"], apart := false, laid := [("math/bits.deBruijn32tab", laid_math_bits_deBruijn32tab)], narrowed := true }
def FnExactLacksGroupUptoSaid : Prop := fnExactLacksGroupUptoRow.holds Tryd.pinned (OpenSpec.upto fnExactLacksGroupSpec)

/-- 'laws.FnExactGroupNumbers', WHERE WHAT IT READS IS OF BULK AT MOST 1048576: true; the input reads as it did. -/
def fnExactGroupNumbersUptoRow : OpenClaim := { program := "ytgccapdjhnejcaadoor", sum := "49e248642d50091fcca95f967c364013daf113bef515e0422c43dd58c924fcae", func := "loop.example/g01257/laws.FnExactGroupNumbers", spec := "fnExactGroupNumbers", unfollowed := true, recurses := true, named := ["math/bits.deBruijn32tab"], apart := false, laid := [("math/bits.deBruijn32tab", laid_math_bits_deBruijn32tab)], narrowed := true }
def FnExactGroupNumbersUptoSaid : Prop := fnExactGroupNumbersUptoRow.holds Tryd.pinned (OpenSpec.upto fnExactGroupNumbersSpec)

/-- 'laws.FnExactGroupsAt', WHERE WHAT IT READS IS OF BULK AT MOST 1048576: true; the input reads as it did. -/
def fnExactGroupsAtUptoRow : OpenClaim := { program := "ytgccapdjhnejcaadoor", sum := "49e248642d50091fcca95f967c364013daf113bef515e0422c43dd58c924fcae", func := "loop.example/g01257/laws.FnExactGroupsAt", spec := "fnExactGroupsAt", unfollowed := true, recurses := true, named := ["math/bits.deBruijn32tab"], apart := false, laid := [("math/bits.deBruijn32tab", laid_math_bits_deBruijn32tab)], narrowed := true }
def FnExactGroupsAtUptoSaid : Prop := fnExactGroupsAtUptoRow.holds Tryd.pinned (OpenSpec.upto fnExactGroupsAtSpec)

/-- 'laws.FnExactCountThrees', WHERE WHAT IT READS IS OF BULK AT MOST 1048576: true; the input reads as it did. -/
def fnExactCountThreesUptoRow : OpenClaim := { program := "ytgccapdjhnejcaadoor", sum := "49e248642d50091fcca95f967c364013daf113bef515e0422c43dd58c924fcae", func := "loop.example/g01257/laws.FnExactCountThrees", spec := "fnExactCountThrees", unfollowed := true, recurses := true, named := ["math/bits.deBruijn32tab"], apart := false, laid := [("math/bits.deBruijn32tab", laid_math_bits_deBruijn32tab)], narrowed := true }
def FnExactCountThreesUptoSaid : Prop := fnExactCountThreesUptoRow.holds Tryd.pinned (OpenSpec.upto fnExactCountThreesSpec)

/-- 'laws.FnExactFriendThrees', WHERE WHAT IT READS IS OF BULK AT MOST 1048576: true; the input reads as it did. -/
def fnExactFriendThreesUptoRow : OpenClaim := { program := "ytgccapdjhnejcaadoor", sum := "49e248642d50091fcca95f967c364013daf113bef515e0422c43dd58c924fcae", func := "loop.example/g01257/laws.FnExactFriendThrees", spec := "fnExactFriendThrees", unfollowed := true, recurses := true, named := ["math/bits.deBruijn32tab"], apart := false, laid := [("math/bits.deBruijn32tab", laid_math_bits_deBruijn32tab)], narrowed := true }
def FnExactFriendThreesUptoSaid : Prop := fnExactFriendThreesUptoRow.holds Tryd.pinned (OpenSpec.upto fnExactFriendThreesSpec)

/-- 'laws.FnExactThreesAt', WHERE WHAT IT READS IS OF BULK AT MOST 1048576: true; the input reads as it did. -/
def fnExactThreesAtUptoRow : OpenClaim := { program := "ytgccapdjhnejcaadoor", sum := "49e248642d50091fcca95f967c364013daf113bef515e0422c43dd58c924fcae", func := "loop.example/g01257/laws.FnExactThreesAt", spec := "fnExactThreesAt", unfollowed := true, recurses := true, named := ["math/bits.deBruijn32tab"], apart := false, laid := [("math/bits.deBruijn32tab", laid_math_bits_deBruijn32tab)], narrowed := true }
def FnExactThreesAtUptoSaid : Prop := fnExactThreesAtUptoRow.holds Tryd.pinned (OpenSpec.upto fnExactThreesAtSpec)

/-- 'laws.FnExactGreatestGroup', WHERE WHAT IT READS IS OF BULK AT MOST 1048576: true; the input reads as it did. -/
def fnExactGreatestGroupUptoRow : OpenClaim := { program := "ytgccapdjhnejcaadoor", sum := "49e248642d50091fcca95f967c364013daf113bef515e0422c43dd58c924fcae", func := "loop.example/g01257/laws.FnExactGreatestGroup", spec := "fnExactGreatestGroup", unfollowed := true, recurses := true, named := ["math/bits.deBruijn32tab"], apart := false, laid := [("math/bits.deBruijn32tab", laid_math_bits_deBruijn32tab)], narrowed := true }
def FnExactGreatestGroupUptoSaid : Prop := fnExactGreatestGroupUptoRow.holds Tryd.pinned (OpenSpec.upto fnExactGreatestGroupSpec)

/-- 'laws.FnExactGreatestStrange', WHERE WHAT IT READS IS OF BULK AT MOST 1048576: true; the input reads as it did. -/
def fnExactGreatestStrangeUptoRow : OpenClaim := { program := "ytgccapdjhnejcaadoor", sum := "49e248642d50091fcca95f967c364013daf113bef515e0422c43dd58c924fcae", func := "loop.example/g01257/laws.FnExactGreatestStrange", spec := "fnExactGreatestStrange", unfollowed := true, recurses := true, named := ["math/bits.deBruijn32tab"], apart := false, laid := [("math/bits.deBruijn32tab", laid_math_bits_deBruijn32tab)], narrowed := true }
def FnExactGreatestStrangeUptoSaid : Prop := fnExactGreatestStrangeUptoRow.holds Tryd.pinned (OpenSpec.upto fnExactGreatestStrangeSpec)

/-- 'laws.FnExactCountGroups', WHERE WHAT IT READS IS OF BULK AT MOST 1048576: true; the input reads as it did. -/
def fnExactCountGroupsUptoRow : OpenClaim := { program := "ytgccapdjhnejcaadoor", sum := "49e248642d50091fcca95f967c364013daf113bef515e0422c43dd58c924fcae", func := "loop.example/g01257/laws.FnExactCountGroups", spec := "fnExactCountGroups", unfollowed := true, recurses := true, named := ["math/bits.deBruijn32tab"], apart := false, laid := [("math/bits.deBruijn32tab", laid_math_bits_deBruijn32tab)], narrowed := true }
def FnExactCountGroupsUptoSaid : Prop := fnExactCountGroupsUptoRow.holds Tryd.pinned (OpenSpec.upto fnExactCountGroupsSpec)

/-- 'laws.FnExactHasNeither', WHERE WHAT IT READS IS OF BULK AT MOST 1048576: true; the input reads as it did. -/
def fnExactHasNeitherUptoRow : OpenClaim := { program := "ytgccapdjhnejcaadoor", sum := "49e248642d50091fcca95f967c364013daf113bef515e0422c43dd58c924fcae", func := "loop.example/g01257/laws.FnExactHasNeither", spec := "fnExactHasNeither", unfollowed := true, recurses := true, named := ["math/bits.deBruijn32tab"], apart := false, laid := [("math/bits.deBruijn32tab", laid_math_bits_deBruijn32tab)], narrowed := true }
def FnExactHasNeitherUptoSaid : Prop := fnExactHasNeitherUptoRow.holds Tryd.pinned (OpenSpec.upto fnExactHasNeitherSpec)

end Rows
end Go.Proofs.YtgccapdjhnejcaaDoor
