/-
  NARROWER THAN 'FOR EVERY INPUT', by the rows' own cells (each row's printed sentence says how): FnExactGrowGroup: laid · FnExactCountThrees: laid · FnExactFriendThrees: laid · FnExactGreatestGroup: laid · FnExactGreatestStrange: laid · FnExactAllGroups: laid · FnExactAllApart: laid.
  DERIVED. THE GIVEN ROWS OF THIS SEAT. 7 by the template 'for every input the law returns true; each argument reads behind the call as it read before'; 0 by the template 'total and deterministic' (their statements: YtnpljmipicjacaaDoorTotals.lean).
  GIVEN WITH THE SEED: the statements are not yours to turn. If you find one false, say at which input.
  Laid BY PROGRAM, IN A SANDBOX (cutbox-rows.mjs): the forced cells as the released guide's own fill.sh prints them over the translation 799bae2287049611… (all of the seat's roots in one cut). By AI agents, Wed Nov 11 2026. No macro, syntax, notation, axiom, sorry.
-/
import Derived.Test.YtnpljmipicjacaaDoorChecked
import GoSem.Claim
import GoSem.ClaimJoined
import GoSem.ClaimMapViews
import Derived.JoinedTies
import Derived.KernelRfl
namespace Go.Proofs.YtnpljmipicjacaaDoor
/- THE CELL 'sum', in the pinned program and in every row, IS THE sha256 OF THE DUMP (.gsa) THAT YtnpljmipicjacaaDoorProg.lean LOADS. Nothing in Lean hashes anything: it is a label: what it is worth is what the hold of that sum in a sandbox is worth. -/
noncomputable def Tryd.pinned : Pinned := { name := "ytnpljmipicjacaadoor", sum := "799bae2287049611c2ebb50610f581b3398068b6fcb8a88623be526f65ee7b6f", checked := Tryd.checked }
namespace Rows
def none {H : Type} : Left H := { results := [], args := [] }

/- WHAT THE LISTED PACKAGE-LEVEL VARIABLES READ AS WHEN THE CALL BEGINS. Each datum BY PROGRAM (the guide's laid-datum.mjs) off the statement by which the dump's own 'gosem.cut.vars' lays the variable. In a bare row this is a premise. The card (YtnpljmipicjacaaDoorCards.lean) ties it to the program's text. -/
def laid_math_bits_deBruijn32tab {H : Type} : DataW H := .agg [.lit (.int .u8 0), .lit (.int .u8 1), .lit (.int .u8 28), .lit (.int .u8 2), .lit (.int .u8 29), .lit (.int .u8 14), .lit (.int .u8 24), .lit (.int .u8 3), .lit (.int .u8 30), .lit (.int .u8 22), .lit (.int .u8 20), .lit (.int .u8 15), .lit (.int .u8 25), .lit (.int .u8 17), .lit (.int .u8 4), .lit (.int .u8 8), .lit (.int .u8 31), .lit (.int .u8 27), .lit (.int .u8 13), .lit (.int .u8 23), .lit (.int .u8 21), .lit (.int .u8 19), .lit (.int .u8 16), .lit (.int .u8 7), .lit (.int .u8 26), .lit (.int .u8 12), .lit (.int .u8 18), .lit (.int .u8 6), .lit (.int .u8 11), .lit (.int .u8 5), .lit (.int .u8 10), .lit (.int .u8 9)]

/-- 'laws.FnExactGrowGroup': WHATEVER THE INPUT: true; the input reads as it did. -/
def fnExactGrowGroupSpec : ChangeSpec := { name := "fnExactGrowGroup", fn := fun _ => fun
  | [d1, d2] => { results := [.lit (.bool true)], args := [d1, d2] }
  | _ => none }
def fnExactGrowGroupRow : OpenClaim := { program := "ytnpljmipicjacaadoor", sum := "799bae2287049611c2ebb50610f581b3398068b6fcb8a88623be526f65ee7b6f", func := "loop.example/g01257/laws.FnExactGrowGroup", spec := "fnExactGrowGroup", unfollowed := true, recurses := true, named := ["math/bits.deBruijn32tab"], apart := false, laid := [("math/bits.deBruijn32tab", laid_math_bits_deBruijn32tab)] }
def FnExactGrowGroupSaid : Prop := fnExactGrowGroupRow.holds Tryd.pinned (OpenSpec.ofChange fnExactGrowGroupSpec)

/-- ITS FALSE NEIGHBOUR: 'it returns false'. Refute it at one input. -/
def fnExactGrowGroupWrong : ChangeSpec := { name := "fnExactGrowGroup", fn := fun _ => fun
  | [d1, d2] => { results := [.lit (.bool false)], args := [d1, d2] }
  | _ => none }
def FnExactGrowGroupWrongFalsely : Prop := fnExactGrowGroupRow.holds Tryd.pinned (OpenSpec.ofChange fnExactGrowGroupWrong)

/-- 'laws.FnExactCountThrees': WHATEVER THE INPUT: true; the input reads as it did. -/
def fnExactCountThreesSpec : ChangeSpec := { name := "fnExactCountThrees", fn := fun _ => fun
  | [d] => { results := [.lit (.bool true)], args := [d] }
  | _ => none }
def fnExactCountThreesRow : OpenClaim := { program := "ytnpljmipicjacaadoor", sum := "799bae2287049611c2ebb50610f581b3398068b6fcb8a88623be526f65ee7b6f", func := "loop.example/g01257/laws.FnExactCountThrees", spec := "fnExactCountThrees", unfollowed := true, recurses := true, named := ["math/bits.deBruijn32tab"], apart := false, laid := [("math/bits.deBruijn32tab", laid_math_bits_deBruijn32tab)] }
def FnExactCountThreesSaid : Prop := fnExactCountThreesRow.holds Tryd.pinned (OpenSpec.ofChange fnExactCountThreesSpec)

/-- ITS FALSE NEIGHBOUR: 'it returns false'. Refute it at one input. -/
def fnExactCountThreesWrong : ChangeSpec := { name := "fnExactCountThrees", fn := fun _ => fun
  | [d] => { results := [.lit (.bool false)], args := [d] }
  | _ => none }
def FnExactCountThreesWrongFalsely : Prop := fnExactCountThreesRow.holds Tryd.pinned (OpenSpec.ofChange fnExactCountThreesWrong)

/-- 'laws.FnExactFriendThrees': WHATEVER THE INPUT: true; the input reads as it did. -/
def fnExactFriendThreesSpec : ChangeSpec := { name := "fnExactFriendThrees", fn := fun _ => fun
  | [d] => { results := [.lit (.bool true)], args := [d] }
  | _ => none }
def fnExactFriendThreesRow : OpenClaim := { program := "ytnpljmipicjacaadoor", sum := "799bae2287049611c2ebb50610f581b3398068b6fcb8a88623be526f65ee7b6f", func := "loop.example/g01257/laws.FnExactFriendThrees", spec := "fnExactFriendThrees", unfollowed := true, recurses := true, named := ["math/bits.deBruijn32tab"], apart := false, laid := [("math/bits.deBruijn32tab", laid_math_bits_deBruijn32tab)] }
def FnExactFriendThreesSaid : Prop := fnExactFriendThreesRow.holds Tryd.pinned (OpenSpec.ofChange fnExactFriendThreesSpec)

/-- ITS FALSE NEIGHBOUR: 'it returns false'. Refute it at one input. -/
def fnExactFriendThreesWrong : ChangeSpec := { name := "fnExactFriendThrees", fn := fun _ => fun
  | [d] => { results := [.lit (.bool false)], args := [d] }
  | _ => none }
def FnExactFriendThreesWrongFalsely : Prop := fnExactFriendThreesRow.holds Tryd.pinned (OpenSpec.ofChange fnExactFriendThreesWrong)

/-- 'laws.FnExactGreatestGroup': WHATEVER THE INPUT: true; the input reads as it did. -/
def fnExactGreatestGroupSpec : ChangeSpec := { name := "fnExactGreatestGroup", fn := fun _ => fun
  | [d] => { results := [.lit (.bool true)], args := [d] }
  | _ => none }
def fnExactGreatestGroupRow : OpenClaim := { program := "ytnpljmipicjacaadoor", sum := "799bae2287049611c2ebb50610f581b3398068b6fcb8a88623be526f65ee7b6f", func := "loop.example/g01257/laws.FnExactGreatestGroup", spec := "fnExactGreatestGroup", unfollowed := true, recurses := true, named := ["math/bits.deBruijn32tab"], apart := false, laid := [("math/bits.deBruijn32tab", laid_math_bits_deBruijn32tab)] }
def FnExactGreatestGroupSaid : Prop := fnExactGreatestGroupRow.holds Tryd.pinned (OpenSpec.ofChange fnExactGreatestGroupSpec)

/-- ITS FALSE NEIGHBOUR: 'it returns false'. Refute it at one input. -/
def fnExactGreatestGroupWrong : ChangeSpec := { name := "fnExactGreatestGroup", fn := fun _ => fun
  | [d] => { results := [.lit (.bool false)], args := [d] }
  | _ => none }
def FnExactGreatestGroupWrongFalsely : Prop := fnExactGreatestGroupRow.holds Tryd.pinned (OpenSpec.ofChange fnExactGreatestGroupWrong)

/-- 'laws.FnExactGreatestStrange': WHATEVER THE INPUT: true; the input reads as it did. -/
def fnExactGreatestStrangeSpec : ChangeSpec := { name := "fnExactGreatestStrange", fn := fun _ => fun
  | [d] => { results := [.lit (.bool true)], args := [d] }
  | _ => none }
def fnExactGreatestStrangeRow : OpenClaim := { program := "ytnpljmipicjacaadoor", sum := "799bae2287049611c2ebb50610f581b3398068b6fcb8a88623be526f65ee7b6f", func := "loop.example/g01257/laws.FnExactGreatestStrange", spec := "fnExactGreatestStrange", unfollowed := true, recurses := true, named := ["math/bits.deBruijn32tab"], apart := false, laid := [("math/bits.deBruijn32tab", laid_math_bits_deBruijn32tab)] }
def FnExactGreatestStrangeSaid : Prop := fnExactGreatestStrangeRow.holds Tryd.pinned (OpenSpec.ofChange fnExactGreatestStrangeSpec)

/-- ITS FALSE NEIGHBOUR: 'it returns false'. Refute it at one input. -/
def fnExactGreatestStrangeWrong : ChangeSpec := { name := "fnExactGreatestStrange", fn := fun _ => fun
  | [d] => { results := [.lit (.bool false)], args := [d] }
  | _ => none }
def FnExactGreatestStrangeWrongFalsely : Prop := fnExactGreatestStrangeRow.holds Tryd.pinned (OpenSpec.ofChange fnExactGreatestStrangeWrong)

/-- 'laws.FnExactAllGroups': WHATEVER THE INPUT: true; the input reads as it did. -/
def fnExactAllGroupsSpec : ChangeSpec := { name := "fnExactAllGroups", fn := fun _ => fun
  | [d] => { results := [.lit (.bool true)], args := [d] }
  | _ => none }
def fnExactAllGroupsRow : OpenClaim := { program := "ytnpljmipicjacaadoor", sum := "799bae2287049611c2ebb50610f581b3398068b6fcb8a88623be526f65ee7b6f", func := "loop.example/g01257/laws.FnExactAllGroups", spec := "fnExactAllGroups", unfollowed := true, recurses := true, named := ["math/bits.deBruijn32tab"], apart := false, laid := [("math/bits.deBruijn32tab", laid_math_bits_deBruijn32tab)] }
def FnExactAllGroupsSaid : Prop := fnExactAllGroupsRow.holds Tryd.pinned (OpenSpec.ofChange fnExactAllGroupsSpec)

/-- ITS FALSE NEIGHBOUR: 'it returns false'. Refute it at one input. -/
def fnExactAllGroupsWrong : ChangeSpec := { name := "fnExactAllGroups", fn := fun _ => fun
  | [d] => { results := [.lit (.bool false)], args := [d] }
  | _ => none }
def FnExactAllGroupsWrongFalsely : Prop := fnExactAllGroupsRow.holds Tryd.pinned (OpenSpec.ofChange fnExactAllGroupsWrong)

/-- 'laws.FnExactAllApart': WHATEVER THE INPUT: true; the input reads as it did. -/
def fnExactAllApartSpec : ChangeSpec := { name := "fnExactAllApart", fn := fun _ => fun
  | [d] => { results := [.lit (.bool true)], args := [d] }
  | _ => none }
def fnExactAllApartRow : OpenClaim := { program := "ytnpljmipicjacaadoor", sum := "799bae2287049611c2ebb50610f581b3398068b6fcb8a88623be526f65ee7b6f", func := "loop.example/g01257/laws.FnExactAllApart", spec := "fnExactAllApart", unfollowed := true, recurses := true, named := ["math/bits.deBruijn32tab"], apart := false, laid := [("math/bits.deBruijn32tab", laid_math_bits_deBruijn32tab)] }
def FnExactAllApartSaid : Prop := fnExactAllApartRow.holds Tryd.pinned (OpenSpec.ofChange fnExactAllApartSpec)

/-- ITS FALSE NEIGHBOUR: 'it returns false'. Refute it at one input. -/
def fnExactAllApartWrong : ChangeSpec := { name := "fnExactAllApart", fn := fun _ => fun
  | [d] => { results := [.lit (.bool false)], args := [d] }
  | _ => none }
def FnExactAllApartWrongFalsely : Prop := fnExactAllApartRow.holds Tryd.pinned (OpenSpec.ofChange fnExactAllApartWrong)

/- THE SECOND FORM. 'bulk': how many values and letters a reading holds, each counted each time it is reached (what is shared counts as often as it is met; a slice's spare places count too). A statement '..UptoSaid' is the law's where the arguments, and the package variables that the reading takes, are together of bulk at most 1048576: NARROWER than '..Said'. Prove '..Said' where nothing that the law and all that it calls make is longer than what came in: it says more and counts as full. Else prove '..UptoSaid'. A law counts once. -/
mutual
def uptoBulk {H : Type} : DataW H → Nat
  | .lit (.string bytes) => bytes.length + 1
  | .lit _ => 1
  | .nil => 1
  | .ptr d => uptoBulk d + 1
  | .slice elems spare => uptoBulkAll elems + uptoBulkAll spare + 1
  | .agg parts => uptoBulkAll parts + 1
  | .iface _ d => uptoBulk d + 1
  | .map entries => uptoBulkEntries entries + 1
  | .held _ => 1
def uptoBulkAll {H : Type} : List (DataW H) → Nat
  | [] => 0
  | d :: r => uptoBulk d + uptoBulkAll r
def uptoBulkEntries {H : Type} : List (Lit × DataW H) → Nat
  | [] => 0
  | x :: r => uptoBulkEntry x + uptoBulkEntries r
def uptoBulkEntry {H : Type} : Lit × DataW H → Nat
  | (.string bytes, d) => bytes.length + uptoBulk d + 1
  | (_, d) => uptoBulk d + 1
 end
def uptoSmall : (H : Type) → List (DataW H) → Bool := fun _ ds => decide (uptoBulkAll ds ≤ 1048576)
def OpenSpec.upto (s : _root_.Go.ChangeSpec) : _root_.Go.OpenSpec := { _root_.Go.OpenSpec.ofChange s with cond := some uptoSmall }

/-- 'laws.FnExactGrowGroup', WHERE WHAT IT READS IS OF BULK AT MOST 1048576: true; the input reads as it did. -/
def fnExactGrowGroupUptoRow : OpenClaim := { program := "ytnpljmipicjacaadoor", sum := "799bae2287049611c2ebb50610f581b3398068b6fcb8a88623be526f65ee7b6f", func := "loop.example/g01257/laws.FnExactGrowGroup", spec := "fnExactGrowGroup", unfollowed := true, recurses := true, named := ["math/bits.deBruijn32tab"], apart := false, laid := [("math/bits.deBruijn32tab", laid_math_bits_deBruijn32tab)], narrowed := true }
def FnExactGrowGroupUptoSaid : Prop := fnExactGrowGroupUptoRow.holds Tryd.pinned (OpenSpec.upto fnExactGrowGroupSpec)

/-- 'laws.FnExactCountThrees', WHERE WHAT IT READS IS OF BULK AT MOST 1048576: true; the input reads as it did. -/
def fnExactCountThreesUptoRow : OpenClaim := { program := "ytnpljmipicjacaadoor", sum := "799bae2287049611c2ebb50610f581b3398068b6fcb8a88623be526f65ee7b6f", func := "loop.example/g01257/laws.FnExactCountThrees", spec := "fnExactCountThrees", unfollowed := true, recurses := true, named := ["math/bits.deBruijn32tab"], apart := false, laid := [("math/bits.deBruijn32tab", laid_math_bits_deBruijn32tab)], narrowed := true }
def FnExactCountThreesUptoSaid : Prop := fnExactCountThreesUptoRow.holds Tryd.pinned (OpenSpec.upto fnExactCountThreesSpec)

/-- 'laws.FnExactFriendThrees', WHERE WHAT IT READS IS OF BULK AT MOST 1048576: true; the input reads as it did. -/
def fnExactFriendThreesUptoRow : OpenClaim := { program := "ytnpljmipicjacaadoor", sum := "799bae2287049611c2ebb50610f581b3398068b6fcb8a88623be526f65ee7b6f", func := "loop.example/g01257/laws.FnExactFriendThrees", spec := "fnExactFriendThrees", unfollowed := true, recurses := true, named := ["math/bits.deBruijn32tab"], apart := false, laid := [("math/bits.deBruijn32tab", laid_math_bits_deBruijn32tab)], narrowed := true }
def FnExactFriendThreesUptoSaid : Prop := fnExactFriendThreesUptoRow.holds Tryd.pinned (OpenSpec.upto fnExactFriendThreesSpec)

/-- 'laws.FnExactGreatestGroup', WHERE WHAT IT READS IS OF BULK AT MOST 1048576: true; the input reads as it did. -/
def fnExactGreatestGroupUptoRow : OpenClaim := { program := "ytnpljmipicjacaadoor", sum := "799bae2287049611c2ebb50610f581b3398068b6fcb8a88623be526f65ee7b6f", func := "loop.example/g01257/laws.FnExactGreatestGroup", spec := "fnExactGreatestGroup", unfollowed := true, recurses := true, named := ["math/bits.deBruijn32tab"], apart := false, laid := [("math/bits.deBruijn32tab", laid_math_bits_deBruijn32tab)], narrowed := true }
def FnExactGreatestGroupUptoSaid : Prop := fnExactGreatestGroupUptoRow.holds Tryd.pinned (OpenSpec.upto fnExactGreatestGroupSpec)

/-- 'laws.FnExactGreatestStrange', WHERE WHAT IT READS IS OF BULK AT MOST 1048576: true; the input reads as it did. -/
def fnExactGreatestStrangeUptoRow : OpenClaim := { program := "ytnpljmipicjacaadoor", sum := "799bae2287049611c2ebb50610f581b3398068b6fcb8a88623be526f65ee7b6f", func := "loop.example/g01257/laws.FnExactGreatestStrange", spec := "fnExactGreatestStrange", unfollowed := true, recurses := true, named := ["math/bits.deBruijn32tab"], apart := false, laid := [("math/bits.deBruijn32tab", laid_math_bits_deBruijn32tab)], narrowed := true }
def FnExactGreatestStrangeUptoSaid : Prop := fnExactGreatestStrangeUptoRow.holds Tryd.pinned (OpenSpec.upto fnExactGreatestStrangeSpec)

/-- 'laws.FnExactAllGroups', WHERE WHAT IT READS IS OF BULK AT MOST 1048576: true; the input reads as it did. -/
def fnExactAllGroupsUptoRow : OpenClaim := { program := "ytnpljmipicjacaadoor", sum := "799bae2287049611c2ebb50610f581b3398068b6fcb8a88623be526f65ee7b6f", func := "loop.example/g01257/laws.FnExactAllGroups", spec := "fnExactAllGroups", unfollowed := true, recurses := true, named := ["math/bits.deBruijn32tab"], apart := false, laid := [("math/bits.deBruijn32tab", laid_math_bits_deBruijn32tab)], narrowed := true }
def FnExactAllGroupsUptoSaid : Prop := fnExactAllGroupsUptoRow.holds Tryd.pinned (OpenSpec.upto fnExactAllGroupsSpec)

/-- 'laws.FnExactAllApart', WHERE WHAT IT READS IS OF BULK AT MOST 1048576: true; the input reads as it did. -/
def fnExactAllApartUptoRow : OpenClaim := { program := "ytnpljmipicjacaadoor", sum := "799bae2287049611c2ebb50610f581b3398068b6fcb8a88623be526f65ee7b6f", func := "loop.example/g01257/laws.FnExactAllApart", spec := "fnExactAllApart", unfollowed := true, recurses := true, named := ["math/bits.deBruijn32tab"], apart := false, laid := [("math/bits.deBruijn32tab", laid_math_bits_deBruijn32tab)], narrowed := true }
def FnExactAllApartUptoSaid : Prop := fnExactAllApartUptoRow.holds Tryd.pinned (OpenSpec.upto fnExactAllApartSpec)

end Rows
end Go.Proofs.YtnpljmipicjacaaDoor
