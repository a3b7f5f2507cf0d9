/-
  NARROWER THAN 'FOR EVERY INPUT', by the rows' own cells (each row's printed sentence says how): FnExactFirstSeating: laid · FnExactCountSeatings: laid · FnExactFirstRow: laid · FnExactCountRows: laid · FnExactTwoTables: laid · FnExactTablesApart: laid · FnExactCountWalks: laid · FnExactCountRoundWalks: laid · FnExactShortestRound: laid · FnExactPartyText: laid.
  DERIVED. THE GIVEN ROWS OF THIS SEAT. 10 by the template 'for every input the law returns true; each argument reads behind the call as it read before'; 0 by the template 'total and deterministic' (their statements: YtmiecebdkadhbaaDoorTotals.lean).
  GIVEN WITH THE SEED: the statements are not yours to turn. If you find one false, say at which input.
  Laid BY PROGRAM, IN A SANDBOX (cutbox-rows.mjs): the forced cells as the released guide's own fill.sh prints them over the translation 590605713e3b875e… (all of the seat's roots in one cut). By AI agents, Wed Nov 11 2026. No macro, syntax, notation, axiom, sorry.
-/
import Derived.Test.YtmiecebdkadhbaaDoorChecked
import GoSem.Claim
import GoSem.ClaimJoined
import GoSem.ClaimMapViews
import Derived.JoinedTies
import Derived.KernelRfl
namespace Go.Proofs.YtmiecebdkadhbaaDoor
/- THE CELL 'sum', in the pinned program and in every row, IS THE sha256 OF THE DUMP (.gsa) THAT YtmiecebdkadhbaaDoorProg.lean LOADS. Nothing in Lean hashes anything: it is a label: what it is worth is what the hold of that sum in a sandbox is worth. -/
noncomputable def Tryd.pinned : Pinned := { name := "ytmiecebdkadhbaadoor", sum := "590605713e3b875e9e5ebc4fae0a86159782c57ed8f83a1ddc47da3ba57f0abd", checked := Tryd.checked }
namespace Rows
def none {H : Type} : Left H := { results := [], args := [] }

/- WHAT THE LISTED PACKAGE-LEVEL VARIABLES READ AS WHEN THE CALL BEGINS. Each datum BY PROGRAM (the guide's laid-datum.mjs) off the statement by which the dump's own 'gosem.cut.vars' lays the variable. In a bare row this is a premise. The card (YtmiecebdkadhbaaDoorCards.lean) ties it to the program's text. -/
def laid_math_bits_deBruijn32tab {H : Type} : DataW H := .agg [.lit (.int .u8 0), .lit (.int .u8 1), .lit (.int .u8 28), .lit (.int .u8 2), .lit (.int .u8 29), .lit (.int .u8 14), .lit (.int .u8 24), .lit (.int .u8 3), .lit (.int .u8 30), .lit (.int .u8 22), .lit (.int .u8 20), .lit (.int .u8 15), .lit (.int .u8 25), .lit (.int .u8 17), .lit (.int .u8 4), .lit (.int .u8 8), .lit (.int .u8 31), .lit (.int .u8 27), .lit (.int .u8 13), .lit (.int .u8 23), .lit (.int .u8 21), .lit (.int .u8 19), .lit (.int .u8 16), .lit (.int .u8 7), .lit (.int .u8 26), .lit (.int .u8 12), .lit (.int .u8 18), .lit (.int .u8 6), .lit (.int .u8 11), .lit (.int .u8 5), .lit (.int .u8 10), .lit (.int .u8 9)]
def laid_math_bits_deBruijn64tab {H : Type} : DataW H := .agg [.lit (.int .u8 0), .lit (.int .u8 1), .lit (.int .u8 56), .lit (.int .u8 2), .lit (.int .u8 57), .lit (.int .u8 49), .lit (.int .u8 28), .lit (.int .u8 3), .lit (.int .u8 61), .lit (.int .u8 58), .lit (.int .u8 42), .lit (.int .u8 50), .lit (.int .u8 38), .lit (.int .u8 29), .lit (.int .u8 17), .lit (.int .u8 4), .lit (.int .u8 62), .lit (.int .u8 47), .lit (.int .u8 59), .lit (.int .u8 36), .lit (.int .u8 45), .lit (.int .u8 43), .lit (.int .u8 51), .lit (.int .u8 22), .lit (.int .u8 53), .lit (.int .u8 39), .lit (.int .u8 33), .lit (.int .u8 30), .lit (.int .u8 24), .lit (.int .u8 18), .lit (.int .u8 12), .lit (.int .u8 5), .lit (.int .u8 63), .lit (.int .u8 55), .lit (.int .u8 48), .lit (.int .u8 27), .lit (.int .u8 60), .lit (.int .u8 41), .lit (.int .u8 37), .lit (.int .u8 16), .lit (.int .u8 46), .lit (.int .u8 35), .lit (.int .u8 44), .lit (.int .u8 21), .lit (.int .u8 52), .lit (.int .u8 32), .lit (.int .u8 23), .lit (.int .u8 11), .lit (.int .u8 54), .lit (.int .u8 26), .lit (.int .u8 40), .lit (.int .u8 15), .lit (.int .u8 34), .lit (.int .u8 20), .lit (.int .u8 31), .lit (.int .u8 10), .lit (.int .u8 25), .lit (.int .u8 14), .lit (.int .u8 19), .lit (.int .u8 9), .lit (.int .u8 13), .lit (.int .u8 8), .lit (.int .u8 7), .lit (.int .u8 6)]
def laid_internal_strconv_uint64pow10 {H : Type} : DataW H := .agg [.lit (.int .u64 1), .lit (.int .u64 10), .lit (.int .u64 100), .lit (.int .u64 1000), .lit (.int .u64 10000), .lit (.int .u64 100000), .lit (.int .u64 1000000), .lit (.int .u64 10000000), .lit (.int .u64 100000000), .lit (.int .u64 1000000000), .lit (.int .u64 10000000000), .lit (.int .u64 100000000000), .lit (.int .u64 1000000000000), .lit (.int .u64 10000000000000), .lit (.int .u64 100000000000000), .lit (.int .u64 1000000000000000), .lit (.int .u64 10000000000000000), .lit (.int .u64 100000000000000000), .lit (.int .u64 1000000000000000000), .lit (.int .u64 10000000000000000000)]

/-- 'laws.FnExactFirstSeating': WHATEVER THE INPUT: true; the input reads as it did. -/
def fnExactFirstSeatingSpec : ChangeSpec := { name := "fnExactFirstSeating", fn := fun _ => fun
  | [d] => { results := [.lit (.bool true)], args := [d] }
  | _ => none }
def fnExactFirstSeatingRow : OpenClaim := { program := "ytmiecebdkadhbaadoor", sum := "590605713e3b875e9e5ebc4fae0a86159782c57ed8f83a1ddc47da3ba57f0abd", func := "loop.example/g01257/laws.FnExactFirstSeating", spec := "fnExactFirstSeating", unfollowed := true, recurses := true, named := ["math/bits.deBruijn32tab"], plainKeys := false, leaving := true, apart := false, laid := [("math/bits.deBruijn32tab", laid_math_bits_deBruijn32tab)] }
def FnExactFirstSeatingSaid : Prop := fnExactFirstSeatingRow.holds Tryd.pinned (OpenSpec.ofChange fnExactFirstSeatingSpec)

/-- ITS FALSE NEIGHBOUR: 'it returns false'. Refute it at one input. -/
def fnExactFirstSeatingWrong : ChangeSpec := { name := "fnExactFirstSeating", fn := fun _ => fun
  | [d] => { results := [.lit (.bool false)], args := [d] }
  | _ => none }
def FnExactFirstSeatingWrongFalsely : Prop := fnExactFirstSeatingRow.holds Tryd.pinned (OpenSpec.ofChange fnExactFirstSeatingWrong)

/-- 'laws.FnExactCountSeatings': WHATEVER THE INPUT: true; the input reads as it did. -/
def fnExactCountSeatingsSpec : ChangeSpec := { name := "fnExactCountSeatings", fn := fun _ => fun
  | [d] => { results := [.lit (.bool true)], args := [d] }
  | _ => none }
def fnExactCountSeatingsRow : OpenClaim := { program := "ytmiecebdkadhbaadoor", sum := "590605713e3b875e9e5ebc4fae0a86159782c57ed8f83a1ddc47da3ba57f0abd", func := "loop.example/g01257/laws.FnExactCountSeatings", spec := "fnExactCountSeatings", unfollowed := true, recurses := true, named := ["math/bits.deBruijn32tab"], plainKeys := false, leaving := true, apart := false, laid := [("math/bits.deBruijn32tab", laid_math_bits_deBruijn32tab)] }
def FnExactCountSeatingsSaid : Prop := fnExactCountSeatingsRow.holds Tryd.pinned (OpenSpec.ofChange fnExactCountSeatingsSpec)

/-- ITS FALSE NEIGHBOUR: 'it returns false'. Refute it at one input. -/
def fnExactCountSeatingsWrong : ChangeSpec := { name := "fnExactCountSeatings", fn := fun _ => fun
  | [d] => { results := [.lit (.bool false)], args := [d] }
  | _ => none }
def FnExactCountSeatingsWrongFalsely : Prop := fnExactCountSeatingsRow.holds Tryd.pinned (OpenSpec.ofChange fnExactCountSeatingsWrong)

/-- 'laws.FnExactFirstRow': WHATEVER THE INPUT: true; the input reads as it did. -/
def fnExactFirstRowSpec : ChangeSpec := { name := "fnExactFirstRow", fn := fun _ => fun
  | [d] => { results := [.lit (.bool true)], args := [d] }
  | _ => none }
def fnExactFirstRowRow : OpenClaim := { program := "ytmiecebdkadhbaadoor", sum := "590605713e3b875e9e5ebc4fae0a86159782c57ed8f83a1ddc47da3ba57f0abd", func := "loop.example/g01257/laws.FnExactFirstRow", spec := "fnExactFirstRow", unfollowed := true, recurses := true, named := ["math/bits.deBruijn32tab"], plainKeys := false, leaving := true, apart := false, laid := [("math/bits.deBruijn32tab", laid_math_bits_deBruijn32tab)] }
def FnExactFirstRowSaid : Prop := fnExactFirstRowRow.holds Tryd.pinned (OpenSpec.ofChange fnExactFirstRowSpec)

/-- ITS FALSE NEIGHBOUR: 'it returns false'. Refute it at one input. -/
def fnExactFirstRowWrong : ChangeSpec := { name := "fnExactFirstRow", fn := fun _ => fun
  | [d] => { results := [.lit (.bool false)], args := [d] }
  | _ => none }
def FnExactFirstRowWrongFalsely : Prop := fnExactFirstRowRow.holds Tryd.pinned (OpenSpec.ofChange fnExactFirstRowWrong)

/-- 'laws.FnExactCountRows': WHATEVER THE INPUT: true; the input reads as it did. -/
def fnExactCountRowsSpec : ChangeSpec := { name := "fnExactCountRows", fn := fun _ => fun
  | [d] => { results := [.lit (.bool true)], args := [d] }
  | _ => none }
def fnExactCountRowsRow : OpenClaim := { program := "ytmiecebdkadhbaadoor", sum := "590605713e3b875e9e5ebc4fae0a86159782c57ed8f83a1ddc47da3ba57f0abd", func := "loop.example/g01257/laws.FnExactCountRows", spec := "fnExactCountRows", unfollowed := true, recurses := true, named := ["math/bits.deBruijn32tab"], plainKeys := false, leaving := true, apart := false, laid := [("math/bits.deBruijn32tab", laid_math_bits_deBruijn32tab)] }
def FnExactCountRowsSaid : Prop := fnExactCountRowsRow.holds Tryd.pinned (OpenSpec.ofChange fnExactCountRowsSpec)

/-- ITS FALSE NEIGHBOUR: 'it returns false'. Refute it at one input. -/
def fnExactCountRowsWrong : ChangeSpec := { name := "fnExactCountRows", fn := fun _ => fun
  | [d] => { results := [.lit (.bool false)], args := [d] }
  | _ => none }
def FnExactCountRowsWrongFalsely : Prop := fnExactCountRowsRow.holds Tryd.pinned (OpenSpec.ofChange fnExactCountRowsWrong)

/-- 'laws.FnExactTwoTables': WHATEVER THE INPUT: true; the input reads as it did. -/
def fnExactTwoTablesSpec : ChangeSpec := { name := "fnExactTwoTables", fn := fun _ => fun
  | [d] => { results := [.lit (.bool true)], args := [d] }
  | _ => none }
def fnExactTwoTablesRow : OpenClaim := { program := "ytmiecebdkadhbaadoor", sum := "590605713e3b875e9e5ebc4fae0a86159782c57ed8f83a1ddc47da3ba57f0abd", func := "loop.example/g01257/laws.FnExactTwoTables", spec := "fnExactTwoTables", unfollowed := true, recurses := true, named := ["math/bits.deBruijn32tab"], plainKeys := false, leaving := true, apart := false, laid := [("math/bits.deBruijn32tab", laid_math_bits_deBruijn32tab)] }
def FnExactTwoTablesSaid : Prop := fnExactTwoTablesRow.holds Tryd.pinned (OpenSpec.ofChange fnExactTwoTablesSpec)

/-- ITS FALSE NEIGHBOUR: 'it returns false'. Refute it at one input. -/
def fnExactTwoTablesWrong : ChangeSpec := { name := "fnExactTwoTables", fn := fun _ => fun
  | [d] => { results := [.lit (.bool false)], args := [d] }
  | _ => none }
def FnExactTwoTablesWrongFalsely : Prop := fnExactTwoTablesRow.holds Tryd.pinned (OpenSpec.ofChange fnExactTwoTablesWrong)

/-- 'laws.FnExactTablesApart': WHATEVER THE INPUT: true; the input reads as it did. -/
def fnExactTablesApartSpec : ChangeSpec := { name := "fnExactTablesApart", fn := fun _ => fun
  | [d] => { results := [.lit (.bool true)], args := [d] }
  | _ => none }
def fnExactTablesApartRow : OpenClaim := { program := "ytmiecebdkadhbaadoor", sum := "590605713e3b875e9e5ebc4fae0a86159782c57ed8f83a1ddc47da3ba57f0abd", func := "loop.example/g01257/laws.FnExactTablesApart", spec := "fnExactTablesApart", unfollowed := true, recurses := true, named := ["math/bits.deBruijn32tab"], plainKeys := false, leaving := true, apart := false, laid := [("math/bits.deBruijn32tab", laid_math_bits_deBruijn32tab)] }
def FnExactTablesApartSaid : Prop := fnExactTablesApartRow.holds Tryd.pinned (OpenSpec.ofChange fnExactTablesApartSpec)

/-- ITS FALSE NEIGHBOUR: 'it returns false'. Refute it at one input. -/
def fnExactTablesApartWrong : ChangeSpec := { name := "fnExactTablesApart", fn := fun _ => fun
  | [d] => { results := [.lit (.bool false)], args := [d] }
  | _ => none }
def FnExactTablesApartWrongFalsely : Prop := fnExactTablesApartRow.holds Tryd.pinned (OpenSpec.ofChange fnExactTablesApartWrong)

/-- 'laws.FnExactCountWalks': WHATEVER THE INPUT: true; the input reads as it did. -/
def fnExactCountWalksSpec : ChangeSpec := { name := "fnExactCountWalks", fn := fun _ => fun
  | [d1, d2, d3, d4] => { results := [.lit (.bool true)], args := [d1, d2, d3, d4] }
  | _ => none }
def fnExactCountWalksRow : OpenClaim := { program := "ytmiecebdkadhbaadoor", sum := "590605713e3b875e9e5ebc4fae0a86159782c57ed8f83a1ddc47da3ba57f0abd", func := "loop.example/g01257/laws.FnExactCountWalks", spec := "fnExactCountWalks", named := ["math/bits.deBruijn32tab"], plainKeys := false, apart := false, laid := [("math/bits.deBruijn32tab", laid_math_bits_deBruijn32tab)] }
def FnExactCountWalksSaid : Prop := fnExactCountWalksRow.holds Tryd.pinned (OpenSpec.ofChange fnExactCountWalksSpec)

/-- ITS FALSE NEIGHBOUR: 'it returns false'. Refute it at one input. -/
def fnExactCountWalksWrong : ChangeSpec := { name := "fnExactCountWalks", fn := fun _ => fun
  | [d1, d2, d3, d4] => { results := [.lit (.bool false)], args := [d1, d2, d3, d4] }
  | _ => none }
def FnExactCountWalksWrongFalsely : Prop := fnExactCountWalksRow.holds Tryd.pinned (OpenSpec.ofChange fnExactCountWalksWrong)

/-- 'laws.FnExactCountRoundWalks': WHATEVER THE INPUT: true; the input reads as it did. -/
def fnExactCountRoundWalksSpec : ChangeSpec := { name := "fnExactCountRoundWalks", fn := fun _ => fun
  | [d1, d2] => { results := [.lit (.bool true)], args := [d1, d2] }
  | _ => none }
def fnExactCountRoundWalksRow : OpenClaim := { program := "ytmiecebdkadhbaadoor", sum := "590605713e3b875e9e5ebc4fae0a86159782c57ed8f83a1ddc47da3ba57f0abd", func := "loop.example/g01257/laws.FnExactCountRoundWalks", spec := "fnExactCountRoundWalks", named := ["math/bits.deBruijn32tab"], plainKeys := false, apart := false, laid := [("math/bits.deBruijn32tab", laid_math_bits_deBruijn32tab)] }
def FnExactCountRoundWalksSaid : Prop := fnExactCountRoundWalksRow.holds Tryd.pinned (OpenSpec.ofChange fnExactCountRoundWalksSpec)

/-- ITS FALSE NEIGHBOUR: 'it returns false'. Refute it at one input. -/
def fnExactCountRoundWalksWrong : ChangeSpec := { name := "fnExactCountRoundWalks", fn := fun _ => fun
  | [d1, d2] => { results := [.lit (.bool false)], args := [d1, d2] }
  | _ => none }
def FnExactCountRoundWalksWrongFalsely : Prop := fnExactCountRoundWalksRow.holds Tryd.pinned (OpenSpec.ofChange fnExactCountRoundWalksWrong)

/-- 'laws.FnExactShortestRound': WHATEVER THE INPUT: true; the input reads as it did. -/
def fnExactShortestRoundSpec : ChangeSpec := { name := "fnExactShortestRound", fn := fun _ => fun
  | [d] => { results := [.lit (.bool true)], args := [d] }
  | _ => none }
def fnExactShortestRoundRow : OpenClaim := { program := "ytmiecebdkadhbaadoor", sum := "590605713e3b875e9e5ebc4fae0a86159782c57ed8f83a1ddc47da3ba57f0abd", func := "loop.example/g01257/laws.FnExactShortestRound", spec := "fnExactShortestRound", unfollowed := true, recurses := true, named := ["math/bits.deBruijn32tab"], plainKeys := false, leaving := true, apart := false, laid := [("math/bits.deBruijn32tab", laid_math_bits_deBruijn32tab)] }
def FnExactShortestRoundSaid : Prop := fnExactShortestRoundRow.holds Tryd.pinned (OpenSpec.ofChange fnExactShortestRoundSpec)

/-- ITS FALSE NEIGHBOUR: 'it returns false'. Refute it at one input. -/
def fnExactShortestRoundWrong : ChangeSpec := { name := "fnExactShortestRound", fn := fun _ => fun
  | [d] => { results := [.lit (.bool false)], args := [d] }
  | _ => none }
def FnExactShortestRoundWrongFalsely : Prop := fnExactShortestRoundRow.holds Tryd.pinned (OpenSpec.ofChange fnExactShortestRoundWrong)

/-- 'laws.FnExactPartyText': WHATEVER THE INPUT: true; the input reads as it did. -/
def fnExactPartyTextSpec : ChangeSpec := { name := "fnExactPartyText", fn := fun _ => fun
  | [d] => { results := [.lit (.bool true)], args := [d] }
  | _ => none }
def fnExactPartyTextRow : OpenClaim := { program := "ytmiecebdkadhbaadoor", sum := "590605713e3b875e9e5ebc4fae0a86159782c57ed8f83a1ddc47da3ba57f0abd", func := "loop.example/g01257/laws.FnExactPartyText", spec := "fnExactPartyText", inPlace := ["internal/abi.NoEscape", "internal/bytealg.MakeNoZero"], recurses := true, named := ["internal/strconv.uint64pow10", "math/bits.deBruijn32tab", "math/bits.deBruijn64tab"], plainKeys := false, apart := false, laid := [("math/bits.deBruijn32tab", laid_math_bits_deBruijn32tab), ("math/bits.deBruijn64tab", laid_math_bits_deBruijn64tab), ("internal/strconv.uint64pow10", laid_internal_strconv_uint64pow10)] }
def FnExactPartyTextSaid : Prop := fnExactPartyTextRow.holds Tryd.pinned (OpenSpec.ofChange fnExactPartyTextSpec)

/-- ITS FALSE NEIGHBOUR: 'it returns false'. Refute it at one input. -/
def fnExactPartyTextWrong : ChangeSpec := { name := "fnExactPartyText", fn := fun _ => fun
  | [d] => { results := [.lit (.bool false)], args := [d] }
  | _ => none }
def FnExactPartyTextWrongFalsely : Prop := fnExactPartyTextRow.holds Tryd.pinned (OpenSpec.ofChange fnExactPartyTextWrong)

/- THE SECOND FORM. 'bulk': how many values and letters a reading holds, each counted each time it is reached (what is shared counts as often as it is met; a slice's spare places count too). A statement '..UptoSaid' is the law's where the arguments, and the package variables that the reading takes, are together of bulk at most 1048576: NARROWER than '..Said'. Prove '..Said' where nothing that the law and all that it calls make is longer than what came in: it says more and counts as full. Else prove '..UptoSaid'. A law counts once. -/
mutual
def uptoBulk {H : Type} : DataW H → Nat
  | .lit (.string bytes) => bytes.length + 1
  | .lit _ => 1
  | .nil => 1
  | .ptr d => uptoBulk d + 1
  | .slice elems spare => uptoBulkAll elems + uptoBulkAll spare + 1
  | .agg parts => uptoBulkAll parts + 1
  | .iface _ d => uptoBulk d + 1
  | .map entries => uptoBulkEntries entries + 1
  | .held _ => 1
def uptoBulkAll {H : Type} : List (DataW H) → Nat
  | [] => 0
  | d :: r => uptoBulk d + uptoBulkAll r
def uptoBulkEntries {H : Type} : List (Lit × DataW H) → Nat
  | [] => 0
  | x :: r => uptoBulkEntry x + uptoBulkEntries r
def uptoBulkEntry {H : Type} : Lit × DataW H → Nat
  | (.string bytes, d) => bytes.length + uptoBulk d + 1
  | (_, d) => uptoBulk d + 1
 end
def uptoSmall : (H : Type) → List (DataW H) → Bool := fun _ ds => decide (uptoBulkAll ds ≤ 1048576)
def OpenSpec.upto (s : _root_.Go.ChangeSpec) : _root_.Go.OpenSpec := { _root_.Go.OpenSpec.ofChange s with cond := some uptoSmall }

/-- 'laws.FnExactFirstSeating', WHERE WHAT IT READS IS OF BULK AT MOST 1048576: true; the input reads as it did. -/
def fnExactFirstSeatingUptoRow : OpenClaim := { program := "ytmiecebdkadhbaadoor", sum := "590605713e3b875e9e5ebc4fae0a86159782c57ed8f83a1ddc47da3ba57f0abd", func := "loop.example/g01257/laws.FnExactFirstSeating", spec := "fnExactFirstSeating", unfollowed := true, recurses := true, named := ["math/bits.deBruijn32tab"], plainKeys := false, leaving := true, apart := false, laid := [("math/bits.deBruijn32tab", laid_math_bits_deBruijn32tab)], narrowed := true }
def FnExactFirstSeatingUptoSaid : Prop := fnExactFirstSeatingUptoRow.holds Tryd.pinned (OpenSpec.upto fnExactFirstSeatingSpec)

/-- 'laws.FnExactCountSeatings', WHERE WHAT IT READS IS OF BULK AT MOST 1048576: true; the input reads as it did. -/
def fnExactCountSeatingsUptoRow : OpenClaim := { program := "ytmiecebdkadhbaadoor", sum := "590605713e3b875e9e5ebc4fae0a86159782c57ed8f83a1ddc47da3ba57f0abd", func := "loop.example/g01257/laws.FnExactCountSeatings", spec := "fnExactCountSeatings", unfollowed := true, recurses := true, named := ["math/bits.deBruijn32tab"], plainKeys := false, leaving := true, apart := false, laid := [("math/bits.deBruijn32tab", laid_math_bits_deBruijn32tab)], narrowed := true }
def FnExactCountSeatingsUptoSaid : Prop := fnExactCountSeatingsUptoRow.holds Tryd.pinned (OpenSpec.upto fnExactCountSeatingsSpec)

/-- 'laws.FnExactFirstRow', WHERE WHAT IT READS IS OF BULK AT MOST 1048576: true; the input reads as it did. -/
def fnExactFirstRowUptoRow : OpenClaim := { program := "ytmiecebdkadhbaadoor", sum := "590605713e3b875e9e5ebc4fae0a86159782c57ed8f83a1ddc47da3ba57f0abd", func := "loop.example/g01257/laws.FnExactFirstRow", spec := "fnExactFirstRow", unfollowed := true, recurses := true, named := ["math/bits.deBruijn32tab"], plainKeys := false, leaving := true, apart := false, laid := [("math/bits.deBruijn32tab", laid_math_bits_deBruijn32tab)], narrowed := true }
def FnExactFirstRowUptoSaid : Prop := fnExactFirstRowUptoRow.holds Tryd.pinned (OpenSpec.upto fnExactFirstRowSpec)

/-- 'laws.FnExactCountRows', WHERE WHAT IT READS IS OF BULK AT MOST 1048576: true; the input reads as it did. -/
def fnExactCountRowsUptoRow : OpenClaim := { program := "ytmiecebdkadhbaadoor", sum := "590605713e3b875e9e5ebc4fae0a86159782c57ed8f83a1ddc47da3ba57f0abd", func := "loop.example/g01257/laws.FnExactCountRows", spec := "fnExactCountRows", unfollowed := true, recurses := true, named := ["math/bits.deBruijn32tab"], plainKeys := false, leaving := true, apart := false, laid := [("math/bits.deBruijn32tab", laid_math_bits_deBruijn32tab)], narrowed := true }
def FnExactCountRowsUptoSaid : Prop := fnExactCountRowsUptoRow.holds Tryd.pinned (OpenSpec.upto fnExactCountRowsSpec)

/-- 'laws.FnExactTwoTables', WHERE WHAT IT READS IS OF BULK AT MOST 1048576: true; the input reads as it did. -/
def fnExactTwoTablesUptoRow : OpenClaim := { program := "ytmiecebdkadhbaadoor", sum := "590605713e3b875e9e5ebc4fae0a86159782c57ed8f83a1ddc47da3ba57f0abd", func := "loop.example/g01257/laws.FnExactTwoTables", spec := "fnExactTwoTables", unfollowed := true, recurses := true, named := ["math/bits.deBruijn32tab"], plainKeys := false, leaving := true, apart := false, laid := [("math/bits.deBruijn32tab", laid_math_bits_deBruijn32tab)], narrowed := true }
def FnExactTwoTablesUptoSaid : Prop := fnExactTwoTablesUptoRow.holds Tryd.pinned (OpenSpec.upto fnExactTwoTablesSpec)

/-- 'laws.FnExactTablesApart', WHERE WHAT IT READS IS OF BULK AT MOST 1048576: true; the input reads as it did. -/
def fnExactTablesApartUptoRow : OpenClaim := { program := "ytmiecebdkadhbaadoor", sum := "590605713e3b875e9e5ebc4fae0a86159782c57ed8f83a1ddc47da3ba57f0abd", func := "loop.example/g01257/laws.FnExactTablesApart", spec := "fnExactTablesApart", unfollowed := true, recurses := true, named := ["math/bits.deBruijn32tab"], plainKeys := false, leaving := true, apart := false, laid := [("math/bits.deBruijn32tab", laid_math_bits_deBruijn32tab)], narrowed := true }
def FnExactTablesApartUptoSaid : Prop := fnExactTablesApartUptoRow.holds Tryd.pinned (OpenSpec.upto fnExactTablesApartSpec)

/-- 'laws.FnExactCountWalks', WHERE WHAT IT READS IS OF BULK AT MOST 1048576: true; the input reads as it did. -/
def fnExactCountWalksUptoRow : OpenClaim := { program := "ytmiecebdkadhbaadoor", sum := "590605713e3b875e9e5ebc4fae0a86159782c57ed8f83a1ddc47da3ba57f0abd", func := "loop.example/g01257/laws.FnExactCountWalks", spec := "fnExactCountWalks", named := ["math/bits.deBruijn32tab"], plainKeys := false, apart := false, laid := [("math/bits.deBruijn32tab", laid_math_bits_deBruijn32tab)], narrowed := true }
def FnExactCountWalksUptoSaid : Prop := fnExactCountWalksUptoRow.holds Tryd.pinned (OpenSpec.upto fnExactCountWalksSpec)

/-- 'laws.FnExactCountRoundWalks', WHERE WHAT IT READS IS OF BULK AT MOST 1048576: true; the input reads as it did. -/
def fnExactCountRoundWalksUptoRow : OpenClaim := { program := "ytmiecebdkadhbaadoor", sum := "590605713e3b875e9e5ebc4fae0a86159782c57ed8f83a1ddc47da3ba57f0abd", func := "loop.example/g01257/laws.FnExactCountRoundWalks", spec := "fnExactCountRoundWalks", named := ["math/bits.deBruijn32tab"], plainKeys := false, apart := false, laid := [("math/bits.deBruijn32tab", laid_math_bits_deBruijn32tab)], narrowed := true }
def FnExactCountRoundWalksUptoSaid : Prop := fnExactCountRoundWalksUptoRow.holds Tryd.pinned (OpenSpec.upto fnExactCountRoundWalksSpec)

/-- 'laws.FnExactShortestRound', WHERE WHAT IT READS IS OF BULK AT MOST 1048576: true; the input reads as it did. -/
def fnExactShortestRoundUptoRow : OpenClaim := { program := "ytmiecebdkadhbaadoor", sum := "590605713e3b875e9e5ebc4fae0a86159782c57ed8f83a1ddc47da3ba57f0abd", func := "loop.example/g01257/laws.FnExactShortestRound", spec := "fnExactShortestRound", unfollowed := true, recurses := true, named := ["math/bits.deBruijn32tab"], plainKeys := false, leaving := true, apart := false, laid := [("math/bits.deBruijn32tab", laid_math_bits_deBruijn32tab)], narrowed := true }
def FnExactShortestRoundUptoSaid : Prop := fnExactShortestRoundUptoRow.holds Tryd.pinned (OpenSpec.upto fnExactShortestRoundSpec)

/-- 'laws.FnExactPartyText', WHERE WHAT IT READS IS OF BULK AT MOST 1048576: true; the input reads as it did. -/
def fnExactPartyTextUptoRow : OpenClaim := { program := "ytmiecebdkadhbaadoor", sum := "590605713e3b875e9e5ebc4fae0a86159782c57ed8f83a1ddc47da3ba57f0abd", func := "loop.example/g01257/laws.FnExactPartyText", spec := "fnExactPartyText", inPlace := ["internal/abi.NoEscape", "internal/bytealg.MakeNoZero"], recurses := true, named := ["internal/strconv.uint64pow10", "math/bits.deBruijn32tab", "math/bits.deBruijn64tab"], plainKeys := false, apart := false, laid := [("math/bits.deBruijn32tab", laid_math_bits_deBruijn32tab), ("math/bits.deBruijn64tab", laid_math_bits_deBruijn64tab), ("internal/strconv.uint64pow10", laid_internal_strconv_uint64pow10)], narrowed := true }
def FnExactPartyTextUptoSaid : Prop := fnExactPartyTextUptoRow.holds Tryd.pinned (OpenSpec.upto fnExactPartyTextSpec)

end Rows
end Go.Proofs.YtmiecebdkadhbaaDoor
