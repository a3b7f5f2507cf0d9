/-
  DERIVED. GIVEN WITH THE SEED: THE CARDS: each row of YtgccapdjhnejcaaDoorRows.lean that lists a variable, with what it lists TIED to the program's text (the seventh form; the later family's looks); each row that meets fmt, with fmt's text TOLD by the authors' own Lean function (tested against real Go, not proved from fmt's source: count such statements apart). THE CARD IS WHAT COUNTS. Prove the row's statement (the work); the ties are given (YtgccapdjhnejcaaDoorTie.lean); close each card by the builder's one call (the guide's Derived/Test/ToyasCard.lean, 'card_holds'). Laid BY PROGRAM, IN A SANDBOX (cutbox-door.mjs). By AI agents, Wed Nov 11 2026. No macro, syntax, notation, axiom, sorry.
-/
import Derived.Test.YtgccapdjhnejcaaDoorRows
import GoSem.ClaimSeven
namespace Go.Proofs.YtgccapdjhnejcaaDoor
namespace Rows

/-- THE TIED CARD OF 'laws.FnExactGrowGroup'. -/
def fnExactGrowGroupCard : Claim7 := { stood := { row := fnExactGrowGroupRow, standIns := [], harness := (true, "05c1b451e06b9bb1de78eb624892c47c59b3f9c49b5f95767b77036b1409f73d"), looks := false }, kinds := [], alts := [], laidByText := true, laidKinds := [.data], laidTests := true, laidLooks := .later }
def FnExactGrowGroupCardSaid : Prop := Claim7.holds Tryd.pinned (.plain (OpenSpec.ofChange fnExactGrowGroupSpec)) fnExactGrowGroupCard

/-- THE TIED CARD OF 'laws.FnExactLacksGroup'. -/
def fnExactLacksGroupCard : Claim7 := { stood := { row := fnExactLacksGroupRow, standIns := [], harness := (true, "05c1b451e06b9bb1de78eb624892c47c59b3f9c49b5f95767b77036b1409f73d"), looks := false }, kinds := [], alts := [], laidByText := true, laidKinds := [.data], laidTests := true, laidLooks := .later }
def FnExactLacksGroupCardSaid : Prop := Claim7.holds Tryd.pinned (.plain (OpenSpec.ofChange fnExactLacksGroupSpec)) fnExactLacksGroupCard

/-- THE TIED CARD OF 'laws.FnExactGroupNumbers'. -/
def fnExactGroupNumbersCard : Claim7 := { stood := { row := fnExactGroupNumbersRow, standIns := [], harness := (true, "05c1b451e06b9bb1de78eb624892c47c59b3f9c49b5f95767b77036b1409f73d"), looks := false }, kinds := [], alts := [], laidByText := true, laidKinds := [.data], laidTests := true, laidLooks := .later }
def FnExactGroupNumbersCardSaid : Prop := Claim7.holds Tryd.pinned (.plain (OpenSpec.ofChange fnExactGroupNumbersSpec)) fnExactGroupNumbersCard

/-- THE TIED CARD OF 'laws.FnExactGroupsAt'. -/
def fnExactGroupsAtCard : Claim7 := { stood := { row := fnExactGroupsAtRow, standIns := [], harness := (true, "05c1b451e06b9bb1de78eb624892c47c59b3f9c49b5f95767b77036b1409f73d"), looks := false }, kinds := [], alts := [], laidByText := true, laidKinds := [.data], laidTests := true, laidLooks := .later }
def FnExactGroupsAtCardSaid : Prop := Claim7.holds Tryd.pinned (.plain (OpenSpec.ofChange fnExactGroupsAtSpec)) fnExactGroupsAtCard

/-- THE TIED CARD OF 'laws.FnExactCountThrees'. -/
def fnExactCountThreesCard : Claim7 := { stood := { row := fnExactCountThreesRow, standIns := [], harness := (true, "05c1b451e06b9bb1de78eb624892c47c59b3f9c49b5f95767b77036b1409f73d"), looks := false }, kinds := [], alts := [], laidByText := true, laidKinds := [.data], laidTests := true, laidLooks := .later }
def FnExactCountThreesCardSaid : Prop := Claim7.holds Tryd.pinned (.plain (OpenSpec.ofChange fnExactCountThreesSpec)) fnExactCountThreesCard

/-- THE TIED CARD OF 'laws.FnExactFriendThrees'. -/
def fnExactFriendThreesCard : Claim7 := { stood := { row := fnExactFriendThreesRow, standIns := [], harness := (true, "05c1b451e06b9bb1de78eb624892c47c59b3f9c49b5f95767b77036b1409f73d"), looks := false }, kinds := [], alts := [], laidByText := true, laidKinds := [.data], laidTests := true, laidLooks := .later }
def FnExactFriendThreesCardSaid : Prop := Claim7.holds Tryd.pinned (.plain (OpenSpec.ofChange fnExactFriendThreesSpec)) fnExactFriendThreesCard

/-- THE TIED CARD OF 'laws.FnExactThreesAt'. -/
def fnExactThreesAtCard : Claim7 := { stood := { row := fnExactThreesAtRow, standIns := [], harness := (true, "05c1b451e06b9bb1de78eb624892c47c59b3f9c49b5f95767b77036b1409f73d"), looks := false }, kinds := [], alts := [], laidByText := true, laidKinds := [.data], laidTests := true, laidLooks := .later }
def FnExactThreesAtCardSaid : Prop := Claim7.holds Tryd.pinned (.plain (OpenSpec.ofChange fnExactThreesAtSpec)) fnExactThreesAtCard

/-- THE TIED CARD OF 'laws.FnExactGreatestGroup'. -/
def fnExactGreatestGroupCard : Claim7 := { stood := { row := fnExactGreatestGroupRow, standIns := [], harness := (true, "05c1b451e06b9bb1de78eb624892c47c59b3f9c49b5f95767b77036b1409f73d"), looks := false }, kinds := [], alts := [], laidByText := true, laidKinds := [.data], laidTests := true, laidLooks := .later }
def FnExactGreatestGroupCardSaid : Prop := Claim7.holds Tryd.pinned (.plain (OpenSpec.ofChange fnExactGreatestGroupSpec)) fnExactGreatestGroupCard

/-- THE TIED CARD OF 'laws.FnExactGreatestStrange'. -/
def fnExactGreatestStrangeCard : Claim7 := { stood := { row := fnExactGreatestStrangeRow, standIns := [], harness := (true, "05c1b451e06b9bb1de78eb624892c47c59b3f9c49b5f95767b77036b1409f73d"), looks := false }, kinds := [], alts := [], laidByText := true, laidKinds := [.data], laidTests := true, laidLooks := .later }
def FnExactGreatestStrangeCardSaid : Prop := Claim7.holds Tryd.pinned (.plain (OpenSpec.ofChange fnExactGreatestStrangeSpec)) fnExactGreatestStrangeCard

/-- THE TIED CARD OF 'laws.FnExactCountGroups'. -/
def fnExactCountGroupsCard : Claim7 := { stood := { row := fnExactCountGroupsRow, standIns := [], harness := (true, "05c1b451e06b9bb1de78eb624892c47c59b3f9c49b5f95767b77036b1409f73d"), looks := false }, kinds := [], alts := [], laidByText := true, laidKinds := [.data], laidTests := true, laidLooks := .later }
def FnExactCountGroupsCardSaid : Prop := Claim7.holds Tryd.pinned (.plain (OpenSpec.ofChange fnExactCountGroupsSpec)) fnExactCountGroupsCard

/-- THE TIED CARD OF 'laws.FnExactHasNeither'. -/
def fnExactHasNeitherCard : Claim7 := { stood := { row := fnExactHasNeitherRow, standIns := [], harness := (true, "05c1b451e06b9bb1de78eb624892c47c59b3f9c49b5f95767b77036b1409f73d"), looks := false }, kinds := [], alts := [], laidByText := true, laidKinds := [.data], laidTests := true, laidLooks := .later }
def FnExactHasNeitherCardSaid : Prop := Claim7.holds Tryd.pinned (.plain (OpenSpec.ofChange fnExactHasNeitherSpec)) fnExactHasNeitherCard

/-- THE SECOND FORM's CARD OF 'laws.FnExactGrowGroup'. -/
def fnExactGrowGroupUptoCard : Claim7 := { stood := { row := fnExactGrowGroupUptoRow, standIns := [], harness := (true, "05c1b451e06b9bb1de78eb624892c47c59b3f9c49b5f95767b77036b1409f73d"), looks := false }, kinds := [], alts := [], laidByText := true, laidKinds := [.data], laidTests := true, laidLooks := .later }
def FnExactGrowGroupUptoCardSaid : Prop := Claim7.holds Tryd.pinned (.plain (OpenSpec.upto fnExactGrowGroupSpec)) fnExactGrowGroupUptoCard

/-- THE SECOND FORM's CARD OF 'laws.FnExactLacksGroup'. -/
def fnExactLacksGroupUptoCard : Claim7 := { stood := { row := fnExactLacksGroupUptoRow, standIns := [], harness := (true, "05c1b451e06b9bb1de78eb624892c47c59b3f9c49b5f95767b77036b1409f73d"), looks := false }, kinds := [], alts := [], laidByText := true, laidKinds := [.data], laidTests := true, laidLooks := .later }
def FnExactLacksGroupUptoCardSaid : Prop := Claim7.holds Tryd.pinned (.plain (OpenSpec.upto fnExactLacksGroupSpec)) fnExactLacksGroupUptoCard

/-- THE SECOND FORM's CARD OF 'laws.FnExactGroupNumbers'. -/
def fnExactGroupNumbersUptoCard : Claim7 := { stood := { row := fnExactGroupNumbersUptoRow, standIns := [], harness := (true, "05c1b451e06b9bb1de78eb624892c47c59b3f9c49b5f95767b77036b1409f73d"), looks := false }, kinds := [], alts := [], laidByText := true, laidKinds := [.data], laidTests := true, laidLooks := .later }
def FnExactGroupNumbersUptoCardSaid : Prop := Claim7.holds Tryd.pinned (.plain (OpenSpec.upto fnExactGroupNumbersSpec)) fnExactGroupNumbersUptoCard

/-- THE SECOND FORM's CARD OF 'laws.FnExactGroupsAt'. -/
def fnExactGroupsAtUptoCard : Claim7 := { stood := { row := fnExactGroupsAtUptoRow, standIns := [], harness := (true, "05c1b451e06b9bb1de78eb624892c47c59b3f9c49b5f95767b77036b1409f73d"), looks := false }, kinds := [], alts := [], laidByText := true, laidKinds := [.data], laidTests := true, laidLooks := .later }
def FnExactGroupsAtUptoCardSaid : Prop := Claim7.holds Tryd.pinned (.plain (OpenSpec.upto fnExactGroupsAtSpec)) fnExactGroupsAtUptoCard

/-- THE SECOND FORM's CARD OF 'laws.FnExactCountThrees'. -/
def fnExactCountThreesUptoCard : Claim7 := { stood := { row := fnExactCountThreesUptoRow, standIns := [], harness := (true, "05c1b451e06b9bb1de78eb624892c47c59b3f9c49b5f95767b77036b1409f73d"), looks := false }, kinds := [], alts := [], laidByText := true, laidKinds := [.data], laidTests := true, laidLooks := .later }
def FnExactCountThreesUptoCardSaid : Prop := Claim7.holds Tryd.pinned (.plain (OpenSpec.upto fnExactCountThreesSpec)) fnExactCountThreesUptoCard

/-- THE SECOND FORM's CARD OF 'laws.FnExactFriendThrees'. -/
def fnExactFriendThreesUptoCard : Claim7 := { stood := { row := fnExactFriendThreesUptoRow, standIns := [], harness := (true, "05c1b451e06b9bb1de78eb624892c47c59b3f9c49b5f95767b77036b1409f73d"), looks := false }, kinds := [], alts := [], laidByText := true, laidKinds := [.data], laidTests := true, laidLooks := .later }
def FnExactFriendThreesUptoCardSaid : Prop := Claim7.holds Tryd.pinned (.plain (OpenSpec.upto fnExactFriendThreesSpec)) fnExactFriendThreesUptoCard

/-- THE SECOND FORM's CARD OF 'laws.FnExactThreesAt'. -/
def fnExactThreesAtUptoCard : Claim7 := { stood := { row := fnExactThreesAtUptoRow, standIns := [], harness := (true, "05c1b451e06b9bb1de78eb624892c47c59b3f9c49b5f95767b77036b1409f73d"), looks := false }, kinds := [], alts := [], laidByText := true, laidKinds := [.data], laidTests := true, laidLooks := .later }
def FnExactThreesAtUptoCardSaid : Prop := Claim7.holds Tryd.pinned (.plain (OpenSpec.upto fnExactThreesAtSpec)) fnExactThreesAtUptoCard

/-- THE SECOND FORM's CARD OF 'laws.FnExactGreatestGroup'. -/
def fnExactGreatestGroupUptoCard : Claim7 := { stood := { row := fnExactGreatestGroupUptoRow, standIns := [], harness := (true, "05c1b451e06b9bb1de78eb624892c47c59b3f9c49b5f95767b77036b1409f73d"), looks := false }, kinds := [], alts := [], laidByText := true, laidKinds := [.data], laidTests := true, laidLooks := .later }
def FnExactGreatestGroupUptoCardSaid : Prop := Claim7.holds Tryd.pinned (.plain (OpenSpec.upto fnExactGreatestGroupSpec)) fnExactGreatestGroupUptoCard

/-- THE SECOND FORM's CARD OF 'laws.FnExactGreatestStrange'. -/
def fnExactGreatestStrangeUptoCard : Claim7 := { stood := { row := fnExactGreatestStrangeUptoRow, standIns := [], harness := (true, "05c1b451e06b9bb1de78eb624892c47c59b3f9c49b5f95767b77036b1409f73d"), looks := false }, kinds := [], alts := [], laidByText := true, laidKinds := [.data], laidTests := true, laidLooks := .later }
def FnExactGreatestStrangeUptoCardSaid : Prop := Claim7.holds Tryd.pinned (.plain (OpenSpec.upto fnExactGreatestStrangeSpec)) fnExactGreatestStrangeUptoCard

/-- THE SECOND FORM's CARD OF 'laws.FnExactCountGroups'. -/
def fnExactCountGroupsUptoCard : Claim7 := { stood := { row := fnExactCountGroupsUptoRow, standIns := [], harness := (true, "05c1b451e06b9bb1de78eb624892c47c59b3f9c49b5f95767b77036b1409f73d"), looks := false }, kinds := [], alts := [], laidByText := true, laidKinds := [.data], laidTests := true, laidLooks := .later }
def FnExactCountGroupsUptoCardSaid : Prop := Claim7.holds Tryd.pinned (.plain (OpenSpec.upto fnExactCountGroupsSpec)) fnExactCountGroupsUptoCard

/-- THE SECOND FORM's CARD OF 'laws.FnExactHasNeither'. -/
def fnExactHasNeitherUptoCard : Claim7 := { stood := { row := fnExactHasNeitherUptoRow, standIns := [], harness := (true, "05c1b451e06b9bb1de78eb624892c47c59b3f9c49b5f95767b77036b1409f73d"), looks := false }, kinds := [], alts := [], laidByText := true, laidKinds := [.data], laidTests := true, laidLooks := .later }
def FnExactHasNeitherUptoCardSaid : Prop := Claim7.holds Tryd.pinned (.plain (OpenSpec.upto fnExactHasNeitherSpec)) fnExactHasNeitherUptoCard
end Rows
end Go.Proofs.YtgccapdjhnejcaaDoor
