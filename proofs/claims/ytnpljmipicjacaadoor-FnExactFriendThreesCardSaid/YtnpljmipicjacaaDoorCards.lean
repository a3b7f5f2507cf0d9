/-
  DERIVED. GIVEN WITH THE SEED: THE CARDS: each row of YtnpljmipicjacaaDoorRows.lean that lists a variable, with what it lists TIED to the program's text (the seventh form; the later family's looks); each row that meets fmt, with fmt's text TOLD by the authors' own Lean function (tested against real Go, not proved from fmt's source: count such statements apart). THE CARD IS WHAT COUNTS. Prove the row's statement (the work); the ties are given (YtnpljmipicjacaaDoorTie.lean); close each card by the builder's one call (the guide's Derived/Test/ToyasCard.lean, 'card_holds'). Laid BY PROGRAM, IN A SANDBOX (cutbox-door.mjs). By AI agents, Wed Nov 11 2026. No macro, syntax, notation, axiom, sorry.
-/
import Derived.Test.YtnpljmipicjacaaDoorRows
import GoSem.ClaimSeven
namespace Go.Proofs.YtnpljmipicjacaaDoor
namespace Rows

/-- THE TIED CARD OF 'laws.FnExactGrowGroup'. -/
def fnExactGrowGroupCard : Claim7 := { stood := { row := fnExactGrowGroupRow, standIns := [], harness := (true, "33847635bed5be69773b31c848abdb2b6ae273de71a63a7dd2708da6d2bbb422"), looks := false }, kinds := [], alts := [], laidByText := true, laidKinds := [.data], laidTests := true, laidLooks := .later }
def FnExactGrowGroupCardSaid : Prop := Claim7.holds Tryd.pinned (.plain (OpenSpec.ofChange fnExactGrowGroupSpec)) fnExactGrowGroupCard

/-- THE TIED CARD OF 'laws.FnExactCountThrees'. -/
def fnExactCountThreesCard : Claim7 := { stood := { row := fnExactCountThreesRow, standIns := [], harness := (true, "33847635bed5be69773b31c848abdb2b6ae273de71a63a7dd2708da6d2bbb422"), looks := false }, kinds := [], alts := [], laidByText := true, laidKinds := [.data], laidTests := true, laidLooks := .later }
def FnExactCountThreesCardSaid : Prop := Claim7.holds Tryd.pinned (.plain (OpenSpec.ofChange fnExactCountThreesSpec)) fnExactCountThreesCard

/-- THE TIED CARD OF 'laws.FnExactFriendThrees'. -/
def fnExactFriendThreesCard : Claim7 := { stood := { row := fnExactFriendThreesRow, standIns := [], harness := (true, "33847635bed5be69773b31c848abdb2b6ae273de71a63a7dd2708da6d2bbb422"), looks := false }, kinds := [], alts := [], laidByText := true, laidKinds := [.data], laidTests := true, laidLooks := .later }
def FnExactFriendThreesCardSaid : Prop := Claim7.holds Tryd.pinned (.plain (OpenSpec.ofChange fnExactFriendThreesSpec)) fnExactFriendThreesCard

/-- THE TIED CARD OF 'laws.FnExactGreatestGroup'. -/
def fnExactGreatestGroupCard : Claim7 := { stood := { row := fnExactGreatestGroupRow, standIns := [], harness := (true, "33847635bed5be69773b31c848abdb2b6ae273de71a63a7dd2708da6d2bbb422"), looks := false }, kinds := [], alts := [], laidByText := true, laidKinds := [.data], laidTests := true, laidLooks := .later }
def FnExactGreatestGroupCardSaid : Prop := Claim7.holds Tryd.pinned (.plain (OpenSpec.ofChange fnExactGreatestGroupSpec)) fnExactGreatestGroupCard

/-- THE TIED CARD OF 'laws.FnExactGreatestStrange'. -/
def fnExactGreatestStrangeCard : Claim7 := { stood := { row := fnExactGreatestStrangeRow, standIns := [], harness := (true, "33847635bed5be69773b31c848abdb2b6ae273de71a63a7dd2708da6d2bbb422"), looks := false }, kinds := [], alts := [], laidByText := true, laidKinds := [.data], laidTests := true, laidLooks := .later }
def FnExactGreatestStrangeCardSaid : Prop := Claim7.holds Tryd.pinned (.plain (OpenSpec.ofChange fnExactGreatestStrangeSpec)) fnExactGreatestStrangeCard

/-- THE TIED CARD OF 'laws.FnExactAllGroups'. -/
def fnExactAllGroupsCard : Claim7 := { stood := { row := fnExactAllGroupsRow, standIns := [], harness := (true, "33847635bed5be69773b31c848abdb2b6ae273de71a63a7dd2708da6d2bbb422"), looks := false }, kinds := [], alts := [], laidByText := true, laidKinds := [.data], laidTests := true, laidLooks := .later }
def FnExactAllGroupsCardSaid : Prop := Claim7.holds Tryd.pinned (.plain (OpenSpec.ofChange fnExactAllGroupsSpec)) fnExactAllGroupsCard

/-- THE TIED CARD OF 'laws.FnExactAllApart'. -/
def fnExactAllApartCard : Claim7 := { stood := { row := fnExactAllApartRow, standIns := [], harness := (true, "33847635bed5be69773b31c848abdb2b6ae273de71a63a7dd2708da6d2bbb422"), looks := false }, kinds := [], alts := [], laidByText := true, laidKinds := [.data], laidTests := true, laidLooks := .later }
def FnExactAllApartCardSaid : Prop := Claim7.holds Tryd.pinned (.plain (OpenSpec.ofChange fnExactAllApartSpec)) fnExactAllApartCard

/-- THE SECOND FORM's CARD OF 'laws.FnExactGrowGroup'. -/
def fnExactGrowGroupUptoCard : Claim7 := { stood := { row := fnExactGrowGroupUptoRow, standIns := [], harness := (true, "33847635bed5be69773b31c848abdb2b6ae273de71a63a7dd2708da6d2bbb422"), looks := false }, kinds := [], alts := [], laidByText := true, laidKinds := [.data], laidTests := true, laidLooks := .later }
def FnExactGrowGroupUptoCardSaid : Prop := Claim7.holds Tryd.pinned (.plain (OpenSpec.upto fnExactGrowGroupSpec)) fnExactGrowGroupUptoCard

/-- THE SECOND FORM's CARD OF 'laws.FnExactCountThrees'. -/
def fnExactCountThreesUptoCard : Claim7 := { stood := { row := fnExactCountThreesUptoRow, standIns := [], harness := (true, "33847635bed5be69773b31c848abdb2b6ae273de71a63a7dd2708da6d2bbb422"), looks := false }, kinds := [], alts := [], laidByText := true, laidKinds := [.data], laidTests := true, laidLooks := .later }
def FnExactCountThreesUptoCardSaid : Prop := Claim7.holds Tryd.pinned (.plain (OpenSpec.upto fnExactCountThreesSpec)) fnExactCountThreesUptoCard

/-- THE SECOND FORM's CARD OF 'laws.FnExactFriendThrees'. -/
def fnExactFriendThreesUptoCard : Claim7 := { stood := { row := fnExactFriendThreesUptoRow, standIns := [], harness := (true, "33847635bed5be69773b31c848abdb2b6ae273de71a63a7dd2708da6d2bbb422"), looks := false }, kinds := [], alts := [], laidByText := true, laidKinds := [.data], laidTests := true, laidLooks := .later }
def FnExactFriendThreesUptoCardSaid : Prop := Claim7.holds Tryd.pinned (.plain (OpenSpec.upto fnExactFriendThreesSpec)) fnExactFriendThreesUptoCard

/-- THE SECOND FORM's CARD OF 'laws.FnExactGreatestGroup'. -/
def fnExactGreatestGroupUptoCard : Claim7 := { stood := { row := fnExactGreatestGroupUptoRow, standIns := [], harness := (true, "33847635bed5be69773b31c848abdb2b6ae273de71a63a7dd2708da6d2bbb422"), looks := false }, kinds := [], alts := [], laidByText := true, laidKinds := [.data], laidTests := true, laidLooks := .later }
def FnExactGreatestGroupUptoCardSaid : Prop := Claim7.holds Tryd.pinned (.plain (OpenSpec.upto fnExactGreatestGroupSpec)) fnExactGreatestGroupUptoCard

/-- THE SECOND FORM's CARD OF 'laws.FnExactGreatestStrange'. -/
def fnExactGreatestStrangeUptoCard : Claim7 := { stood := { row := fnExactGreatestStrangeUptoRow, standIns := [], harness := (true, "33847635bed5be69773b31c848abdb2b6ae273de71a63a7dd2708da6d2bbb422"), looks := false }, kinds := [], alts := [], laidByText := true, laidKinds := [.data], laidTests := true, laidLooks := .later }
def FnExactGreatestStrangeUptoCardSaid : Prop := Claim7.holds Tryd.pinned (.plain (OpenSpec.upto fnExactGreatestStrangeSpec)) fnExactGreatestStrangeUptoCard

/-- THE SECOND FORM's CARD OF 'laws.FnExactAllGroups'. -/
def fnExactAllGroupsUptoCard : Claim7 := { stood := { row := fnExactAllGroupsUptoRow, standIns := [], harness := (true, "33847635bed5be69773b31c848abdb2b6ae273de71a63a7dd2708da6d2bbb422"), looks := false }, kinds := [], alts := [], laidByText := true, laidKinds := [.data], laidTests := true, laidLooks := .later }
def FnExactAllGroupsUptoCardSaid : Prop := Claim7.holds Tryd.pinned (.plain (OpenSpec.upto fnExactAllGroupsSpec)) fnExactAllGroupsUptoCard

/-- THE SECOND FORM's CARD OF 'laws.FnExactAllApart'. -/
def fnExactAllApartUptoCard : Claim7 := { stood := { row := fnExactAllApartUptoRow, standIns := [], harness := (true, "33847635bed5be69773b31c848abdb2b6ae273de71a63a7dd2708da6d2bbb422"), looks := false }, kinds := [], alts := [], laidByText := true, laidKinds := [.data], laidTests := true, laidLooks := .later }
def FnExactAllApartUptoCardSaid : Prop := Claim7.holds Tryd.pinned (.plain (OpenSpec.upto fnExactAllApartSpec)) fnExactAllApartUptoCard
end Rows
end Go.Proofs.YtnpljmipicjacaaDoor
