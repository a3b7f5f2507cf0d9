/-
  DERIVED. GIVEN WITH THE SEED: THE CARDS: each row of YtmiecebdkadhbaaDoorRows.lean that lists a variable, with what it lists TIED to the program's text (the seventh form; the later family's looks); each row that meets fmt, with fmt's text TOLD by the authors' own Lean function (tested against real Go, not proved from fmt's source: count such statements apart). THE CARD IS WHAT COUNTS. Prove the row's statement (the work); the ties are given (YtmiecebdkadhbaaDoorTie.lean); close each card by the builder's one call (the guide's Derived/Test/ToyasCard.lean, 'card_holds'). Laid BY PROGRAM, IN A SANDBOX (cutbox-door.mjs). By AI agents, Wed Nov 11 2026. No macro, syntax, notation, axiom, sorry.
-/
import Derived.Test.YtmiecebdkadhbaaDoorRows
import GoSem.ClaimSeven
namespace Go.Proofs.YtmiecebdkadhbaaDoor
namespace Rows

/-- THE TIED CARD OF 'laws.FnExactFirstSeating'. -/
def fnExactFirstSeatingCard : Claim7 := { stood := { row := fnExactFirstSeatingRow, standIns := [], harness := (true, "aff75c4349beccde11ead3f602271c21bbcc5f256058e94accc0b6d74b7b87a4"), looks := false }, kinds := [], alts := [], goes := true, laidByText := true, laidKinds := [.data], laidTests := true, laidLooks := .later }
def FnExactFirstSeatingCardSaid : Prop := Claim7.holds Tryd.pinned (.plain (OpenSpec.ofChange fnExactFirstSeatingSpec)) fnExactFirstSeatingCard

/-- THE TIED CARD OF 'laws.FnExactCountSeatings'. -/
def fnExactCountSeatingsCard : Claim7 := { stood := { row := fnExactCountSeatingsRow, standIns := [], harness := (true, "aff75c4349beccde11ead3f602271c21bbcc5f256058e94accc0b6d74b7b87a4"), looks := false }, kinds := [], alts := [], goes := true, laidByText := true, laidKinds := [.data], laidTests := true, laidLooks := .later }
def FnExactCountSeatingsCardSaid : Prop := Claim7.holds Tryd.pinned (.plain (OpenSpec.ofChange fnExactCountSeatingsSpec)) fnExactCountSeatingsCard

/-- THE TIED CARD OF 'laws.FnExactFirstRow'. -/
def fnExactFirstRowCard : Claim7 := { stood := { row := fnExactFirstRowRow, standIns := [], harness := (true, "aff75c4349beccde11ead3f602271c21bbcc5f256058e94accc0b6d74b7b87a4"), looks := false }, kinds := [], alts := [], goes := true, laidByText := true, laidKinds := [.data], laidTests := true, laidLooks := .later }
def FnExactFirstRowCardSaid : Prop := Claim7.holds Tryd.pinned (.plain (OpenSpec.ofChange fnExactFirstRowSpec)) fnExactFirstRowCard

/-- THE TIED CARD OF 'laws.FnExactCountRows'. -/
def fnExactCountRowsCard : Claim7 := { stood := { row := fnExactCountRowsRow, standIns := [], harness := (true, "aff75c4349beccde11ead3f602271c21bbcc5f256058e94accc0b6d74b7b87a4"), looks := false }, kinds := [], alts := [], goes := true, laidByText := true, laidKinds := [.data], laidTests := true, laidLooks := .later }
def FnExactCountRowsCardSaid : Prop := Claim7.holds Tryd.pinned (.plain (OpenSpec.ofChange fnExactCountRowsSpec)) fnExactCountRowsCard

/-- THE TIED CARD OF 'laws.FnExactTwoTables'. -/
def fnExactTwoTablesCard : Claim7 := { stood := { row := fnExactTwoTablesRow, standIns := [], harness := (true, "aff75c4349beccde11ead3f602271c21bbcc5f256058e94accc0b6d74b7b87a4"), looks := false }, kinds := [], alts := [], goes := true, laidByText := true, laidKinds := [.data], laidTests := true, laidLooks := .later }
def FnExactTwoTablesCardSaid : Prop := Claim7.holds Tryd.pinned (.plain (OpenSpec.ofChange fnExactTwoTablesSpec)) fnExactTwoTablesCard

/-- THE TIED CARD OF 'laws.FnExactTablesApart'. -/
def fnExactTablesApartCard : Claim7 := { stood := { row := fnExactTablesApartRow, standIns := [], harness := (true, "aff75c4349beccde11ead3f602271c21bbcc5f256058e94accc0b6d74b7b87a4"), looks := false }, kinds := [], alts := [], goes := true, laidByText := true, laidKinds := [.data], laidTests := true, laidLooks := .later }
def FnExactTablesApartCardSaid : Prop := Claim7.holds Tryd.pinned (.plain (OpenSpec.ofChange fnExactTablesApartSpec)) fnExactTablesApartCard

/-- THE TIED CARD OF 'laws.FnExactCountWalks'. -/
def fnExactCountWalksCard : Claim7 := { stood := { row := fnExactCountWalksRow, standIns := [], harness := (true, "aff75c4349beccde11ead3f602271c21bbcc5f256058e94accc0b6d74b7b87a4"), looks := false }, kinds := [], alts := [], laidByText := true, laidKinds := [.data], laidTests := true, laidLooks := .later }
def FnExactCountWalksCardSaid : Prop := Claim7.holds Tryd.pinned (.plain (OpenSpec.ofChange fnExactCountWalksSpec)) fnExactCountWalksCard

/-- THE TIED CARD OF 'laws.FnExactCountRoundWalks'. -/
def fnExactCountRoundWalksCard : Claim7 := { stood := { row := fnExactCountRoundWalksRow, standIns := [], harness := (true, "aff75c4349beccde11ead3f602271c21bbcc5f256058e94accc0b6d74b7b87a4"), looks := false }, kinds := [], alts := [], laidByText := true, laidKinds := [.data], laidTests := true, laidLooks := .later }
def FnExactCountRoundWalksCardSaid : Prop := Claim7.holds Tryd.pinned (.plain (OpenSpec.ofChange fnExactCountRoundWalksSpec)) fnExactCountRoundWalksCard

/-- THE TIED CARD OF 'laws.FnExactShortestRound'. -/
def fnExactShortestRoundCard : Claim7 := { stood := { row := fnExactShortestRoundRow, standIns := [], harness := (true, "aff75c4349beccde11ead3f602271c21bbcc5f256058e94accc0b6d74b7b87a4"), looks := false }, kinds := [], alts := [], goes := true, laidByText := true, laidKinds := [.data], laidTests := true, laidLooks := .later }
def FnExactShortestRoundCardSaid : Prop := Claim7.holds Tryd.pinned (.plain (OpenSpec.ofChange fnExactShortestRoundSpec)) fnExactShortestRoundCard

/-- THE TIED CARD OF 'laws.FnExactPartyText'. -/
def fnExactPartyTextCard : Claim7 := { stood := { row := fnExactPartyTextRow, standIns := [], harness := (true, "aff75c4349beccde11ead3f602271c21bbcc5f256058e94accc0b6d74b7b87a4"), looks := false }, kinds := [], alts := [], laidByText := true, laidKinds := [.data, .data, .data], laidTests := true, laidLooks := .later }
def FnExactPartyTextCardSaid : Prop := Claim7.holds Tryd.pinned (.plain (OpenSpec.ofChange fnExactPartyTextSpec)) fnExactPartyTextCard

/-- THE SECOND FORM's CARD OF 'laws.FnExactFirstSeating'. -/
def fnExactFirstSeatingUptoCard : Claim7 := { stood := { row := fnExactFirstSeatingUptoRow, standIns := [], harness := (true, "aff75c4349beccde11ead3f602271c21bbcc5f256058e94accc0b6d74b7b87a4"), looks := false }, kinds := [], alts := [], goes := true, laidByText := true, laidKinds := [.data], laidTests := true, laidLooks := .later }
def FnExactFirstSeatingUptoCardSaid : Prop := Claim7.holds Tryd.pinned (.plain (OpenSpec.upto fnExactFirstSeatingSpec)) fnExactFirstSeatingUptoCard

/-- THE SECOND FORM's CARD OF 'laws.FnExactCountSeatings'. -/
def fnExactCountSeatingsUptoCard : Claim7 := { stood := { row := fnExactCountSeatingsUptoRow, standIns := [], harness := (true, "aff75c4349beccde11ead3f602271c21bbcc5f256058e94accc0b6d74b7b87a4"), looks := false }, kinds := [], alts := [], goes := true, laidByText := true, laidKinds := [.data], laidTests := true, laidLooks := .later }
def FnExactCountSeatingsUptoCardSaid : Prop := Claim7.holds Tryd.pinned (.plain (OpenSpec.upto fnExactCountSeatingsSpec)) fnExactCountSeatingsUptoCard

/-- THE SECOND FORM's CARD OF 'laws.FnExactFirstRow'. -/
def fnExactFirstRowUptoCard : Claim7 := { stood := { row := fnExactFirstRowUptoRow, standIns := [], harness := (true, "aff75c4349beccde11ead3f602271c21bbcc5f256058e94accc0b6d74b7b87a4"), looks := false }, kinds := [], alts := [], goes := true, laidByText := true, laidKinds := [.data], laidTests := true, laidLooks := .later }
def FnExactFirstRowUptoCardSaid : Prop := Claim7.holds Tryd.pinned (.plain (OpenSpec.upto fnExactFirstRowSpec)) fnExactFirstRowUptoCard

/-- THE SECOND FORM's CARD OF 'laws.FnExactCountRows'. -/
def fnExactCountRowsUptoCard : Claim7 := { stood := { row := fnExactCountRowsUptoRow, standIns := [], harness := (true, "aff75c4349beccde11ead3f602271c21bbcc5f256058e94accc0b6d74b7b87a4"), looks := false }, kinds := [], alts := [], goes := true, laidByText := true, laidKinds := [.data], laidTests := true, laidLooks := .later }
def FnExactCountRowsUptoCardSaid : Prop := Claim7.holds Tryd.pinned (.plain (OpenSpec.upto fnExactCountRowsSpec)) fnExactCountRowsUptoCard

/-- THE SECOND FORM's CARD OF 'laws.FnExactTwoTables'. -/
def fnExactTwoTablesUptoCard : Claim7 := { stood := { row := fnExactTwoTablesUptoRow, standIns := [], harness := (true, "aff75c4349beccde11ead3f602271c21bbcc5f256058e94accc0b6d74b7b87a4"), looks := false }, kinds := [], alts := [], goes := true, laidByText := true, laidKinds := [.data], laidTests := true, laidLooks := .later }
def FnExactTwoTablesUptoCardSaid : Prop := Claim7.holds Tryd.pinned (.plain (OpenSpec.upto fnExactTwoTablesSpec)) fnExactTwoTablesUptoCard

/-- THE SECOND FORM's CARD OF 'laws.FnExactTablesApart'. -/
def fnExactTablesApartUptoCard : Claim7 := { stood := { row := fnExactTablesApartUptoRow, standIns := [], harness := (true, "aff75c4349beccde11ead3f602271c21bbcc5f256058e94accc0b6d74b7b87a4"), looks := false }, kinds := [], alts := [], goes := true, laidByText := true, laidKinds := [.data], laidTests := true, laidLooks := .later }
def FnExactTablesApartUptoCardSaid : Prop := Claim7.holds Tryd.pinned (.plain (OpenSpec.upto fnExactTablesApartSpec)) fnExactTablesApartUptoCard

/-- THE SECOND FORM's CARD OF 'laws.FnExactCountWalks'. -/
def fnExactCountWalksUptoCard : Claim7 := { stood := { row := fnExactCountWalksUptoRow, standIns := [], harness := (true, "aff75c4349beccde11ead3f602271c21bbcc5f256058e94accc0b6d74b7b87a4"), looks := false }, kinds := [], alts := [], laidByText := true, laidKinds := [.data], laidTests := true, laidLooks := .later }
def FnExactCountWalksUptoCardSaid : Prop := Claim7.holds Tryd.pinned (.plain (OpenSpec.upto fnExactCountWalksSpec)) fnExactCountWalksUptoCard

/-- THE SECOND FORM's CARD OF 'laws.FnExactCountRoundWalks'. -/
def fnExactCountRoundWalksUptoCard : Claim7 := { stood := { row := fnExactCountRoundWalksUptoRow, standIns := [], harness := (true, "aff75c4349beccde11ead3f602271c21bbcc5f256058e94accc0b6d74b7b87a4"), looks := false }, kinds := [], alts := [], laidByText := true, laidKinds := [.data], laidTests := true, laidLooks := .later }
def FnExactCountRoundWalksUptoCardSaid : Prop := Claim7.holds Tryd.pinned (.plain (OpenSpec.upto fnExactCountRoundWalksSpec)) fnExactCountRoundWalksUptoCard

/-- THE SECOND FORM's CARD OF 'laws.FnExactShortestRound'. -/
def fnExactShortestRoundUptoCard : Claim7 := { stood := { row := fnExactShortestRoundUptoRow, standIns := [], harness := (true, "aff75c4349beccde11ead3f602271c21bbcc5f256058e94accc0b6d74b7b87a4"), looks := false }, kinds := [], alts := [], goes := true, laidByText := true, laidKinds := [.data], laidTests := true, laidLooks := .later }
def FnExactShortestRoundUptoCardSaid : Prop := Claim7.holds Tryd.pinned (.plain (OpenSpec.upto fnExactShortestRoundSpec)) fnExactShortestRoundUptoCard

/-- THE SECOND FORM's CARD OF 'laws.FnExactPartyText'. -/
def fnExactPartyTextUptoCard : Claim7 := { stood := { row := fnExactPartyTextUptoRow, standIns := [], harness := (true, "aff75c4349beccde11ead3f602271c21bbcc5f256058e94accc0b6d74b7b87a4"), looks := false }, kinds := [], alts := [], laidByText := true, laidKinds := [.data, .data, .data], laidTests := true, laidLooks := .later }
def FnExactPartyTextUptoCardSaid : Prop := Claim7.holds Tryd.pinned (.plain (OpenSpec.upto fnExactPartyTextSpec)) fnExactPartyTextUptoCard
end Rows
end Go.Proofs.YtmiecebdkadhbaaDoor
