/-
  DERIVED. GIVEN WITH THE SEED: THE CARDS: each row of YtepoabbkalhifaaDoorRows.lean that lists a variable, with what it lists TIED to the program's text (the seventh form; the later family's looks); each row that meets fmt, with fmt's text TOLD by the authors' own Lean function (tested against real Go, not proved from fmt's source: count such statements apart). THE CARD IS WHAT COUNTS. Prove the row's statement (the work); the ties are given (YtepoabbkalhifaaDoorTie.lean); close each card by the builder's one call (the guide's Derived/Test/ToyasCard.lean, 'card_holds'). Laid BY PROGRAM, IN A SANDBOX (cutbox-door.mjs). By AI agents, Wed Nov 11 2026. No macro, syntax, notation, axiom, sorry.
-/
import Derived.Test.YtepoabbkalhifaaDoorRows
import GoSem.ClaimSeven
namespace Go.Proofs.YtepoabbkalhifaaDoor
namespace Rows

/-- THE TIED CARD OF 'laws.FnExactOneColourGroup'. -/
def fnExactOneColourGroupCard : Claim7 := { stood := { row := fnExactOneColourGroupRow, standIns := [], harness := (true, "f59b5429d036e52451a98646c2e4b5d05c2ccb3608e2df4eb8e5c10fec5ac14d"), looks := true }, kinds := [], alts := [], laidByText := true, laidKinds := [.data], laidTests := true, laidLooks := .later }
def FnExactOneColourGroupCardSaid : Prop := Claim7.holds Tryd.pinned (.plain (OpenSpec.ofChange fnExactOneColourGroupSpec)) fnExactOneColourGroupCard

/-- THE TIED CARD OF 'laws.FnExactMostOneColour'. -/
def fnExactMostOneColourCard : Claim7 := { stood := { row := fnExactMostOneColourRow, standIns := [], harness := (true, "f59b5429d036e52451a98646c2e4b5d05c2ccb3608e2df4eb8e5c10fec5ac14d"), looks := true }, kinds := [], alts := [], laidByText := true, laidKinds := [.data], laidTests := true, laidLooks := .later }
def FnExactMostOneColourCardSaid : Prop := Claim7.holds Tryd.pinned (.plain (OpenSpec.ofChange fnExactMostOneColourSpec)) fnExactMostOneColourCard

/-- THE TIED CARD OF 'laws.FnExactPaintingText'. -/
def fnExactPaintingTextCard : Claim7 := { stood := { row := fnExactPaintingTextRow, standIns := [], harness := (true, "f59b5429d036e52451a98646c2e4b5d05c2ccb3608e2df4eb8e5c10fec5ac14d"), looks := true }, kinds := [], alts := [], laidByText := true, laidKinds := [.data, .data, .data], laidTests := true, laidLooks := .later }
def FnExactPaintingTextCardSaid : Prop := Claim7.holds Tryd.pinned (.plain (OpenSpec.ofChange fnExactPaintingTextSpec)) fnExactPaintingTextCard

/-- THE TIED CARD OF 'laws.FnExactParsePainting'. -/
def fnExactParsePaintingCard : Claim7 := { stood := { row := fnExactParsePaintingRow, standIns := [], harness := (true, "f59b5429d036e52451a98646c2e4b5d05c2ccb3608e2df4eb8e5c10fec5ac14d"), looks := true }, kinds := [], alts := [], laidByText := true, laidKinds := [.data, .data, .data, .sentinel, .sentinel], laidTests := true, laidLooks := .later }
def FnExactParsePaintingCardSaid : Prop := Claim7.holds Tryd.pinned (.plain (OpenSpec.ofChange fnExactParsePaintingSpec)) fnExactParsePaintingCard

/-- THE TIED CARD OF 'laws.FnExactGreatestGroup'. -/
def fnExactGreatestGroupCard : Claim7 := { stood := { row := fnExactGreatestGroupRow, standIns := [], harness := (true, "f59b5429d036e52451a98646c2e4b5d05c2ccb3608e2df4eb8e5c10fec5ac14d"), looks := true }, kinds := [], alts := [], laidByText := true, laidKinds := [.data], laidTests := true, laidLooks := .later }
def FnExactGreatestGroupCardSaid : Prop := Claim7.holds Tryd.pinned (.plain (OpenSpec.ofChange fnExactGreatestGroupSpec)) fnExactGreatestGroupCard

/-- THE TIED CARD OF 'laws.FnExactGreatestStrange'. -/
def fnExactGreatestStrangeCard : Claim7 := { stood := { row := fnExactGreatestStrangeRow, standIns := [], harness := (true, "f59b5429d036e52451a98646c2e4b5d05c2ccb3608e2df4eb8e5c10fec5ac14d"), looks := true }, kinds := [], alts := [], laidByText := true, laidKinds := [.data], laidTests := true, laidLooks := .later }
def FnExactGreatestStrangeCardSaid : Prop := Claim7.holds Tryd.pinned (.plain (OpenSpec.ofChange fnExactGreatestStrangeSpec)) fnExactGreatestStrangeCard

/-- THE SECOND FORM's CARD OF 'laws.FnExactOneColourGroup'. -/
def fnExactOneColourGroupUptoCard : Claim7 := { stood := { row := fnExactOneColourGroupUptoRow, standIns := [], harness := (true, "f59b5429d036e52451a98646c2e4b5d05c2ccb3608e2df4eb8e5c10fec5ac14d"), looks := true }, kinds := [], alts := [], laidByText := true, laidKinds := [.data], laidTests := true, laidLooks := .later }
def FnExactOneColourGroupUptoCardSaid : Prop := Claim7.holds Tryd.pinned (.plain (OpenSpec.upto fnExactOneColourGroupSpec)) fnExactOneColourGroupUptoCard

/-- THE SECOND FORM's CARD OF 'laws.FnExactMostOneColour'. -/
def fnExactMostOneColourUptoCard : Claim7 := { stood := { row := fnExactMostOneColourUptoRow, standIns := [], harness := (true, "f59b5429d036e52451a98646c2e4b5d05c2ccb3608e2df4eb8e5c10fec5ac14d"), looks := true }, kinds := [], alts := [], laidByText := true, laidKinds := [.data], laidTests := true, laidLooks := .later }
def FnExactMostOneColourUptoCardSaid : Prop := Claim7.holds Tryd.pinned (.plain (OpenSpec.upto fnExactMostOneColourSpec)) fnExactMostOneColourUptoCard

/-- THE SECOND FORM's CARD OF 'laws.FnExactPaintingText'. -/
def fnExactPaintingTextUptoCard : Claim7 := { stood := { row := fnExactPaintingTextUptoRow, standIns := [], harness := (true, "f59b5429d036e52451a98646c2e4b5d05c2ccb3608e2df4eb8e5c10fec5ac14d"), looks := true }, kinds := [], alts := [], laidByText := true, laidKinds := [.data, .data, .data], laidTests := true, laidLooks := .later }
def FnExactPaintingTextUptoCardSaid : Prop := Claim7.holds Tryd.pinned (.plain (OpenSpec.upto fnExactPaintingTextSpec)) fnExactPaintingTextUptoCard

/-- THE SECOND FORM's CARD OF 'laws.FnExactParsePainting'. -/
def fnExactParsePaintingUptoCard : Claim7 := { stood := { row := fnExactParsePaintingUptoRow, standIns := [], harness := (true, "f59b5429d036e52451a98646c2e4b5d05c2ccb3608e2df4eb8e5c10fec5ac14d"), looks := true }, kinds := [], alts := [], laidByText := true, laidKinds := [.data, .data, .data, .sentinel, .sentinel], laidTests := true, laidLooks := .later }
def FnExactParsePaintingUptoCardSaid : Prop := Claim7.holds Tryd.pinned (.plain (OpenSpec.upto fnExactParsePaintingSpec)) fnExactParsePaintingUptoCard

/-- THE SECOND FORM's CARD OF 'laws.FnExactGreatestGroup'. -/
def fnExactGreatestGroupUptoCard : Claim7 := { stood := { row := fnExactGreatestGroupUptoRow, standIns := [], harness := (true, "f59b5429d036e52451a98646c2e4b5d05c2ccb3608e2df4eb8e5c10fec5ac14d"), looks := true }, kinds := [], alts := [], laidByText := true, laidKinds := [.data], laidTests := true, laidLooks := .later }
def FnExactGreatestGroupUptoCardSaid : Prop := Claim7.holds Tryd.pinned (.plain (OpenSpec.upto fnExactGreatestGroupSpec)) fnExactGreatestGroupUptoCard

/-- THE SECOND FORM's CARD OF 'laws.FnExactGreatestStrange'. -/
def fnExactGreatestStrangeUptoCard : Claim7 := { stood := { row := fnExactGreatestStrangeUptoRow, standIns := [], harness := (true, "f59b5429d036e52451a98646c2e4b5d05c2ccb3608e2df4eb8e5c10fec5ac14d"), looks := true }, kinds := [], alts := [], laidByText := true, laidKinds := [.data], laidTests := true, laidLooks := .later }
def FnExactGreatestStrangeUptoCardSaid : Prop := Claim7.holds Tryd.pinned (.plain (OpenSpec.upto fnExactGreatestStrangeSpec)) fnExactGreatestStrangeUptoCard
end Rows
end Go.Proofs.YtepoabbkalhifaaDoor
