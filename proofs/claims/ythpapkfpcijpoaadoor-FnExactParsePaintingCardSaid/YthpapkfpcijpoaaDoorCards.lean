/-
  DERIVED. GIVEN WITH THE SEED: THE CARDS: each row of YthpapkfpcijpoaaDoorRows.lean that lists a variable, with what it lists TIED to the program's text (the seventh form; the later family's looks); each row that meets fmt, with fmt's text TOLD by the authors' own Lean function (tested against real Go, not proved from fmt's source: count such statements apart). THE CARD IS WHAT COUNTS. Prove the row's statement (the work); the ties are given (YthpapkfpcijpoaaDoorTie.lean); close each card by the builder's one call (the guide's Derived/Test/ToyasCard.lean, 'card_holds'). Laid BY PROGRAM, IN A SANDBOX (cutbox-door.mjs). By AI agents, Wed Nov 11 2026. No macro, syntax, notation, axiom, sorry.
-/
import Derived.Test.YthpapkfpcijpoaaDoorRows
import GoSem.ClaimSeven
namespace Go.Proofs.YthpapkfpcijpoaaDoor
namespace Rows

/-- THE TIED CARD OF 'laws.FnExactCommonFriends'. -/
def fnExactCommonFriendsCard : Claim7 := { stood := { row := fnExactCommonFriendsRow, standIns := [], harness := (true, "6306ea074a01f7a41a7ee448863e9463f1aa127914c49b26d41ce61a01aecc6d"), looks := true }, kinds := [], alts := [], laidByText := true, laidKinds := [.data], laidTests := true, laidLooks := .later }
def FnExactCommonFriendsCardSaid : Prop := Claim7.holds Tryd.pinned (.plain (OpenSpec.ofChange fnExactCommonFriendsSpec)) fnExactCommonFriendsCard

/-- THE TIED CARD OF 'laws.FnExactCountWalks'. -/
def fnExactCountWalksCard : Claim7 := { stood := { row := fnExactCountWalksRow, standIns := [], harness := (true, "6306ea074a01f7a41a7ee448863e9463f1aa127914c49b26d41ce61a01aecc6d"), looks := true }, kinds := [], alts := [], laidByText := true, laidKinds := [.data], laidTests := true, laidLooks := .later }
def FnExactCountWalksCardSaid : Prop := Claim7.holds Tryd.pinned (.plain (OpenSpec.ofChange fnExactCountWalksSpec)) fnExactCountWalksCard

/-- THE TIED CARD OF 'laws.FnExactCountRoundWalks'. -/
def fnExactCountRoundWalksCard : Claim7 := { stood := { row := fnExactCountRoundWalksRow, standIns := [], harness := (true, "6306ea074a01f7a41a7ee448863e9463f1aa127914c49b26d41ce61a01aecc6d"), looks := true }, kinds := [], alts := [], laidByText := true, laidKinds := [.data], laidTests := true, laidLooks := .later }
def FnExactCountRoundWalksCardSaid : Prop := Claim7.holds Tryd.pinned (.plain (OpenSpec.ofChange fnExactCountRoundWalksSpec)) fnExactCountRoundWalksCard

/-- THE TIED CARD OF 'laws.FnExactDistanceOf'. -/
def fnExactDistanceOfCard : Claim7 := { stood := { row := fnExactDistanceOfRow, standIns := [], harness := (true, "6306ea074a01f7a41a7ee448863e9463f1aa127914c49b26d41ce61a01aecc6d"), looks := true }, kinds := [], alts := [], laidByText := true, laidKinds := [.data], laidTests := true, laidLooks := .later }
def FnExactDistanceOfCardSaid : Prop := Claim7.holds Tryd.pinned (.plain (OpenSpec.ofChange fnExactDistanceOfSpec)) fnExactDistanceOfCard

/-- THE TIED CARD OF 'laws.FnExactWidestDistance'. -/
def fnExactWidestDistanceCard : Claim7 := { stood := { row := fnExactWidestDistanceRow, standIns := [], harness := (true, "6306ea074a01f7a41a7ee448863e9463f1aa127914c49b26d41ce61a01aecc6d"), looks := true }, kinds := [], alts := [], laidByText := true, laidKinds := [.data], laidTests := true, laidLooks := .later }
def FnExactWidestDistanceCardSaid : Prop := Claim7.holds Tryd.pinned (.plain (OpenSpec.ofChange fnExactWidestDistanceSpec)) fnExactWidestDistanceCard

/-- THE TIED CARD OF 'laws.FnExactShortestRound'. -/
def fnExactShortestRoundCard : Claim7 := { stood := { row := fnExactShortestRoundRow, standIns := [], harness := (true, "6306ea074a01f7a41a7ee448863e9463f1aa127914c49b26d41ce61a01aecc6d"), looks := true }, kinds := [], alts := [], laidByText := true, laidKinds := [.data], laidTests := true, laidLooks := .later }
def FnExactShortestRoundCardSaid : Prop := Claim7.holds Tryd.pinned (.plain (OpenSpec.ofChange fnExactShortestRoundSpec)) fnExactShortestRoundCard

/-- THE TIED CARD OF 'laws.FnExactParsePainting'. -/
def fnExactParsePaintingCard : Claim7 := { stood := { row := fnExactParsePaintingRow, standIns := [], harness := (true, "6306ea074a01f7a41a7ee448863e9463f1aa127914c49b26d41ce61a01aecc6d"), looks := true }, kinds := [], alts := [], laidByText := true, laidKinds := [.data, .data, .data, .sentinel, .sentinel], laidTests := true, laidLooks := .later }
def FnExactParsePaintingCardSaid : Prop := Claim7.holds Tryd.pinned (.plain (OpenSpec.ofChange fnExactParsePaintingSpec)) fnExactParsePaintingCard

/-- THE TIED CARD OF 'laws.FnExactPartyText'. -/
def fnExactPartyTextCard : Claim7 := { stood := { row := fnExactPartyTextRow, standIns := [], harness := (true, "6306ea074a01f7a41a7ee448863e9463f1aa127914c49b26d41ce61a01aecc6d"), looks := true }, kinds := [], alts := [], laidByText := true, laidKinds := [.data, .data, .data], laidTests := true, laidLooks := .later }
def FnExactPartyTextCardSaid : Prop := Claim7.holds Tryd.pinned (.plain (OpenSpec.ofChange fnExactPartyTextSpec)) fnExactPartyTextCard

/-- THE SECOND FORM's CARD OF 'laws.FnExactCommonFriends'. -/
def fnExactCommonFriendsUptoCard : Claim7 := { stood := { row := fnExactCommonFriendsUptoRow, standIns := [], harness := (true, "6306ea074a01f7a41a7ee448863e9463f1aa127914c49b26d41ce61a01aecc6d"), looks := true }, kinds := [], alts := [], laidByText := true, laidKinds := [.data], laidTests := true, laidLooks := .later }
def FnExactCommonFriendsUptoCardSaid : Prop := Claim7.holds Tryd.pinned (.plain (OpenSpec.upto fnExactCommonFriendsSpec)) fnExactCommonFriendsUptoCard

/-- THE SECOND FORM's CARD OF 'laws.FnExactCountWalks'. -/
def fnExactCountWalksUptoCard : Claim7 := { stood := { row := fnExactCountWalksUptoRow, standIns := [], harness := (true, "6306ea074a01f7a41a7ee448863e9463f1aa127914c49b26d41ce61a01aecc6d"), looks := true }, kinds := [], alts := [], laidByText := true, laidKinds := [.data], laidTests := true, laidLooks := .later }
def FnExactCountWalksUptoCardSaid : Prop := Claim7.holds Tryd.pinned (.plain (OpenSpec.upto fnExactCountWalksSpec)) fnExactCountWalksUptoCard

/-- THE SECOND FORM's CARD OF 'laws.FnExactCountRoundWalks'. -/
def fnExactCountRoundWalksUptoCard : Claim7 := { stood := { row := fnExactCountRoundWalksUptoRow, standIns := [], harness := (true, "6306ea074a01f7a41a7ee448863e9463f1aa127914c49b26d41ce61a01aecc6d"), looks := true }, kinds := [], alts := [], laidByText := true, laidKinds := [.data], laidTests := true, laidLooks := .later }
def FnExactCountRoundWalksUptoCardSaid : Prop := Claim7.holds Tryd.pinned (.plain (OpenSpec.upto fnExactCountRoundWalksSpec)) fnExactCountRoundWalksUptoCard

/-- THE SECOND FORM's CARD OF 'laws.FnExactDistanceOf'. -/
def fnExactDistanceOfUptoCard : Claim7 := { stood := { row := fnExactDistanceOfUptoRow, standIns := [], harness := (true, "6306ea074a01f7a41a7ee448863e9463f1aa127914c49b26d41ce61a01aecc6d"), looks := true }, kinds := [], alts := [], laidByText := true, laidKinds := [.data], laidTests := true, laidLooks := .later }
def FnExactDistanceOfUptoCardSaid : Prop := Claim7.holds Tryd.pinned (.plain (OpenSpec.upto fnExactDistanceOfSpec)) fnExactDistanceOfUptoCard

/-- THE SECOND FORM's CARD OF 'laws.FnExactWidestDistance'. -/
def fnExactWidestDistanceUptoCard : Claim7 := { stood := { row := fnExactWidestDistanceUptoRow, standIns := [], harness := (true, "6306ea074a01f7a41a7ee448863e9463f1aa127914c49b26d41ce61a01aecc6d"), looks := true }, kinds := [], alts := [], laidByText := true, laidKinds := [.data], laidTests := true, laidLooks := .later }
def FnExactWidestDistanceUptoCardSaid : Prop := Claim7.holds Tryd.pinned (.plain (OpenSpec.upto fnExactWidestDistanceSpec)) fnExactWidestDistanceUptoCard

/-- THE SECOND FORM's CARD OF 'laws.FnExactShortestRound'. -/
def fnExactShortestRoundUptoCard : Claim7 := { stood := { row := fnExactShortestRoundUptoRow, standIns := [], harness := (true, "6306ea074a01f7a41a7ee448863e9463f1aa127914c49b26d41ce61a01aecc6d"), looks := true }, kinds := [], alts := [], laidByText := true, laidKinds := [.data], laidTests := true, laidLooks := .later }
def FnExactShortestRoundUptoCardSaid : Prop := Claim7.holds Tryd.pinned (.plain (OpenSpec.upto fnExactShortestRoundSpec)) fnExactShortestRoundUptoCard

/-- THE SECOND FORM's CARD OF 'laws.FnExactParsePainting'. -/
def fnExactParsePaintingUptoCard : Claim7 := { stood := { row := fnExactParsePaintingUptoRow, standIns := [], harness := (true, "6306ea074a01f7a41a7ee448863e9463f1aa127914c49b26d41ce61a01aecc6d"), looks := true }, kinds := [], alts := [], laidByText := true, laidKinds := [.data, .data, .data, .sentinel, .sentinel], laidTests := true, laidLooks := .later }
def FnExactParsePaintingUptoCardSaid : Prop := Claim7.holds Tryd.pinned (.plain (OpenSpec.upto fnExactParsePaintingSpec)) fnExactParsePaintingUptoCard

/-- THE SECOND FORM's CARD OF 'laws.FnExactPartyText'. -/
def fnExactPartyTextUptoCard : Claim7 := { stood := { row := fnExactPartyTextUptoRow, standIns := [], harness := (true, "6306ea074a01f7a41a7ee448863e9463f1aa127914c49b26d41ce61a01aecc6d"), looks := true }, kinds := [], alts := [], laidByText := true, laidKinds := [.data, .data, .data], laidTests := true, laidLooks := .later }
def FnExactPartyTextUptoCardSaid : Prop := Claim7.holds Tryd.pinned (.plain (OpenSpec.upto fnExactPartyTextSpec)) fnExactPartyTextUptoCard
end Rows
end Go.Proofs.YthpapkfpcijpoaaDoor
