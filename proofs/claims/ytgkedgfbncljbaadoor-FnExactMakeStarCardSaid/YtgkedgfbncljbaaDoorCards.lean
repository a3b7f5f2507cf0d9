/-
  DERIVED. GIVEN WITH THE SEED: THE CARDS: each row of YtgkedgfbncljbaaDoorRows.lean that lists a variable, with what it lists TIED to the program's text (the seventh form; the later family's looks); each row that meets fmt, with fmt's text TOLD by the authors' own Lean function (tested against real Go, not proved from fmt's source: count such statements apart). THE CARD IS WHAT COUNTS. Prove the row's statement (the work); the ties are given (YtgkedgfbncljbaaDoorTie.lean); close each card by the builder's one call (the guide's Derived/Test/ToyasCard.lean, 'card_holds'). Laid BY PROGRAM, IN A SANDBOX (cutbox-door.mjs). By AI agents, Wed Nov 11 2026. No macro, syntax, notation, axiom, sorry.
-/
import Derived.Test.YtgkedgfbncljbaaDoorRows
import GoSem.ClaimSeven
namespace Go.Proofs.YtgkedgfbncljbaaDoor
namespace Rows

/-- THE TIED CARD OF 'laws.FnExactMakeStar'. -/
def fnExactMakeStarCard : Claim7 := { stood := { row := fnExactMakeStarRow, standIns := [], harness := (true, "ed8d056a5399d97c7d0d89c07637e7dae5843f8be4e9cfe1cc4e40cc63ac3821"), looks := false }, kinds := [], alts := [], laidByText := true, laidKinds := [.data], laidTests := true, laidLooks := .later }
def FnExactMakeStarCardSaid : Prop := Claim7.holds Tryd.pinned (.plain (OpenSpec.ofChange fnExactMakeStarSpec)) fnExactMakeStarCard

/-- THE TIED CARD OF 'laws.FnExactNewsAfter'. -/
def fnExactNewsAfterCard : Claim7 := { stood := { row := fnExactNewsAfterRow, standIns := [], harness := (true, "ed8d056a5399d97c7d0d89c07637e7dae5843f8be4e9cfe1cc4e40cc63ac3821"), looks := false }, kinds := [], alts := [], goes := true, laidByText := true, laidKinds := [.data], laidTests := true, laidLooks := .later }
def FnExactNewsAfterCardSaid : Prop := Claim7.holds Tryd.pinned (.plain (OpenSpec.ofChange fnExactNewsAfterSpec)) fnExactNewsAfterCard

/-- THE SECOND FORM's CARD OF 'laws.FnExactMakeStar'. -/
def fnExactMakeStarUptoCard : Claim7 := { stood := { row := fnExactMakeStarUptoRow, standIns := [], harness := (true, "ed8d056a5399d97c7d0d89c07637e7dae5843f8be4e9cfe1cc4e40cc63ac3821"), looks := false }, kinds := [], alts := [], laidByText := true, laidKinds := [.data], laidTests := true, laidLooks := .later }
def FnExactMakeStarUptoCardSaid : Prop := Claim7.holds Tryd.pinned (.plain (OpenSpec.upto fnExactMakeStarSpec)) fnExactMakeStarUptoCard

/-- THE SECOND FORM's CARD OF 'laws.FnExactNewsAfter'. -/
def fnExactNewsAfterUptoCard : Claim7 := { stood := { row := fnExactNewsAfterUptoRow, standIns := [], harness := (true, "ed8d056a5399d97c7d0d89c07637e7dae5843f8be4e9cfe1cc4e40cc63ac3821"), looks := false }, kinds := [], alts := [], goes := true, laidByText := true, laidKinds := [.data], laidTests := true, laidLooks := .later }
def FnExactNewsAfterUptoCardSaid : Prop := Claim7.holds Tryd.pinned (.plain (OpenSpec.upto fnExactNewsAfterSpec)) fnExactNewsAfterUptoCard
end Rows
end Go.Proofs.YtgkedgfbncljbaaDoor
