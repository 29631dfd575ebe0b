/-
  DERIVED. GIVEN WITH THE SEED: THE CARDS: each row of YtpiejcibjphffaaDoorRows.lean that lists a variable, with what it lists TIED to the program's text (the seventh form; the later family's looks); each row that meets fmt, with fmt's text TOLD by the authors' own Lean function (tested against real Go, not proved from fmt's source: count such statements apart). THE CARD IS WHAT COUNTS. Prove the row's statement (the work); the ties are given (YtpiejcibjphffaaDoorTie.lean); close each card by the builder's one call (the guide's Derived/Test/ToyasCard.lean, 'card_holds'). Laid BY PROGRAM, IN A SANDBOX (cutbox-door.mjs). By AI agents, Wed Nov 11 2026. No macro, syntax, notation, axiom, sorry.
-/
import Derived.Test.YtpiejcibjphffaaDoorRows
import GoSem.ClaimSeven
namespace Go.Proofs.YtpiejcibjphffaaDoor
namespace Rows

/-- THE TIED CARD OF 'laws.FnExactLossOf'. -/
def fnExactLossOfCard : Claim7 := { stood := { row := fnExactLossOfRow, standIns := [], harness := (true, "e00a161e66ec49c3653b036870a5a933ce35c8a2ac96371247ec0970fcef43b8"), looks := true }, kinds := [], alts := [], laidByText := true, laidKinds := [.sentinel, .sentinel, .sentinel, .sentinel, .sentinel, .sentinel, .sentinel, .sentinel], laidTests := true, laidLooks := .later }
def FnExactLossOfCardSaid : Prop := Claim7.holds Tryd.pinned (.plain (OpenSpec.ofChange fnExactLossOfSpec)) fnExactLossOfCard

/-- THE TIED CARD OF 'laws.FnExactAllLoss'. -/
def fnExactAllLossCard : Claim7 := { stood := { row := fnExactAllLossRow, standIns := [], harness := (true, "e00a161e66ec49c3653b036870a5a933ce35c8a2ac96371247ec0970fcef43b8"), looks := true }, kinds := [], alts := [], laidByText := true, laidKinds := [.sentinel, .sentinel, .sentinel, .sentinel, .sentinel, .sentinel, .sentinel, .sentinel], laidTests := true, laidLooks := .later }
def FnExactAllLossCardSaid : Prop := Claim7.holds Tryd.pinned (.plain (OpenSpec.ofChange fnExactAllLossSpec)) fnExactAllLossCard

/-- THE TIED CARD OF 'laws.FnExactBareCells'. -/
def fnExactBareCellsCard : Claim7 := { stood := { row := fnExactBareCellsRow, standIns := [], harness := (true, "e00a161e66ec49c3653b036870a5a933ce35c8a2ac96371247ec0970fcef43b8"), looks := true }, kinds := [], alts := [], laidByText := true, laidKinds := [.sentinel, .sentinel, .sentinel, .sentinel, .sentinel, .sentinel, .sentinel, .sentinel], laidTests := true, laidLooks := .later }
def FnExactBareCellsCardSaid : Prop := Claim7.holds Tryd.pinned (.plain (OpenSpec.ofChange fnExactBareCellsSpec)) fnExactBareCellsCard

/-- THE TIED CARD OF 'laws.FnExactPatchesOf'. -/
def fnExactPatchesOfCard : Claim7 := { stood := { row := fnExactPatchesOfRow, standIns := [], harness := (true, "e00a161e66ec49c3653b036870a5a933ce35c8a2ac96371247ec0970fcef43b8"), looks := true }, kinds := [], alts := [], laidByText := true, laidKinds := [.sentinel, .sentinel, .sentinel, .sentinel, .sentinel, .sentinel, .sentinel, .sentinel], laidTests := true, laidLooks := .later }
def FnExactPatchesOfCardSaid : Prop := Claim7.holds Tryd.pinned (.plain (OpenSpec.ofChange fnExactPatchesOfSpec)) fnExactPatchesOfCard

/-- THE TIED CARD OF 'laws.FnExactLossByOwner'. -/
def fnExactLossByOwnerCard : Claim7 := { stood := { row := fnExactLossByOwnerRow, standIns := [], harness := (true, "e00a161e66ec49c3653b036870a5a933ce35c8a2ac96371247ec0970fcef43b8"), looks := true }, kinds := [], alts := [], laidByText := true, laidKinds := [.sentinel, .sentinel, .sentinel, .sentinel, .sentinel, .sentinel, .sentinel, .sentinel], laidTests := true, laidLooks := .later }
def FnExactLossByOwnerCardSaid : Prop := Claim7.holds Tryd.pinned (.plain (OpenSpec.ofChange fnExactLossByOwnerSpec)) fnExactLossByOwnerCard

/-- THE TIED CARD OF 'laws.FnExactGuessLoss'. -/
def fnExactGuessLossCard : Claim7 := { stood := { row := fnExactGuessLossRow, standIns := [], harness := (true, "e00a161e66ec49c3653b036870a5a933ce35c8a2ac96371247ec0970fcef43b8"), looks := true }, kinds := [], alts := [], laidByText := true, laidKinds := [.sentinel, .sentinel, .sentinel, .sentinel, .sentinel, .sentinel, .sentinel, .sentinel], laidTests := true, laidLooks := .later }
def FnExactGuessLossCardSaid : Prop := Claim7.holds Tryd.pinned (.plain (OpenSpec.ofChange fnExactGuessLossSpec)) fnExactGuessLossCard

/-- THE TIED CARD OF 'laws.FnExactBoundsOfLoss'. -/
def fnExactBoundsOfLossCard : Claim7 := { stood := { row := fnExactBoundsOfLossRow, standIns := [], harness := (true, "e00a161e66ec49c3653b036870a5a933ce35c8a2ac96371247ec0970fcef43b8"), looks := true }, kinds := [], alts := [], laidByText := true, laidKinds := [.sentinel, .sentinel, .sentinel, .sentinel, .sentinel, .sentinel, .sentinel, .sentinel], laidTests := true, laidLooks := .later }
def FnExactBoundsOfLossCardSaid : Prop := Claim7.holds Tryd.pinned (.plain (OpenSpec.ofChange fnExactBoundsOfLossSpec)) fnExactBoundsOfLossCard

/-- THE SECOND FORM's CARD OF 'laws.FnExactLossOf'. -/
def fnExactLossOfUptoCard : Claim7 := { stood := { row := fnExactLossOfUptoRow, standIns := [], harness := (true, "e00a161e66ec49c3653b036870a5a933ce35c8a2ac96371247ec0970fcef43b8"), looks := true }, kinds := [], alts := [], laidByText := true, laidKinds := [.sentinel, .sentinel, .sentinel, .sentinel, .sentinel, .sentinel, .sentinel, .sentinel], laidTests := true, laidLooks := .later }
def FnExactLossOfUptoCardSaid : Prop := Claim7.holds Tryd.pinned (.plain (OpenSpec.upto fnExactLossOfSpec)) fnExactLossOfUptoCard

/-- THE SECOND FORM's CARD OF 'laws.FnExactAllLoss'. -/
def fnExactAllLossUptoCard : Claim7 := { stood := { row := fnExactAllLossUptoRow, standIns := [], harness := (true, "e00a161e66ec49c3653b036870a5a933ce35c8a2ac96371247ec0970fcef43b8"), looks := true }, kinds := [], alts := [], laidByText := true, laidKinds := [.sentinel, .sentinel, .sentinel, .sentinel, .sentinel, .sentinel, .sentinel, .sentinel], laidTests := true, laidLooks := .later }
def FnExactAllLossUptoCardSaid : Prop := Claim7.holds Tryd.pinned (.plain (OpenSpec.upto fnExactAllLossSpec)) fnExactAllLossUptoCard

/-- THE SECOND FORM's CARD OF 'laws.FnExactBareCells'. -/
def fnExactBareCellsUptoCard : Claim7 := { stood := { row := fnExactBareCellsUptoRow, standIns := [], harness := (true, "e00a161e66ec49c3653b036870a5a933ce35c8a2ac96371247ec0970fcef43b8"), looks := true }, kinds := [], alts := [], laidByText := true, laidKinds := [.sentinel, .sentinel, .sentinel, .sentinel, .sentinel, .sentinel, .sentinel, .sentinel], laidTests := true, laidLooks := .later }
def FnExactBareCellsUptoCardSaid : Prop := Claim7.holds Tryd.pinned (.plain (OpenSpec.upto fnExactBareCellsSpec)) fnExactBareCellsUptoCard

/-- THE SECOND FORM's CARD OF 'laws.FnExactPatchesOf'. -/
def fnExactPatchesOfUptoCard : Claim7 := { stood := { row := fnExactPatchesOfUptoRow, standIns := [], harness := (true, "e00a161e66ec49c3653b036870a5a933ce35c8a2ac96371247ec0970fcef43b8"), looks := true }, kinds := [], alts := [], laidByText := true, laidKinds := [.sentinel, .sentinel, .sentinel, .sentinel, .sentinel, .sentinel, .sentinel, .sentinel], laidTests := true, laidLooks := .later }
def FnExactPatchesOfUptoCardSaid : Prop := Claim7.holds Tryd.pinned (.plain (OpenSpec.upto fnExactPatchesOfSpec)) fnExactPatchesOfUptoCard

/-- THE SECOND FORM's CARD OF 'laws.FnExactLossByOwner'. -/
def fnExactLossByOwnerUptoCard : Claim7 := { stood := { row := fnExactLossByOwnerUptoRow, standIns := [], harness := (true, "e00a161e66ec49c3653b036870a5a933ce35c8a2ac96371247ec0970fcef43b8"), looks := true }, kinds := [], alts := [], laidByText := true, laidKinds := [.sentinel, .sentinel, .sentinel, .sentinel, .sentinel, .sentinel, .sentinel, .sentinel], laidTests := true, laidLooks := .later }
def FnExactLossByOwnerUptoCardSaid : Prop := Claim7.holds Tryd.pinned (.plain (OpenSpec.upto fnExactLossByOwnerSpec)) fnExactLossByOwnerUptoCard

/-- THE SECOND FORM's CARD OF 'laws.FnExactGuessLoss'. -/
def fnExactGuessLossUptoCard : Claim7 := { stood := { row := fnExactGuessLossUptoRow, standIns := [], harness := (true, "e00a161e66ec49c3653b036870a5a933ce35c8a2ac96371247ec0970fcef43b8"), looks := true }, kinds := [], alts := [], laidByText := true, laidKinds := [.sentinel, .sentinel, .sentinel, .sentinel, .sentinel, .sentinel, .sentinel, .sentinel], laidTests := true, laidLooks := .later }
def FnExactGuessLossUptoCardSaid : Prop := Claim7.holds Tryd.pinned (.plain (OpenSpec.upto fnExactGuessLossSpec)) fnExactGuessLossUptoCard

/-- THE SECOND FORM's CARD OF 'laws.FnExactBoundsOfLoss'. -/
def fnExactBoundsOfLossUptoCard : Claim7 := { stood := { row := fnExactBoundsOfLossUptoRow, standIns := [], harness := (true, "e00a161e66ec49c3653b036870a5a933ce35c8a2ac96371247ec0970fcef43b8"), looks := true }, kinds := [], alts := [], laidByText := true, laidKinds := [.sentinel, .sentinel, .sentinel, .sentinel, .sentinel, .sentinel, .sentinel, .sentinel], laidTests := true, laidLooks := .later }
def FnExactBoundsOfLossUptoCardSaid : Prop := Claim7.holds Tryd.pinned (.plain (OpenSpec.upto fnExactBoundsOfLossSpec)) fnExactBoundsOfLossUptoCard
end Rows
end Go.Proofs.YtpiejcibjphffaaDoor
