/-
  DERIVED. GIVEN WITH THE SEED: THE CARDS: each row of YtoefadigendkaaaDoorRows.lean that lists a variable, with what it lists TIED to the program's text (the seventh form; the later family's looks); each row that meets fmt, with fmt's text TOLD by the authors' own Lean function (tested against real Go, not proved from fmt's source: count such statements apart). THE CARD IS WHAT COUNTS. Prove the row's statement (the work); the ties are given (YtoefadigendkaaaDoorTie.lean); close each card by the builder's one call (the guide's Derived/Test/ToyasCard.lean, 'card_holds'). Laid BY PROGRAM, IN A SANDBOX (cutbox-door.mjs). By AI agents, Wed Nov 11 2026. No macro, syntax, notation, axiom, sorry.
-/
import Derived.Test.YtoefadigendkaaaDoorRows
import GoSem.ClaimSeven
namespace Go.Proofs.YtoefadigendkaaaDoor
namespace Rows

/-- THE TIED CARD OF 'laws.FnExactCodeName'. -/
def fnExactCodeNameCard : Claim7 := { stood := { row := fnExactCodeNameRow, standIns := [], harness := (true, "42357eaf455ba3226265fedfe7d8b42567319aee955b0e492a9734ace41ad060"), looks := true }, kinds := [], alts := [], laidByText := true, laidKinds := [.sentinel, .sentinel, .sentinel, .sentinel, .sentinel, .sentinel, .sentinel, .sentinel], laidTests := true, laidLooks := .later }
def FnExactCodeNameCardSaid : Prop := Claim7.holds Tryd.pinned (.plain (OpenSpec.ofChange fnExactCodeNameSpec)) fnExactCodeNameCard

/-- THE TIED CARD OF 'laws.FnExactKindAt'. -/
def fnExactKindAtCard : Claim7 := { stood := { row := fnExactKindAtRow, standIns := [], harness := (true, "42357eaf455ba3226265fedfe7d8b42567319aee955b0e492a9734ace41ad060"), looks := true }, kinds := [], alts := [], laidByText := true, laidKinds := [.sentinel, .sentinel, .sentinel, .sentinel, .sentinel, .sentinel, .sentinel, .sentinel], laidTests := true, laidLooks := .later }
def FnExactKindAtCardSaid : Prop := Claim7.holds Tryd.pinned (.plain (OpenSpec.ofChange fnExactKindAtSpec)) fnExactKindAtCard

/-- THE TIED CARD OF 'laws.FnExactSeedsAt'. -/
def fnExactSeedsAtCard : Claim7 := { stood := { row := fnExactSeedsAtRow, standIns := [], harness := (true, "42357eaf455ba3226265fedfe7d8b42567319aee955b0e492a9734ace41ad060"), looks := true }, kinds := [], alts := [], laidByText := true, laidKinds := [.sentinel, .sentinel, .sentinel, .sentinel, .sentinel, .sentinel, .sentinel, .sentinel], laidTests := true, laidLooks := .later }
def FnExactSeedsAtCardSaid : Prop := Claim7.holds Tryd.pinned (.plain (OpenSpec.ofChange fnExactSeedsAtSpec)) fnExactSeedsAtCard

/-- THE TIED CARD OF 'laws.FnExactValidFlocks'. -/
def fnExactValidFlocksCard : Claim7 := { stood := { row := fnExactValidFlocksRow, standIns := [], harness := (true, "42357eaf455ba3226265fedfe7d8b42567319aee955b0e492a9734ace41ad060"), looks := true }, kinds := [], alts := [], laidByText := true, laidKinds := [.data], laidTests := true, laidLooks := .later }
def FnExactValidFlocksCardSaid : Prop := Claim7.holds Tryd.pinned (.plain (OpenSpec.ofChange fnExactValidFlocksSpec)) fnExactValidFlocksCard

/-- THE TIED CARD OF 'laws.FnExactTreeFor'. -/
def fnExactTreeForCard : Claim7 := { stood := { row := fnExactTreeForRow, standIns := [], harness := (true, "42357eaf455ba3226265fedfe7d8b42567319aee955b0e492a9734ace41ad060"), looks := true }, kinds := [], alts := [], laidByText := true, laidKinds := [.sentinel, .sentinel, .sentinel, .sentinel, .sentinel, .sentinel, .sentinel, .sentinel], laidTests := true, laidLooks := .later }
def FnExactTreeForCardSaid : Prop := Claim7.holds Tryd.pinned (.plain (OpenSpec.ofChange fnExactTreeForSpec)) fnExactTreeForCard

/-- THE TIED CARD OF 'laws.FnExactCellsFor'. -/
def fnExactCellsForCard : Claim7 := { stood := { row := fnExactCellsForRow, standIns := [], harness := (true, "42357eaf455ba3226265fedfe7d8b42567319aee955b0e492a9734ace41ad060"), looks := true }, kinds := [], alts := [], laidByText := true, laidKinds := [.sentinel, .sentinel, .sentinel, .sentinel, .sentinel, .sentinel, .sentinel, .sentinel, .data], laidTests := true, laidLooks := .later }
def FnExactCellsForCardSaid : Prop := Claim7.holds Tryd.pinned (.plain (OpenSpec.ofChange fnExactCellsForSpec)) fnExactCellsForCard

/-- THE TIED CARD OF 'laws.FnExactChoiceOf'. -/
def fnExactChoiceOfCard : Claim7 := { stood := { row := fnExactChoiceOfRow, standIns := [], harness := (true, "42357eaf455ba3226265fedfe7d8b42567319aee955b0e492a9734ace41ad060"), looks := true }, kinds := [], alts := [], laidByText := true, laidKinds := [.sentinel, .sentinel, .sentinel, .sentinel, .sentinel, .sentinel, .sentinel, .sentinel, .data], laidTests := true, laidLooks := .later }
def FnExactChoiceOfCardSaid : Prop := Claim7.holds Tryd.pinned (.plain (OpenSpec.ofChange fnExactChoiceOfSpec)) fnExactChoiceOfCard

/-- THE SECOND FORM's CARD OF 'laws.FnExactCodeName'. -/
def fnExactCodeNameUptoCard : Claim7 := { stood := { row := fnExactCodeNameUptoRow, standIns := [], harness := (true, "42357eaf455ba3226265fedfe7d8b42567319aee955b0e492a9734ace41ad060"), looks := true }, kinds := [], alts := [], laidByText := true, laidKinds := [.sentinel, .sentinel, .sentinel, .sentinel, .sentinel, .sentinel, .sentinel, .sentinel], laidTests := true, laidLooks := .later }
def FnExactCodeNameUptoCardSaid : Prop := Claim7.holds Tryd.pinned (.plain (OpenSpec.upto fnExactCodeNameSpec)) fnExactCodeNameUptoCard

/-- THE SECOND FORM's CARD OF 'laws.FnExactKindAt'. -/
def fnExactKindAtUptoCard : Claim7 := { stood := { row := fnExactKindAtUptoRow, standIns := [], harness := (true, "42357eaf455ba3226265fedfe7d8b42567319aee955b0e492a9734ace41ad060"), looks := true }, kinds := [], alts := [], laidByText := true, laidKinds := [.sentinel, .sentinel, .sentinel, .sentinel, .sentinel, .sentinel, .sentinel, .sentinel], laidTests := true, laidLooks := .later }
def FnExactKindAtUptoCardSaid : Prop := Claim7.holds Tryd.pinned (.plain (OpenSpec.upto fnExactKindAtSpec)) fnExactKindAtUptoCard

/-- THE SECOND FORM's CARD OF 'laws.FnExactSeedsAt'. -/
def fnExactSeedsAtUptoCard : Claim7 := { stood := { row := fnExactSeedsAtUptoRow, standIns := [], harness := (true, "42357eaf455ba3226265fedfe7d8b42567319aee955b0e492a9734ace41ad060"), looks := true }, kinds := [], alts := [], laidByText := true, laidKinds := [.sentinel, .sentinel, .sentinel, .sentinel, .sentinel, .sentinel, .sentinel, .sentinel], laidTests := true, laidLooks := .later }
def FnExactSeedsAtUptoCardSaid : Prop := Claim7.holds Tryd.pinned (.plain (OpenSpec.upto fnExactSeedsAtSpec)) fnExactSeedsAtUptoCard

/-- THE SECOND FORM's CARD OF 'laws.FnExactValidFlocks'. -/
def fnExactValidFlocksUptoCard : Claim7 := { stood := { row := fnExactValidFlocksUptoRow, standIns := [], harness := (true, "42357eaf455ba3226265fedfe7d8b42567319aee955b0e492a9734ace41ad060"), looks := true }, kinds := [], alts := [], laidByText := true, laidKinds := [.data], laidTests := true, laidLooks := .later }
def FnExactValidFlocksUptoCardSaid : Prop := Claim7.holds Tryd.pinned (.plain (OpenSpec.upto fnExactValidFlocksSpec)) fnExactValidFlocksUptoCard

/-- THE SECOND FORM's CARD OF 'laws.FnExactTreeFor'. -/
def fnExactTreeForUptoCard : Claim7 := { stood := { row := fnExactTreeForUptoRow, standIns := [], harness := (true, "42357eaf455ba3226265fedfe7d8b42567319aee955b0e492a9734ace41ad060"), looks := true }, kinds := [], alts := [], laidByText := true, laidKinds := [.sentinel, .sentinel, .sentinel, .sentinel, .sentinel, .sentinel, .sentinel, .sentinel], laidTests := true, laidLooks := .later }
def FnExactTreeForUptoCardSaid : Prop := Claim7.holds Tryd.pinned (.plain (OpenSpec.upto fnExactTreeForSpec)) fnExactTreeForUptoCard

/-- THE SECOND FORM's CARD OF 'laws.FnExactCellsFor'. -/
def fnExactCellsForUptoCard : Claim7 := { stood := { row := fnExactCellsForUptoRow, standIns := [], harness := (true, "42357eaf455ba3226265fedfe7d8b42567319aee955b0e492a9734ace41ad060"), looks := true }, kinds := [], alts := [], laidByText := true, laidKinds := [.sentinel, .sentinel, .sentinel, .sentinel, .sentinel, .sentinel, .sentinel, .sentinel, .data], laidTests := true, laidLooks := .later }
def FnExactCellsForUptoCardSaid : Prop := Claim7.holds Tryd.pinned (.plain (OpenSpec.upto fnExactCellsForSpec)) fnExactCellsForUptoCard

/-- THE SECOND FORM's CARD OF 'laws.FnExactChoiceOf'. -/
def fnExactChoiceOfUptoCard : Claim7 := { stood := { row := fnExactChoiceOfUptoRow, standIns := [], harness := (true, "42357eaf455ba3226265fedfe7d8b42567319aee955b0e492a9734ace41ad060"), looks := true }, kinds := [], alts := [], laidByText := true, laidKinds := [.sentinel, .sentinel, .sentinel, .sentinel, .sentinel, .sentinel, .sentinel, .sentinel, .data], laidTests := true, laidLooks := .later }
def FnExactChoiceOfUptoCardSaid : Prop := Claim7.holds Tryd.pinned (.plain (OpenSpec.upto fnExactChoiceOfSpec)) fnExactChoiceOfUptoCard
end Rows
end Go.Proofs.YtoefadigendkaaaDoor
