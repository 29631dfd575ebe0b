/-
  DERIVED. GIVEN WITH THE SEED: THE CARDS: each row of YtljlbdnlcibhfaaDoorRows.lean that lists a variable, with what it lists TIED to the program's text (the seventh form; the later family's looks); each row that meets fmt, with fmt's text TOLD by the authors' own Lean function (tested against real Go, not proved from fmt's source: count such statements apart). THE CARD IS WHAT COUNTS. Prove the row's statement (the work); the ties are given (YtljlbdnlcibhfaaDoorTie.lean); close each card by the builder's one call (the guide's Derived/Test/ToyasCard.lean, 'card_holds'). Laid BY PROGRAM, IN A SANDBOX (cutbox-door.mjs). By AI agents, Wed Nov 11 2026. No macro, syntax, notation, axiom, sorry.
-/
import Derived.Test.YtljlbdnlcibhfaaDoorRows
import GoSem.ClaimSeven
namespace Go.Proofs.YtljlbdnlcibhfaaDoor
namespace Rows

/-- THE TIED CARD OF 'laws.FnExactPlainField'. -/
def fnExactPlainFieldCard : Claim7 := { stood := { row := fnExactPlainFieldRow, standIns := [], harness := (true, "5ead317afa45037fd697cd9b67bbec9d1c161bfd3d9128a77f0a7b620744945f"), looks := true }, kinds := [], alts := [], laidByText := true, laidKinds := [.sentinel, .sentinel, .sentinel, .sentinel, .sentinel, .sentinel, .sentinel, .sentinel], laidTests := true, laidLooks := .later }
def FnExactPlainFieldCardSaid : Prop := Claim7.holds Tryd.pinned (.plain (OpenSpec.ofChange fnExactPlainFieldSpec)) fnExactPlainFieldCard

/-- THE TIED CARD OF 'laws.FnExactCellsOfKind'. -/
def fnExactCellsOfKindCard : Claim7 := { stood := { row := fnExactCellsOfKindRow, standIns := [], harness := (true, "5ead317afa45037fd697cd9b67bbec9d1c161bfd3d9128a77f0a7b620744945f"), looks := true }, kinds := [], alts := [], laidByText := true, laidKinds := [.sentinel, .sentinel, .sentinel, .sentinel, .sentinel, .sentinel, .sentinel, .sentinel], laidTests := true, laidLooks := .later }
def FnExactCellsOfKindCardSaid : Prop := Claim7.holds Tryd.pinned (.plain (OpenSpec.ofChange fnExactCellsOfKindSpec)) fnExactCellsOfKindCard

/-- THE TIED CARD OF 'laws.FnExactCellsOf'. -/
def fnExactCellsOfCard : Claim7 := { stood := { row := fnExactCellsOfRow, standIns := [], harness := (true, "5ead317afa45037fd697cd9b67bbec9d1c161bfd3d9128a77f0a7b620744945f"), looks := true }, kinds := [], alts := [], laidByText := true, laidKinds := [.sentinel, .sentinel, .sentinel, .sentinel, .sentinel, .sentinel, .sentinel, .sentinel], laidTests := true, laidLooks := .later }
def FnExactCellsOfCardSaid : Prop := Claim7.holds Tryd.pinned (.plain (OpenSpec.ofChange fnExactCellsOfSpec)) fnExactCellsOfCard

/-- THE TIED CARD OF 'laws.FnExactSquareOf'. -/
def fnExactSquareOfCard : Claim7 := { stood := { row := fnExactSquareOfRow, standIns := [], harness := (true, "5ead317afa45037fd697cd9b67bbec9d1c161bfd3d9128a77f0a7b620744945f"), looks := true }, kinds := [], alts := [], laidByText := true, laidKinds := [.sentinel, .sentinel, .sentinel, .sentinel, .sentinel, .sentinel, .sentinel, .sentinel], laidTests := true, laidLooks := .later }
def FnExactSquareOfCardSaid : Prop := Claim7.holds Tryd.pinned (.plain (OpenSpec.ofChange fnExactSquareOfSpec)) fnExactSquareOfCard

/-- THE TIED CARD OF 'laws.FnExactMirrorField'. -/
def fnExactMirrorFieldCard : Claim7 := { stood := { row := fnExactMirrorFieldRow, standIns := [], harness := (true, "5ead317afa45037fd697cd9b67bbec9d1c161bfd3d9128a77f0a7b620744945f"), looks := true }, kinds := [], alts := [], laidByText := true, laidKinds := [.sentinel, .sentinel, .sentinel, .sentinel, .sentinel, .sentinel, .sentinel, .sentinel], laidTests := true, laidLooks := .later }
def FnExactMirrorFieldCardSaid : Prop := Claim7.holds Tryd.pinned (.plain (OpenSpec.ofChange fnExactMirrorFieldSpec)) fnExactMirrorFieldCard

/-- THE TIED CARD OF 'laws.FnExactTurnField'. -/
def fnExactTurnFieldCard : Claim7 := { stood := { row := fnExactTurnFieldRow, standIns := [], harness := (true, "5ead317afa45037fd697cd9b67bbec9d1c161bfd3d9128a77f0a7b620744945f"), looks := true }, kinds := [], alts := [], laidByText := true, laidKinds := [.sentinel, .sentinel, .sentinel, .sentinel, .sentinel, .sentinel, .sentinel, .sentinel], laidTests := true, laidLooks := .later }
def FnExactTurnFieldCardSaid : Prop := Claim7.holds Tryd.pinned (.plain (OpenSpec.ofChange fnExactTurnFieldSpec)) fnExactTurnFieldCard

/-- THE SECOND FORM's CARD OF 'laws.FnExactPlainField'. -/
def fnExactPlainFieldUptoCard : Claim7 := { stood := { row := fnExactPlainFieldUptoRow, standIns := [], harness := (true, "5ead317afa45037fd697cd9b67bbec9d1c161bfd3d9128a77f0a7b620744945f"), looks := true }, kinds := [], alts := [], laidByText := true, laidKinds := [.sentinel, .sentinel, .sentinel, .sentinel, .sentinel, .sentinel, .sentinel, .sentinel], laidTests := true, laidLooks := .later }
def FnExactPlainFieldUptoCardSaid : Prop := Claim7.holds Tryd.pinned (.plain (OpenSpec.upto fnExactPlainFieldSpec)) fnExactPlainFieldUptoCard

/-- THE SECOND FORM's CARD OF 'laws.FnExactCellsOfKind'. -/
def fnExactCellsOfKindUptoCard : Claim7 := { stood := { row := fnExactCellsOfKindUptoRow, standIns := [], harness := (true, "5ead317afa45037fd697cd9b67bbec9d1c161bfd3d9128a77f0a7b620744945f"), looks := true }, kinds := [], alts := [], laidByText := true, laidKinds := [.sentinel, .sentinel, .sentinel, .sentinel, .sentinel, .sentinel, .sentinel, .sentinel], laidTests := true, laidLooks := .later }
def FnExactCellsOfKindUptoCardSaid : Prop := Claim7.holds Tryd.pinned (.plain (OpenSpec.upto fnExactCellsOfKindSpec)) fnExactCellsOfKindUptoCard

/-- THE SECOND FORM's CARD OF 'laws.FnExactCellsOf'. -/
def fnExactCellsOfUptoCard : Claim7 := { stood := { row := fnExactCellsOfUptoRow, standIns := [], harness := (true, "5ead317afa45037fd697cd9b67bbec9d1c161bfd3d9128a77f0a7b620744945f"), looks := true }, kinds := [], alts := [], laidByText := true, laidKinds := [.sentinel, .sentinel, .sentinel, .sentinel, .sentinel, .sentinel, .sentinel, .sentinel], laidTests := true, laidLooks := .later }
def FnExactCellsOfUptoCardSaid : Prop := Claim7.holds Tryd.pinned (.plain (OpenSpec.upto fnExactCellsOfSpec)) fnExactCellsOfUptoCard

/-- THE SECOND FORM's CARD OF 'laws.FnExactSquareOf'. -/
def fnExactSquareOfUptoCard : Claim7 := { stood := { row := fnExactSquareOfUptoRow, standIns := [], harness := (true, "5ead317afa45037fd697cd9b67bbec9d1c161bfd3d9128a77f0a7b620744945f"), looks := true }, kinds := [], alts := [], laidByText := true, laidKinds := [.sentinel, .sentinel, .sentinel, .sentinel, .sentinel, .sentinel, .sentinel, .sentinel], laidTests := true, laidLooks := .later }
def FnExactSquareOfUptoCardSaid : Prop := Claim7.holds Tryd.pinned (.plain (OpenSpec.upto fnExactSquareOfSpec)) fnExactSquareOfUptoCard

/-- THE SECOND FORM's CARD OF 'laws.FnExactMirrorField'. -/
def fnExactMirrorFieldUptoCard : Claim7 := { stood := { row := fnExactMirrorFieldUptoRow, standIns := [], harness := (true, "5ead317afa45037fd697cd9b67bbec9d1c161bfd3d9128a77f0a7b620744945f"), looks := true }, kinds := [], alts := [], laidByText := true, laidKinds := [.sentinel, .sentinel, .sentinel, .sentinel, .sentinel, .sentinel, .sentinel, .sentinel], laidTests := true, laidLooks := .later }
def FnExactMirrorFieldUptoCardSaid : Prop := Claim7.holds Tryd.pinned (.plain (OpenSpec.upto fnExactMirrorFieldSpec)) fnExactMirrorFieldUptoCard

/-- THE SECOND FORM's CARD OF 'laws.FnExactTurnField'. -/
def fnExactTurnFieldUptoCard : Claim7 := { stood := { row := fnExactTurnFieldUptoRow, standIns := [], harness := (true, "5ead317afa45037fd697cd9b67bbec9d1c161bfd3d9128a77f0a7b620744945f"), looks := true }, kinds := [], alts := [], laidByText := true, laidKinds := [.sentinel, .sentinel, .sentinel, .sentinel, .sentinel, .sentinel, .sentinel, .sentinel], laidTests := true, laidLooks := .later }
def FnExactTurnFieldUptoCardSaid : Prop := Claim7.holds Tryd.pinned (.plain (OpenSpec.upto fnExactTurnFieldSpec)) fnExactTurnFieldUptoCard
end Rows
end Go.Proofs.YtljlbdnlcibhfaaDoor
