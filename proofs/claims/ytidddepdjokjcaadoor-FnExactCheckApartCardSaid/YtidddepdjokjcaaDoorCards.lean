/-
  DERIVED. GIVEN WITH THE SEED: THE CARDS: each row of YtidddepdjokjcaaDoorRows.lean that lists a variable, with what it lists TIED to the program's text (the seventh form; the later family's looks); each row that meets fmt, with fmt's text TOLD by the authors' own Lean function (tested against real Go, not proved from fmt's source: count such statements apart). THE CARD IS WHAT COUNTS. Prove the row's statement (the work); the ties are given (YtidddepdjokjcaaDoorTie.lean); close each card by the builder's one call (the guide's Derived/Test/ToyasCard.lean, 'card_holds'). Laid BY PROGRAM, IN A SANDBOX (cutbox-door.mjs). By AI agents, Wed Nov 11 2026. No macro, syntax, notation, axiom, sorry.
-/
import Derived.Test.YtidddepdjokjcaaDoorRows
import GoSem.ClaimSeven
namespace Go.Proofs.YtidddepdjokjcaaDoor
namespace Rows

/-- THE TIED CARD OF 'laws.FnExactCheckPlaces'. -/
def fnExactCheckPlacesCard : Claim7 := { stood := { row := fnExactCheckPlacesRow, standIns := [], harness := (true, "838aedac2a77173806cac9b66434b565f19b8b507333087aeaac2a25d991b319"), looks := true }, kinds := [], alts := [], laidByText := true, laidKinds := [.sentinel, .sentinel, .sentinel, .sentinel, .sentinel, .sentinel, .sentinel, .sentinel], laidTests := true, laidLooks := .later }
def FnExactCheckPlacesCardSaid : Prop := Claim7.holds Tryd.pinned (.plain (OpenSpec.ofChange fnExactCheckPlacesSpec)) fnExactCheckPlacesCard

/-- THE TIED CARD OF 'laws.FnExactApartCells'. -/
def fnExactApartCellsCard : Claim7 := { stood := { row := fnExactApartCellsRow, standIns := [], harness := (true, "838aedac2a77173806cac9b66434b565f19b8b507333087aeaac2a25d991b319"), looks := true }, kinds := [], alts := [], laidByText := true, laidKinds := [.sentinel, .sentinel, .sentinel, .sentinel, .sentinel, .sentinel, .sentinel, .sentinel], laidTests := true, laidLooks := .later }
def FnExactApartCellsCardSaid : Prop := Claim7.holds Tryd.pinned (.plain (OpenSpec.ofChange fnExactApartCellsSpec)) fnExactApartCellsCard

/-- THE TIED CARD OF 'laws.FnExactCheckApart'. -/
def fnExactCheckApartCard : Claim7 := { stood := { row := fnExactCheckApartRow, standIns := [], harness := (true, "838aedac2a77173806cac9b66434b565f19b8b507333087aeaac2a25d991b319"), looks := true }, kinds := [], alts := [], laidByText := true, laidKinds := [.sentinel, .sentinel, .sentinel, .sentinel, .sentinel, .sentinel, .sentinel, .sentinel], laidTests := true, laidLooks := .later }
def FnExactCheckApartCardSaid : Prop := Claim7.holds Tryd.pinned (.plain (OpenSpec.ofChange fnExactCheckApartSpec)) fnExactCheckApartCard

/-- THE SECOND FORM's CARD OF 'laws.FnExactCheckPlaces'. -/
def fnExactCheckPlacesUptoCard : Claim7 := { stood := { row := fnExactCheckPlacesUptoRow, standIns := [], harness := (true, "838aedac2a77173806cac9b66434b565f19b8b507333087aeaac2a25d991b319"), looks := true }, kinds := [], alts := [], laidByText := true, laidKinds := [.sentinel, .sentinel, .sentinel, .sentinel, .sentinel, .sentinel, .sentinel, .sentinel], laidTests := true, laidLooks := .later }
def FnExactCheckPlacesUptoCardSaid : Prop := Claim7.holds Tryd.pinned (.plain (OpenSpec.upto fnExactCheckPlacesSpec)) fnExactCheckPlacesUptoCard

/-- THE SECOND FORM's CARD OF 'laws.FnExactApartCells'. -/
def fnExactApartCellsUptoCard : Claim7 := { stood := { row := fnExactApartCellsUptoRow, standIns := [], harness := (true, "838aedac2a77173806cac9b66434b565f19b8b507333087aeaac2a25d991b319"), looks := true }, kinds := [], alts := [], laidByText := true, laidKinds := [.sentinel, .sentinel, .sentinel, .sentinel, .sentinel, .sentinel, .sentinel, .sentinel], laidTests := true, laidLooks := .later }
def FnExactApartCellsUptoCardSaid : Prop := Claim7.holds Tryd.pinned (.plain (OpenSpec.upto fnExactApartCellsSpec)) fnExactApartCellsUptoCard

/-- THE SECOND FORM's CARD OF 'laws.FnExactCheckApart'. -/
def fnExactCheckApartUptoCard : Claim7 := { stood := { row := fnExactCheckApartUptoRow, standIns := [], harness := (true, "838aedac2a77173806cac9b66434b565f19b8b507333087aeaac2a25d991b319"), looks := true }, kinds := [], alts := [], laidByText := true, laidKinds := [.sentinel, .sentinel, .sentinel, .sentinel, .sentinel, .sentinel, .sentinel, .sentinel], laidTests := true, laidLooks := .later }
def FnExactCheckApartUptoCardSaid : Prop := Claim7.holds Tryd.pinned (.plain (OpenSpec.upto fnExactCheckApartSpec)) fnExactCheckApartUptoCard
end Rows
end Go.Proofs.YtidddepdjokjcaaDoor
