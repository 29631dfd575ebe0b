/-
  DERIVED. GIVEN WITH THE SEED: THE CARDS: each row of YtkhhkacmfkipgaaDoorRows.lean that lists a variable, with what it lists TIED to the program's text (the seventh form; the later family's looks); each row that meets fmt, with fmt's text TOLD by the authors' own Lean function (tested against real Go, not proved from fmt's source: count such statements apart). THE CARD IS WHAT COUNTS. Prove the row's statement (the work); the ties are given (YtkhhkacmfkipgaaDoorTie.lean); close each card by the builder's one call (the guide's Derived/Test/ToyasCard.lean, 'card_holds'). Laid BY PROGRAM, IN A SANDBOX (cutbox-door.mjs). By AI agents, Wed Nov 11 2026. No macro, syntax, notation, axiom, sorry.
-/
import Derived.Test.YtkhhkacmfkipgaaDoorRows
import GoSem.ClaimSeven
namespace Go.Proofs.YtkhhkacmfkipgaaDoor
namespace Rows

/-- THE TIED CARD OF 'laws.FnExactEdgeOf'. -/
def fnExactEdgeOfCard : Claim7 := { stood := { row := fnExactEdgeOfRow, standIns := [], harness := (true, "733e08a213e7d436d2b032eb8175836d78ec5cead2292de3cdd4b32e3f3f1c79"), looks := true }, kinds := [], alts := [], laidByText := true, laidKinds := [.sentinel, .sentinel, .sentinel, .sentinel, .sentinel, .sentinel, .sentinel, .sentinel], laidTests := true, laidLooks := .later }
def FnExactEdgeOfCardSaid : Prop := Claim7.holds Tryd.pinned (.plain (OpenSpec.ofChange fnExactEdgeOfSpec)) fnExactEdgeOfCard

/-- THE TIED CARD OF 'laws.FnExactCellsUnder'. -/
def fnExactCellsUnderCard : Claim7 := { stood := { row := fnExactCellsUnderRow, standIns := [], harness := (true, "733e08a213e7d436d2b032eb8175836d78ec5cead2292de3cdd4b32e3f3f1c79"), looks := true }, kinds := [], alts := [], laidByText := true, laidKinds := [.sentinel, .sentinel, .sentinel, .sentinel, .sentinel, .sentinel, .sentinel, .sentinel], laidTests := true, laidLooks := .later }
def FnExactCellsUnderCardSaid : Prop := Claim7.holds Tryd.pinned (.plain (OpenSpec.ofChange fnExactCellsUnderSpec)) fnExactCellsUnderCard

/-- THE TIED CARD OF 'laws.FnExactCoveredBy'. -/
def fnExactCoveredByCard : Claim7 := { stood := { row := fnExactCoveredByRow, standIns := [], harness := (true, "733e08a213e7d436d2b032eb8175836d78ec5cead2292de3cdd4b32e3f3f1c79"), looks := true }, kinds := [], alts := [], laidByText := true, laidKinds := [.sentinel, .sentinel, .sentinel, .sentinel, .sentinel, .sentinel, .sentinel, .sentinel], laidTests := true, laidLooks := .later }
def FnExactCoveredByCardSaid : Prop := Claim7.holds Tryd.pinned (.plain (OpenSpec.ofChange fnExactCoveredBySpec)) fnExactCoveredByCard

/-- THE TIED CARD OF 'laws.FnExactCostOfNet'. -/
def fnExactCostOfNetCard : Claim7 := { stood := { row := fnExactCostOfNetRow, standIns := [], harness := (true, "733e08a213e7d436d2b032eb8175836d78ec5cead2292de3cdd4b32e3f3f1c79"), looks := true }, kinds := [], alts := [], laidByText := true, laidKinds := [.sentinel, .sentinel, .sentinel, .sentinel, .sentinel, .sentinel, .sentinel, .sentinel], laidTests := true, laidLooks := .later }
def FnExactCostOfNetCardSaid : Prop := Claim7.holds Tryd.pinned (.plain (OpenSpec.ofChange fnExactCostOfNetSpec)) fnExactCostOfNetCard

/-- THE TIED CARD OF 'laws.FnExactCostOfNets'. -/
def fnExactCostOfNetsCard : Claim7 := { stood := { row := fnExactCostOfNetsRow, standIns := [], harness := (true, "733e08a213e7d436d2b032eb8175836d78ec5cead2292de3cdd4b32e3f3f1c79"), looks := true }, kinds := [], alts := [], laidByText := true, laidKinds := [.sentinel, .sentinel, .sentinel, .sentinel, .sentinel, .sentinel, .sentinel, .sentinel], laidTests := true, laidLooks := .later }
def FnExactCostOfNetsCardSaid : Prop := Claim7.holds Tryd.pinned (.plain (OpenSpec.ofChange fnExactCostOfNetsSpec)) fnExactCostOfNetsCard

/-- THE TIED CARD OF 'laws.FnExactTwiceCovered'. -/
def fnExactTwiceCoveredCard : Claim7 := { stood := { row := fnExactTwiceCoveredRow, standIns := [], harness := (true, "733e08a213e7d436d2b032eb8175836d78ec5cead2292de3cdd4b32e3f3f1c79"), looks := true }, kinds := [], alts := [], laidByText := true, laidKinds := [.sentinel, .sentinel, .sentinel, .sentinel, .sentinel, .sentinel, .sentinel, .sentinel], laidTests := true, laidLooks := .later }
def FnExactTwiceCoveredCardSaid : Prop := Claim7.holds Tryd.pinned (.plain (OpenSpec.ofChange fnExactTwiceCoveredSpec)) fnExactTwiceCoveredCard

/-- THE TIED CARD OF 'laws.FnExactWithHoles'. -/
def fnExactWithHolesCard : Claim7 := { stood := { row := fnExactWithHolesRow, standIns := [], harness := (true, "733e08a213e7d436d2b032eb8175836d78ec5cead2292de3cdd4b32e3f3f1c79"), looks := true }, kinds := [], alts := [], laidByText := true, laidKinds := [.sentinel, .sentinel, .sentinel, .sentinel, .sentinel, .sentinel, .sentinel, .sentinel], laidTests := true, laidLooks := .later }
def FnExactWithHolesCardSaid : Prop := Claim7.holds Tryd.pinned (.plain (OpenSpec.ofChange fnExactWithHolesSpec)) fnExactWithHolesCard

/-- THE SECOND FORM's CARD OF 'laws.FnExactEdgeOf'. -/
def fnExactEdgeOfUptoCard : Claim7 := { stood := { row := fnExactEdgeOfUptoRow, standIns := [], harness := (true, "733e08a213e7d436d2b032eb8175836d78ec5cead2292de3cdd4b32e3f3f1c79"), looks := true }, kinds := [], alts := [], laidByText := true, laidKinds := [.sentinel, .sentinel, .sentinel, .sentinel, .sentinel, .sentinel, .sentinel, .sentinel], laidTests := true, laidLooks := .later }
def FnExactEdgeOfUptoCardSaid : Prop := Claim7.holds Tryd.pinned (.plain (OpenSpec.upto fnExactEdgeOfSpec)) fnExactEdgeOfUptoCard

/-- THE SECOND FORM's CARD OF 'laws.FnExactCellsUnder'. -/
def fnExactCellsUnderUptoCard : Claim7 := { stood := { row := fnExactCellsUnderUptoRow, standIns := [], harness := (true, "733e08a213e7d436d2b032eb8175836d78ec5cead2292de3cdd4b32e3f3f1c79"), looks := true }, kinds := [], alts := [], laidByText := true, laidKinds := [.sentinel, .sentinel, .sentinel, .sentinel, .sentinel, .sentinel, .sentinel, .sentinel], laidTests := true, laidLooks := .later }
def FnExactCellsUnderUptoCardSaid : Prop := Claim7.holds Tryd.pinned (.plain (OpenSpec.upto fnExactCellsUnderSpec)) fnExactCellsUnderUptoCard

/-- THE SECOND FORM's CARD OF 'laws.FnExactCoveredBy'. -/
def fnExactCoveredByUptoCard : Claim7 := { stood := { row := fnExactCoveredByUptoRow, standIns := [], harness := (true, "733e08a213e7d436d2b032eb8175836d78ec5cead2292de3cdd4b32e3f3f1c79"), looks := true }, kinds := [], alts := [], laidByText := true, laidKinds := [.sentinel, .sentinel, .sentinel, .sentinel, .sentinel, .sentinel, .sentinel, .sentinel], laidTests := true, laidLooks := .later }
def FnExactCoveredByUptoCardSaid : Prop := Claim7.holds Tryd.pinned (.plain (OpenSpec.upto fnExactCoveredBySpec)) fnExactCoveredByUptoCard

/-- THE SECOND FORM's CARD OF 'laws.FnExactCostOfNet'. -/
def fnExactCostOfNetUptoCard : Claim7 := { stood := { row := fnExactCostOfNetUptoRow, standIns := [], harness := (true, "733e08a213e7d436d2b032eb8175836d78ec5cead2292de3cdd4b32e3f3f1c79"), looks := true }, kinds := [], alts := [], laidByText := true, laidKinds := [.sentinel, .sentinel, .sentinel, .sentinel, .sentinel, .sentinel, .sentinel, .sentinel], laidTests := true, laidLooks := .later }
def FnExactCostOfNetUptoCardSaid : Prop := Claim7.holds Tryd.pinned (.plain (OpenSpec.upto fnExactCostOfNetSpec)) fnExactCostOfNetUptoCard

/-- THE SECOND FORM's CARD OF 'laws.FnExactCostOfNets'. -/
def fnExactCostOfNetsUptoCard : Claim7 := { stood := { row := fnExactCostOfNetsUptoRow, standIns := [], harness := (true, "733e08a213e7d436d2b032eb8175836d78ec5cead2292de3cdd4b32e3f3f1c79"), looks := true }, kinds := [], alts := [], laidByText := true, laidKinds := [.sentinel, .sentinel, .sentinel, .sentinel, .sentinel, .sentinel, .sentinel, .sentinel], laidTests := true, laidLooks := .later }
def FnExactCostOfNetsUptoCardSaid : Prop := Claim7.holds Tryd.pinned (.plain (OpenSpec.upto fnExactCostOfNetsSpec)) fnExactCostOfNetsUptoCard

/-- THE SECOND FORM's CARD OF 'laws.FnExactTwiceCovered'. -/
def fnExactTwiceCoveredUptoCard : Claim7 := { stood := { row := fnExactTwiceCoveredUptoRow, standIns := [], harness := (true, "733e08a213e7d436d2b032eb8175836d78ec5cead2292de3cdd4b32e3f3f1c79"), looks := true }, kinds := [], alts := [], laidByText := true, laidKinds := [.sentinel, .sentinel, .sentinel, .sentinel, .sentinel, .sentinel, .sentinel, .sentinel], laidTests := true, laidLooks := .later }
def FnExactTwiceCoveredUptoCardSaid : Prop := Claim7.holds Tryd.pinned (.plain (OpenSpec.upto fnExactTwiceCoveredSpec)) fnExactTwiceCoveredUptoCard

/-- THE SECOND FORM's CARD OF 'laws.FnExactWithHoles'. -/
def fnExactWithHolesUptoCard : Claim7 := { stood := { row := fnExactWithHolesUptoRow, standIns := [], harness := (true, "733e08a213e7d436d2b032eb8175836d78ec5cead2292de3cdd4b32e3f3f1c79"), looks := true }, kinds := [], alts := [], laidByText := true, laidKinds := [.sentinel, .sentinel, .sentinel, .sentinel, .sentinel, .sentinel, .sentinel, .sentinel], laidTests := true, laidLooks := .later }
def FnExactWithHolesUptoCardSaid : Prop := Claim7.holds Tryd.pinned (.plain (OpenSpec.upto fnExactWithHolesSpec)) fnExactWithHolesUptoCard
end Rows
end Go.Proofs.YtkhhkacmfkipgaaDoor
