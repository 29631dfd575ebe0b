/-
  DERIVED. GIVEN WITH THE SEED: THE CARDS: each row of YteclngooblafoaaDoorRows.lean that lists a variable, with what it lists TIED to the program's text (the seventh form; the later family's looks); each row that meets fmt, with fmt's text TOLD by the authors' own Lean function (tested against real Go, not proved from fmt's source: count such statements apart). THE CARD IS WHAT COUNTS. Prove the row's statement (the work); the ties are given (YteclngooblafoaaDoorTie.lean); close each card by the builder's one call (the guide's Derived/Test/ToyasCard.lean, 'card_holds'). Laid BY PROGRAM, IN A SANDBOX (cutbox-door.mjs). By AI agents, Wed Nov 11 2026. No macro, syntax, notation, axiom, sorry.
-/
import Derived.Test.YteclngooblafoaaDoorRows
import GoSem.ClaimSeven
namespace Go.Proofs.YteclngooblafoaaDoor
namespace Rows

/-- THE TIED CARD OF 'laws.FnExactCheckPlaces'. -/
def fnExactCheckPlacesCard : Claim7 := { stood := { row := fnExactCheckPlacesRow, standIns := [], harness := (true, "5682a408cfe4e58bf38032c52dfea99e8227cea9b7f123075e547cdaab3e2afe"), looks := true }, kinds := [], alts := [], laidByText := true, laidKinds := [.sentinel, .sentinel, .sentinel, .sentinel, .sentinel, .sentinel, .sentinel, .sentinel], laidTests := true, laidLooks := .later }
def FnExactCheckPlacesCardSaid : Prop := Claim7.holds Tryd.pinned (.plain (OpenSpec.ofChange fnExactCheckPlacesSpec)) fnExactCheckPlacesCard

/-- THE TIED CARD OF 'laws.FnExactUselessScares'. -/
def fnExactUselessScaresCard : Claim7 := { stood := { row := fnExactUselessScaresRow, standIns := [], harness := (true, "5682a408cfe4e58bf38032c52dfea99e8227cea9b7f123075e547cdaab3e2afe"), looks := true }, kinds := [], alts := [], laidByText := true, laidKinds := [.sentinel, .sentinel, .sentinel, .sentinel, .sentinel, .sentinel, .sentinel, .sentinel], laidTests := true, laidLooks := .later }
def FnExactUselessScaresCardSaid : Prop := Claim7.holds Tryd.pinned (.plain (OpenSpec.ofChange fnExactUselessScaresSpec)) fnExactUselessScaresCard

/-- THE SECOND FORM's CARD OF 'laws.FnExactCheckPlaces'. -/
def fnExactCheckPlacesUptoCard : Claim7 := { stood := { row := fnExactCheckPlacesUptoRow, standIns := [], harness := (true, "5682a408cfe4e58bf38032c52dfea99e8227cea9b7f123075e547cdaab3e2afe"), looks := true }, kinds := [], alts := [], laidByText := true, laidKinds := [.sentinel, .sentinel, .sentinel, .sentinel, .sentinel, .sentinel, .sentinel, .sentinel], laidTests := true, laidLooks := .later }
def FnExactCheckPlacesUptoCardSaid : Prop := Claim7.holds Tryd.pinned (.plain (OpenSpec.upto fnExactCheckPlacesSpec)) fnExactCheckPlacesUptoCard

/-- THE SECOND FORM's CARD OF 'laws.FnExactUselessScares'. -/
def fnExactUselessScaresUptoCard : Claim7 := { stood := { row := fnExactUselessScaresUptoRow, standIns := [], harness := (true, "5682a408cfe4e58bf38032c52dfea99e8227cea9b7f123075e547cdaab3e2afe"), looks := true }, kinds := [], alts := [], laidByText := true, laidKinds := [.sentinel, .sentinel, .sentinel, .sentinel, .sentinel, .sentinel, .sentinel, .sentinel], laidTests := true, laidLooks := .later }
def FnExactUselessScaresUptoCardSaid : Prop := Claim7.holds Tryd.pinned (.plain (OpenSpec.upto fnExactUselessScaresSpec)) fnExactUselessScaresUptoCard
end Rows
end Go.Proofs.YteclngooblafoaaDoor
