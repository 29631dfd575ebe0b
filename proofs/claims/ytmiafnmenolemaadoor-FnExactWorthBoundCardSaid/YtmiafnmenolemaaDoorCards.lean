/-
  DERIVED. GIVEN WITH THE SEED: THE CARDS: each row of YtmiafnmenolemaaDoorRows.lean that lists a variable, with what it lists TIED to the program's text (the seventh form; the later family's looks); each row that meets fmt, with fmt's text TOLD by the authors' own Lean function (tested against real Go, not proved from fmt's source: count such statements apart). THE CARD IS WHAT COUNTS. Prove the row's statement (the work); the ties are given (YtmiafnmenolemaaDoorTie.lean); close each card by the builder's one call (the guide's Derived/Test/ToyasCard.lean, 'card_holds'). Laid BY PROGRAM, IN A SANDBOX (cutbox-door.mjs). By AI agents, Wed Nov 11 2026. No macro, syntax, notation, axiom, sorry.
-/
import Derived.Test.YtmiafnmenolemaaDoorRows
import GoSem.ClaimSeven
namespace Go.Proofs.YtmiafnmenolemaaDoor
namespace Rows

/-- THE TIED CARD OF 'laws.FnExactValidPlots'. -/
def fnExactValidPlotsCard : Claim7 := { stood := { row := fnExactValidPlotsRow, standIns := [], harness := (true, "7af663af61bb54c2459743068fed09cb735603bb6d07a9a5a27d147f09b332ed"), looks := true }, kinds := [], alts := [], laidByText := true, laidKinds := [.sentinel], laidTests := true, laidLooks := .later }
def FnExactValidPlotsCardSaid : Prop := Claim7.holds Tryd.pinned (.plain (OpenSpec.ofChange fnExactValidPlotsSpec)) fnExactValidPlotsCard

/-- THE TIED CARD OF 'laws.FnExactWorthOn'. -/
def fnExactWorthOnCard : Claim7 := { stood := { row := fnExactWorthOnRow, standIns := [], harness := (true, "7af663af61bb54c2459743068fed09cb735603bb6d07a9a5a27d147f09b332ed"), looks := true }, kinds := [], alts := [], laidByText := true, laidKinds := [.sentinel, .sentinel, .sentinel, .sentinel, .sentinel, .sentinel, .sentinel, .sentinel], laidTests := true, laidLooks := .later }
def FnExactWorthOnCardSaid : Prop := Claim7.holds Tryd.pinned (.plain (OpenSpec.ofChange fnExactWorthOnSpec)) fnExactWorthOnCard

/-- THE TIED CARD OF 'laws.FnExactBestDay'. -/
def fnExactBestDayCard : Claim7 := { stood := { row := fnExactBestDayRow, standIns := [], harness := (true, "7af663af61bb54c2459743068fed09cb735603bb6d07a9a5a27d147f09b332ed"), looks := true }, kinds := [], alts := [], laidByText := true, laidKinds := [.sentinel, .sentinel, .sentinel, .sentinel, .sentinel, .sentinel, .sentinel, .sentinel], laidTests := true, laidLooks := .later }
def FnExactBestDayCardSaid : Prop := Claim7.holds Tryd.pinned (.plain (OpenSpec.ofChange fnExactBestDaySpec)) fnExactBestDayCard

/-- THE TIED CARD OF 'laws.FnExactValidPlan'. -/
def fnExactValidPlanCard : Claim7 := { stood := { row := fnExactValidPlanRow, standIns := [], harness := (true, "7af663af61bb54c2459743068fed09cb735603bb6d07a9a5a27d147f09b332ed"), looks := true }, kinds := [], alts := [], laidByText := true, laidKinds := [.sentinel], laidTests := true, laidLooks := .later }
def FnExactValidPlanCardSaid : Prop := Claim7.holds Tryd.pinned (.plain (OpenSpec.ofChange fnExactValidPlanSpec)) fnExactValidPlanCard

/-- THE TIED CARD OF 'laws.FnExactWorthOf'. -/
def fnExactWorthOfCard : Claim7 := { stood := { row := fnExactWorthOfRow, standIns := [], harness := (true, "7af663af61bb54c2459743068fed09cb735603bb6d07a9a5a27d147f09b332ed"), looks := true }, kinds := [], alts := [], laidByText := true, laidKinds := [.sentinel, .sentinel, .sentinel, .sentinel, .sentinel, .sentinel, .sentinel, .sentinel], laidTests := true, laidLooks := .later }
def FnExactWorthOfCardSaid : Prop := Claim7.holds Tryd.pinned (.plain (OpenSpec.ofChange fnExactWorthOfSpec)) fnExactWorthOfCard

/-- THE TIED CARD OF 'laws.FnExactLostBy'. -/
def fnExactLostByCard : Claim7 := { stood := { row := fnExactLostByRow, standIns := [], harness := (true, "7af663af61bb54c2459743068fed09cb735603bb6d07a9a5a27d147f09b332ed"), looks := true }, kinds := [], alts := [], laidByText := true, laidKinds := [.sentinel, .sentinel, .sentinel, .sentinel, .sentinel, .sentinel, .sentinel, .sentinel], laidTests := true, laidLooks := .later }
def FnExactLostByCardSaid : Prop := Claim7.holds Tryd.pinned (.plain (OpenSpec.ofChange fnExactLostBySpec)) fnExactLostByCard

/-- THE TIED CARD OF 'laws.FnExactWorthBound'. -/
def fnExactWorthBoundCard : Claim7 := { stood := { row := fnExactWorthBoundRow, standIns := [], harness := (true, "7af663af61bb54c2459743068fed09cb735603bb6d07a9a5a27d147f09b332ed"), looks := true }, kinds := [], alts := [], laidByText := true, laidKinds := [.sentinel, .sentinel, .sentinel, .sentinel, .sentinel, .sentinel, .sentinel, .sentinel], laidTests := true, laidLooks := .later }
def FnExactWorthBoundCardSaid : Prop := Claim7.holds Tryd.pinned (.plain (OpenSpec.ofChange fnExactWorthBoundSpec)) fnExactWorthBoundCard

/-- THE SECOND FORM's CARD OF 'laws.FnExactValidPlots'. -/
def fnExactValidPlotsUptoCard : Claim7 := { stood := { row := fnExactValidPlotsUptoRow, standIns := [], harness := (true, "7af663af61bb54c2459743068fed09cb735603bb6d07a9a5a27d147f09b332ed"), looks := true }, kinds := [], alts := [], laidByText := true, laidKinds := [.sentinel], laidTests := true, laidLooks := .later }
def FnExactValidPlotsUptoCardSaid : Prop := Claim7.holds Tryd.pinned (.plain (OpenSpec.upto fnExactValidPlotsSpec)) fnExactValidPlotsUptoCard

/-- THE SECOND FORM's CARD OF 'laws.FnExactWorthOn'. -/
def fnExactWorthOnUptoCard : Claim7 := { stood := { row := fnExactWorthOnUptoRow, standIns := [], harness := (true, "7af663af61bb54c2459743068fed09cb735603bb6d07a9a5a27d147f09b332ed"), looks := true }, kinds := [], alts := [], laidByText := true, laidKinds := [.sentinel, .sentinel, .sentinel, .sentinel, .sentinel, .sentinel, .sentinel, .sentinel], laidTests := true, laidLooks := .later }
def FnExactWorthOnUptoCardSaid : Prop := Claim7.holds Tryd.pinned (.plain (OpenSpec.upto fnExactWorthOnSpec)) fnExactWorthOnUptoCard

/-- THE SECOND FORM's CARD OF 'laws.FnExactBestDay'. -/
def fnExactBestDayUptoCard : Claim7 := { stood := { row := fnExactBestDayUptoRow, standIns := [], harness := (true, "7af663af61bb54c2459743068fed09cb735603bb6d07a9a5a27d147f09b332ed"), looks := true }, kinds := [], alts := [], laidByText := true, laidKinds := [.sentinel, .sentinel, .sentinel, .sentinel, .sentinel, .sentinel, .sentinel, .sentinel], laidTests := true, laidLooks := .later }
def FnExactBestDayUptoCardSaid : Prop := Claim7.holds Tryd.pinned (.plain (OpenSpec.upto fnExactBestDaySpec)) fnExactBestDayUptoCard

/-- THE SECOND FORM's CARD OF 'laws.FnExactValidPlan'. -/
def fnExactValidPlanUptoCard : Claim7 := { stood := { row := fnExactValidPlanUptoRow, standIns := [], harness := (true, "7af663af61bb54c2459743068fed09cb735603bb6d07a9a5a27d147f09b332ed"), looks := true }, kinds := [], alts := [], laidByText := true, laidKinds := [.sentinel], laidTests := true, laidLooks := .later }
def FnExactValidPlanUptoCardSaid : Prop := Claim7.holds Tryd.pinned (.plain (OpenSpec.upto fnExactValidPlanSpec)) fnExactValidPlanUptoCard

/-- THE SECOND FORM's CARD OF 'laws.FnExactWorthOf'. -/
def fnExactWorthOfUptoCard : Claim7 := { stood := { row := fnExactWorthOfUptoRow, standIns := [], harness := (true, "7af663af61bb54c2459743068fed09cb735603bb6d07a9a5a27d147f09b332ed"), looks := true }, kinds := [], alts := [], laidByText := true, laidKinds := [.sentinel, .sentinel, .sentinel, .sentinel, .sentinel, .sentinel, .sentinel, .sentinel], laidTests := true, laidLooks := .later }
def FnExactWorthOfUptoCardSaid : Prop := Claim7.holds Tryd.pinned (.plain (OpenSpec.upto fnExactWorthOfSpec)) fnExactWorthOfUptoCard

/-- THE SECOND FORM's CARD OF 'laws.FnExactLostBy'. -/
def fnExactLostByUptoCard : Claim7 := { stood := { row := fnExactLostByUptoRow, standIns := [], harness := (true, "7af663af61bb54c2459743068fed09cb735603bb6d07a9a5a27d147f09b332ed"), looks := true }, kinds := [], alts := [], laidByText := true, laidKinds := [.sentinel, .sentinel, .sentinel, .sentinel, .sentinel, .sentinel, .sentinel, .sentinel], laidTests := true, laidLooks := .later }
def FnExactLostByUptoCardSaid : Prop := Claim7.holds Tryd.pinned (.plain (OpenSpec.upto fnExactLostBySpec)) fnExactLostByUptoCard

/-- THE SECOND FORM's CARD OF 'laws.FnExactWorthBound'. -/
def fnExactWorthBoundUptoCard : Claim7 := { stood := { row := fnExactWorthBoundUptoRow, standIns := [], harness := (true, "7af663af61bb54c2459743068fed09cb735603bb6d07a9a5a27d147f09b332ed"), looks := true }, kinds := [], alts := [], laidByText := true, laidKinds := [.sentinel, .sentinel, .sentinel, .sentinel, .sentinel, .sentinel, .sentinel, .sentinel], laidTests := true, laidLooks := .later }
def FnExactWorthBoundUptoCardSaid : Prop := Claim7.holds Tryd.pinned (.plain (OpenSpec.upto fnExactWorthBoundSpec)) fnExactWorthBoundUptoCard
end Rows
end Go.Proofs.YtmiafnmenolemaaDoor
