/-
  DERIVED. GIVEN WITH THE SEED: THE CARDS: each row of YtcaeihhdapghkaaDoorRows.lean that lists a variable, with what it lists TIED to the program's text (the seventh form; the later family's looks); each row that meets fmt, with fmt's text TOLD by the authors' own Lean function (tested against real Go, not proved from fmt's source: count such statements apart). THE CARD IS WHAT COUNTS. Prove the row's statement (the work); the ties are given (YtcaeihhdapghkaaDoorTie.lean); close each card by the builder's one call (the guide's Derived/Test/ToyasCard.lean, 'card_holds'). Laid BY PROGRAM, IN A SANDBOX (cutbox-door.mjs). By AI agents, Wed Nov 11 2026. No macro, syntax, notation, axiom, sorry.
-/
import Derived.Test.YtcaeihhdapghkaaDoorRows
import GoSem.ClaimSeven
namespace Go.Proofs.YtcaeihhdapghkaaDoor
namespace Rows

/-- THE TIED CARD OF 'laws.FnExactNearestIn'. -/
def fnExactNearestInCard : Claim7 := { stood := { row := fnExactNearestInRow, standIns := [], harness := (true, "49100e61fb274c1da301817eea88f1bf7aa208045a79f0859874623654066443"), looks := true }, kinds := [], alts := [], laidByText := true, laidKinds := [.sentinel, .sentinel, .sentinel, .sentinel, .sentinel, .sentinel, .sentinel, .sentinel], laidTests := true, laidLooks := .later }
def FnExactNearestInCardSaid : Prop := Claim7.holds Tryd.pinned (.plain (OpenSpec.ofChange fnExactNearestInSpec)) fnExactNearestInCard

/-- THE TIED CARD OF 'laws.FnExactRichestIn'. -/
def fnExactRichestInCard : Claim7 := { stood := { row := fnExactRichestInRow, standIns := [], harness := (true, "49100e61fb274c1da301817eea88f1bf7aa208045a79f0859874623654066443"), looks := true }, kinds := [], alts := [], laidByText := true, laidKinds := [.sentinel, .sentinel, .sentinel, .sentinel, .sentinel, .sentinel, .sentinel, .sentinel], laidTests := true, laidLooks := .later }
def FnExactRichestInCardSaid : Prop := Claim7.holds Tryd.pinned (.plain (OpenSpec.ofChange fnExactRichestInSpec)) fnExactRichestInCard

/-- THE TIED CARD OF 'laws.FnExactNeighboursOf'. -/
def fnExactNeighboursOfCard : Claim7 := { stood := { row := fnExactNeighboursOfRow, standIns := [], harness := (true, "49100e61fb274c1da301817eea88f1bf7aa208045a79f0859874623654066443"), looks := true }, kinds := [], alts := [], laidByText := true, laidKinds := [.sentinel, .sentinel, .sentinel, .sentinel, .sentinel, .sentinel, .sentinel, .sentinel], laidTests := true, laidLooks := .later }
def FnExactNeighboursOfCardSaid : Prop := Claim7.holds Tryd.pinned (.plain (OpenSpec.ofChange fnExactNeighboursOfSpec)) fnExactNeighboursOfCard

/-- THE TIED CARD OF 'laws.FnSets'. -/
def fnSetsCard : Claim7 := { stood := { row := fnSetsRow, standIns := [], harness := (true, "49100e61fb274c1da301817eea88f1bf7aa208045a79f0859874623654066443"), looks := true }, kinds := [], alts := [], laidByText := true, laidKinds := [.sentinel, .sentinel, .sentinel, .sentinel, .sentinel, .sentinel, .sentinel, .sentinel], laidTests := true, laidLooks := .later }
def FnSetsCardSaid : Prop := Claim7.holds Tryd.pinned (.plain (OpenSpec.ofChange fnSetsSpec)) fnSetsCard

/-- THE SECOND FORM's CARD OF 'laws.FnExactNearestIn'. -/
def fnExactNearestInUptoCard : Claim7 := { stood := { row := fnExactNearestInUptoRow, standIns := [], harness := (true, "49100e61fb274c1da301817eea88f1bf7aa208045a79f0859874623654066443"), looks := true }, kinds := [], alts := [], laidByText := true, laidKinds := [.sentinel, .sentinel, .sentinel, .sentinel, .sentinel, .sentinel, .sentinel, .sentinel], laidTests := true, laidLooks := .later }
def FnExactNearestInUptoCardSaid : Prop := Claim7.holds Tryd.pinned (.plain (OpenSpec.upto fnExactNearestInSpec)) fnExactNearestInUptoCard

/-- THE SECOND FORM's CARD OF 'laws.FnExactRichestIn'. -/
def fnExactRichestInUptoCard : Claim7 := { stood := { row := fnExactRichestInUptoRow, standIns := [], harness := (true, "49100e61fb274c1da301817eea88f1bf7aa208045a79f0859874623654066443"), looks := true }, kinds := [], alts := [], laidByText := true, laidKinds := [.sentinel, .sentinel, .sentinel, .sentinel, .sentinel, .sentinel, .sentinel, .sentinel], laidTests := true, laidLooks := .later }
def FnExactRichestInUptoCardSaid : Prop := Claim7.holds Tryd.pinned (.plain (OpenSpec.upto fnExactRichestInSpec)) fnExactRichestInUptoCard

/-- THE SECOND FORM's CARD OF 'laws.FnExactNeighboursOf'. -/
def fnExactNeighboursOfUptoCard : Claim7 := { stood := { row := fnExactNeighboursOfUptoRow, standIns := [], harness := (true, "49100e61fb274c1da301817eea88f1bf7aa208045a79f0859874623654066443"), looks := true }, kinds := [], alts := [], laidByText := true, laidKinds := [.sentinel, .sentinel, .sentinel, .sentinel, .sentinel, .sentinel, .sentinel, .sentinel], laidTests := true, laidLooks := .later }
def FnExactNeighboursOfUptoCardSaid : Prop := Claim7.holds Tryd.pinned (.plain (OpenSpec.upto fnExactNeighboursOfSpec)) fnExactNeighboursOfUptoCard

/-- THE SECOND FORM's CARD OF 'laws.FnSets'. -/
def fnSetsUptoCard : Claim7 := { stood := { row := fnSetsUptoRow, standIns := [], harness := (true, "49100e61fb274c1da301817eea88f1bf7aa208045a79f0859874623654066443"), looks := true }, kinds := [], alts := [], laidByText := true, laidKinds := [.sentinel, .sentinel, .sentinel, .sentinel, .sentinel, .sentinel, .sentinel, .sentinel], laidTests := true, laidLooks := .later }
def FnSetsUptoCardSaid : Prop := Claim7.holds Tryd.pinned (.plain (OpenSpec.upto fnSetsSpec)) fnSetsUptoCard
end Rows
end Go.Proofs.YtcaeihhdapghkaaDoor
