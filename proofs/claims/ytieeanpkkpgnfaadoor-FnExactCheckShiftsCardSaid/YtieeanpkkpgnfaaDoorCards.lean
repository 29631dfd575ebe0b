/-
  DERIVED. GIVEN WITH THE SEED: THE CARDS: each row of YtieeanpkkpgnfaaDoorRows.lean that lists a variable, with what it lists TIED to the program's text (the seventh form; the later family's looks); each row that meets fmt, with fmt's text TOLD by the authors' own Lean function (tested against real Go, not proved from fmt's source: count such statements apart). THE CARD IS WHAT COUNTS. Prove the row's statement (the work); the ties are given (YtieeanpkkpgnfaaDoorTie.lean); close each card by the builder's one call (the guide's Derived/Test/ToyasCard.lean, 'card_holds'). Laid BY PROGRAM, IN A SANDBOX (cutbox-door.mjs). By AI agents, Wed Nov 11 2026. No macro, syntax, notation, axiom, sorry.
-/
import Derived.Test.YtieeanpkkpgnfaaDoorRows
import GoSem.ClaimSeven
namespace Go.Proofs.YtieeanpkkpgnfaaDoor
namespace Rows

/-- THE TIED CARD OF 'laws.FnExactFewestShifts'. -/
def fnExactFewestShiftsCard : Claim7 := { stood := { row := fnExactFewestShiftsRow, standIns := [], harness := (true, "6190728dab7a944e10dcf74e1f38f25edd18419138cde596081d0e2d7db213ee"), looks := true }, kinds := [], alts := [], laidByText := true, laidKinds := [.sentinel, .sentinel, .sentinel, .sentinel, .sentinel, .sentinel, .sentinel, .sentinel], laidTests := true, laidLooks := .later }
def FnExactFewestShiftsCardSaid : Prop := Claim7.holds Tryd.pinned (.plain (OpenSpec.ofChange fnExactFewestShiftsSpec)) fnExactFewestShiftsCard

/-- THE TIED CARD OF 'laws.FnExactCheckShifts'. -/
def fnExactCheckShiftsCard : Claim7 := { stood := { row := fnExactCheckShiftsRow, standIns := [], harness := (true, "6190728dab7a944e10dcf74e1f38f25edd18419138cde596081d0e2d7db213ee"), looks := true }, kinds := [], alts := [], laidByText := true, laidKinds := [.sentinel, .sentinel, .sentinel, .sentinel, .sentinel, .sentinel, .sentinel, .sentinel], laidTests := true, laidLooks := .later }
def FnExactCheckShiftsCardSaid : Prop := Claim7.holds Tryd.pinned (.plain (OpenSpec.ofChange fnExactCheckShiftsSpec)) fnExactCheckShiftsCard

/-- THE TIED CARD OF 'laws.FnExactFirstShort'. -/
def fnExactFirstShortCard : Claim7 := { stood := { row := fnExactFirstShortRow, standIns := [], harness := (true, "6190728dab7a944e10dcf74e1f38f25edd18419138cde596081d0e2d7db213ee"), looks := true }, kinds := [], alts := [], laidByText := true, laidKinds := [.sentinel, .sentinel, .sentinel, .sentinel, .sentinel, .sentinel, .sentinel, .sentinel], laidTests := true, laidLooks := .later }
def FnExactFirstShortCardSaid : Prop := Claim7.holds Tryd.pinned (.plain (OpenSpec.ofChange fnExactFirstShortSpec)) fnExactFirstShortCard

/-- THE TIED CARD OF 'laws.FnShifts'. -/
def fnShiftsCard : Claim7 := { stood := { row := fnShiftsRow, standIns := [], harness := (true, "6190728dab7a944e10dcf74e1f38f25edd18419138cde596081d0e2d7db213ee"), looks := true }, kinds := [], alts := [], laidByText := true, laidKinds := [.sentinel, .sentinel, .sentinel, .sentinel, .sentinel, .sentinel, .sentinel, .sentinel], laidTests := true, laidLooks := .later }
def FnShiftsCardSaid : Prop := Claim7.holds Tryd.pinned (.plain (OpenSpec.ofChange fnShiftsSpec)) fnShiftsCard

/-- THE SECOND FORM's CARD OF 'laws.FnExactFewestShifts'. -/
def fnExactFewestShiftsUptoCard : Claim7 := { stood := { row := fnExactFewestShiftsUptoRow, standIns := [], harness := (true, "6190728dab7a944e10dcf74e1f38f25edd18419138cde596081d0e2d7db213ee"), looks := true }, kinds := [], alts := [], laidByText := true, laidKinds := [.sentinel, .sentinel, .sentinel, .sentinel, .sentinel, .sentinel, .sentinel, .sentinel], laidTests := true, laidLooks := .later }
def FnExactFewestShiftsUptoCardSaid : Prop := Claim7.holds Tryd.pinned (.plain (OpenSpec.upto fnExactFewestShiftsSpec)) fnExactFewestShiftsUptoCard

/-- THE SECOND FORM's CARD OF 'laws.FnExactCheckShifts'. -/
def fnExactCheckShiftsUptoCard : Claim7 := { stood := { row := fnExactCheckShiftsUptoRow, standIns := [], harness := (true, "6190728dab7a944e10dcf74e1f38f25edd18419138cde596081d0e2d7db213ee"), looks := true }, kinds := [], alts := [], laidByText := true, laidKinds := [.sentinel, .sentinel, .sentinel, .sentinel, .sentinel, .sentinel, .sentinel, .sentinel], laidTests := true, laidLooks := .later }
def FnExactCheckShiftsUptoCardSaid : Prop := Claim7.holds Tryd.pinned (.plain (OpenSpec.upto fnExactCheckShiftsSpec)) fnExactCheckShiftsUptoCard

/-- THE SECOND FORM's CARD OF 'laws.FnExactFirstShort'. -/
def fnExactFirstShortUptoCard : Claim7 := { stood := { row := fnExactFirstShortUptoRow, standIns := [], harness := (true, "6190728dab7a944e10dcf74e1f38f25edd18419138cde596081d0e2d7db213ee"), looks := true }, kinds := [], alts := [], laidByText := true, laidKinds := [.sentinel, .sentinel, .sentinel, .sentinel, .sentinel, .sentinel, .sentinel, .sentinel], laidTests := true, laidLooks := .later }
def FnExactFirstShortUptoCardSaid : Prop := Claim7.holds Tryd.pinned (.plain (OpenSpec.upto fnExactFirstShortSpec)) fnExactFirstShortUptoCard

/-- THE SECOND FORM's CARD OF 'laws.FnShifts'. -/
def fnShiftsUptoCard : Claim7 := { stood := { row := fnShiftsUptoRow, standIns := [], harness := (true, "6190728dab7a944e10dcf74e1f38f25edd18419138cde596081d0e2d7db213ee"), looks := true }, kinds := [], alts := [], laidByText := true, laidKinds := [.sentinel, .sentinel, .sentinel, .sentinel, .sentinel, .sentinel, .sentinel, .sentinel], laidTests := true, laidLooks := .later }
def FnShiftsUptoCardSaid : Prop := Claim7.holds Tryd.pinned (.plain (OpenSpec.upto fnShiftsSpec)) fnShiftsUptoCard
end Rows
end Go.Proofs.YtieeanpkkpgnfaaDoor
