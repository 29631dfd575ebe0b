/-
  DERIVED. GIVEN WITH THE SEED: THE CARDS: each row of YtaccpnpoeikaaaaDoorRows.lean that lists a variable, with what it lists TIED to the program's text (the seventh form; the later family's looks); each row that meets fmt, with fmt's text TOLD by the authors' own Lean function (tested against real Go, not proved from fmt's source: count such statements apart). THE CARD IS WHAT COUNTS. Prove the row's statement (the work); the ties are given (YtaccpnpoeikaaaaDoorTie.lean); close each card by the builder's one call (the guide's Derived/Test/ToyasCard.lean, 'card_holds'). Laid BY PROGRAM, IN A SANDBOX (cutbox-door.mjs). By AI agents, Wed Nov 11 2026. No macro, syntax, notation, axiom, sorry.
-/
import Derived.Test.YtaccpnpoeikaaaaDoorRows
import GoSem.ClaimSeven
namespace Go.Proofs.YtaccpnpoeikaaaaDoor
namespace Rows

/-- THE TIED CARD OF 'laws.FnExactCellsFor'. -/
def fnExactCellsForCard : Claim7 := { stood := { row := fnExactCellsForRow, standIns := [], harness := (true, "6572270ab533f3f9971be6435e3a4039d8b0b913a532b9807f6a5c2a474f441e"), looks := true }, kinds := [], alts := [], laidByText := true, laidKinds := [.sentinel, .sentinel, .sentinel, .sentinel, .sentinel, .sentinel, .sentinel, .sentinel, .data], laidTests := true, laidLooks := .later }
def FnExactCellsForCardSaid : Prop := Claim7.holds Tryd.pinned (.plain (OpenSpec.ofChange fnExactCellsForSpec)) fnExactCellsForCard

/-- THE TIED CARD OF 'laws.FnExactSafeFrom'. -/
def fnExactSafeFromCard : Claim7 := { stood := { row := fnExactSafeFromRow, standIns := [], harness := (true, "6572270ab533f3f9971be6435e3a4039d8b0b913a532b9807f6a5c2a474f441e"), looks := true }, kinds := [], alts := [], laidByText := true, laidKinds := [.sentinel, .sentinel, .sentinel, .sentinel, .sentinel, .sentinel, .sentinel, .sentinel, .data], laidTests := true, laidLooks := .later }
def FnExactSafeFromCardSaid : Prop := Claim7.holds Tryd.pinned (.plain (OpenSpec.ofChange fnExactSafeFromSpec)) fnExactSafeFromCard

/-- THE TIED CARD OF 'laws.FnExactChoiceOf'. -/
def fnExactChoiceOfCard : Claim7 := { stood := { row := fnExactChoiceOfRow, standIns := [], harness := (true, "6572270ab533f3f9971be6435e3a4039d8b0b913a532b9807f6a5c2a474f441e"), looks := true }, kinds := [], alts := [], laidByText := true, laidKinds := [.sentinel, .sentinel, .sentinel, .sentinel, .sentinel, .sentinel, .sentinel, .sentinel, .data], laidTests := true, laidLooks := .later }
def FnExactChoiceOfCardSaid : Prop := Claim7.holds Tryd.pinned (.plain (OpenSpec.ofChange fnExactChoiceOfSpec)) fnExactChoiceOfCard

/-- THE TIED CARD OF 'laws.FnExactEatOnce'. -/
def fnExactEatOnceCard : Claim7 := { stood := { row := fnExactEatOnceRow, standIns := [], harness := (true, "6572270ab533f3f9971be6435e3a4039d8b0b913a532b9807f6a5c2a474f441e"), looks := true }, kinds := [], alts := [], laidByText := true, laidKinds := [.sentinel, .sentinel, .sentinel, .sentinel, .sentinel, .sentinel, .sentinel, .sentinel, .data], laidTests := true, laidLooks := .later }
def FnExactEatOnceCardSaid : Prop := Claim7.holds Tryd.pinned (.plain (OpenSpec.ofChange fnExactEatOnceSpec)) fnExactEatOnceCard

/-- THE SECOND FORM's CARD OF 'laws.FnExactCellsFor'. -/
def fnExactCellsForUptoCard : Claim7 := { stood := { row := fnExactCellsForUptoRow, standIns := [], harness := (true, "6572270ab533f3f9971be6435e3a4039d8b0b913a532b9807f6a5c2a474f441e"), looks := true }, kinds := [], alts := [], laidByText := true, laidKinds := [.sentinel, .sentinel, .sentinel, .sentinel, .sentinel, .sentinel, .sentinel, .sentinel, .data], laidTests := true, laidLooks := .later }
def FnExactCellsForUptoCardSaid : Prop := Claim7.holds Tryd.pinned (.plain (OpenSpec.upto fnExactCellsForSpec)) fnExactCellsForUptoCard

/-- THE SECOND FORM's CARD OF 'laws.FnExactSafeFrom'. -/
def fnExactSafeFromUptoCard : Claim7 := { stood := { row := fnExactSafeFromUptoRow, standIns := [], harness := (true, "6572270ab533f3f9971be6435e3a4039d8b0b913a532b9807f6a5c2a474f441e"), looks := true }, kinds := [], alts := [], laidByText := true, laidKinds := [.sentinel, .sentinel, .sentinel, .sentinel, .sentinel, .sentinel, .sentinel, .sentinel, .data], laidTests := true, laidLooks := .later }
def FnExactSafeFromUptoCardSaid : Prop := Claim7.holds Tryd.pinned (.plain (OpenSpec.upto fnExactSafeFromSpec)) fnExactSafeFromUptoCard

/-- THE SECOND FORM's CARD OF 'laws.FnExactChoiceOf'. -/
def fnExactChoiceOfUptoCard : Claim7 := { stood := { row := fnExactChoiceOfUptoRow, standIns := [], harness := (true, "6572270ab533f3f9971be6435e3a4039d8b0b913a532b9807f6a5c2a474f441e"), looks := true }, kinds := [], alts := [], laidByText := true, laidKinds := [.sentinel, .sentinel, .sentinel, .sentinel, .sentinel, .sentinel, .sentinel, .sentinel, .data], laidTests := true, laidLooks := .later }
def FnExactChoiceOfUptoCardSaid : Prop := Claim7.holds Tryd.pinned (.plain (OpenSpec.upto fnExactChoiceOfSpec)) fnExactChoiceOfUptoCard

/-- THE SECOND FORM's CARD OF 'laws.FnExactEatOnce'. -/
def fnExactEatOnceUptoCard : Claim7 := { stood := { row := fnExactEatOnceUptoRow, standIns := [], harness := (true, "6572270ab533f3f9971be6435e3a4039d8b0b913a532b9807f6a5c2a474f441e"), looks := true }, kinds := [], alts := [], laidByText := true, laidKinds := [.sentinel, .sentinel, .sentinel, .sentinel, .sentinel, .sentinel, .sentinel, .sentinel, .data], laidTests := true, laidLooks := .later }
def FnExactEatOnceUptoCardSaid : Prop := Claim7.holds Tryd.pinned (.plain (OpenSpec.upto fnExactEatOnceSpec)) fnExactEatOnceUptoCard
end Rows
end Go.Proofs.YtaccpnpoeikaaaaDoor
