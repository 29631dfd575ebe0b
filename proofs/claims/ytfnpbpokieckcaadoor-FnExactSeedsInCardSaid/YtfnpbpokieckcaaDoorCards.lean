/-
  DERIVED. GIVEN WITH THE SEED: THE CARDS: each row of YtfnpbpokieckcaaDoorRows.lean that lists a variable, with what it lists TIED to the program's text (the seventh form; the later family's looks); each row that meets fmt, with fmt's text TOLD by the authors' own Lean function (tested against real Go, not proved from fmt's source: count such statements apart). THE CARD IS WHAT COUNTS. Prove the row's statement (the work); the ties are given (YtfnpbpokieckcaaDoorTie.lean); close each card by the builder's one call (the guide's Derived/Test/ToyasCard.lean, 'card_holds'). Laid BY PROGRAM, IN A SANDBOX (cutbox-door.mjs). By AI agents, Wed Nov 11 2026. No macro, syntax, notation, axiom, sorry.
-/
import Derived.Test.YtfnpbpokieckcaaDoorRows
import GoSem.ClaimSeven
namespace Go.Proofs.YtfnpbpokieckcaaDoor
namespace Rows

/-- THE TIED CARD OF 'laws.FnExactWithKind'. -/
def fnExactWithKindCard : Claim7 := { stood := { row := fnExactWithKindRow, standIns := [], harness := (true, "52f2706e49e283a3999610fcc72696525525ceb0d6035d4c14edcacf0f364069"), looks := true }, kinds := [], alts := [], laidByText := true, laidKinds := [.sentinel, .sentinel, .sentinel, .sentinel, .sentinel, .sentinel, .sentinel, .sentinel], laidTests := true, laidLooks := .later }
def FnExactWithKindCardSaid : Prop := Claim7.holds Tryd.pinned (.plain (OpenSpec.ofChange fnExactWithKindSpec)) fnExactWithKindCard

/-- THE TIED CARD OF 'laws.FnExactSowCell'. -/
def fnExactSowCellCard : Claim7 := { stood := { row := fnExactSowCellRow, standIns := [], harness := (true, "52f2706e49e283a3999610fcc72696525525ceb0d6035d4c14edcacf0f364069"), looks := true }, kinds := [], alts := [], laidByText := true, laidKinds := [.sentinel, .sentinel, .sentinel, .sentinel, .sentinel, .sentinel, .sentinel, .sentinel], laidTests := true, laidLooks := .later }
def FnExactSowCellCardSaid : Prop := Claim7.holds Tryd.pinned (.plain (OpenSpec.ofChange fnExactSowCellSpec)) fnExactSowCellCard

/-- THE TIED CARD OF 'laws.FnExactTakeSeeds'. -/
def fnExactTakeSeedsCard : Claim7 := { stood := { row := fnExactTakeSeedsRow, standIns := [], harness := (true, "52f2706e49e283a3999610fcc72696525525ceb0d6035d4c14edcacf0f364069"), looks := true }, kinds := [], alts := [], laidByText := true, laidKinds := [.sentinel, .sentinel, .sentinel, .sentinel, .sentinel, .sentinel, .sentinel, .sentinel], laidTests := true, laidLooks := .later }
def FnExactTakeSeedsCardSaid : Prop := Claim7.holds Tryd.pinned (.plain (OpenSpec.ofChange fnExactTakeSeedsSpec)) fnExactTakeSeedsCard

/-- THE TIED CARD OF 'laws.FnExactSeedsIn'. -/
def fnExactSeedsInCard : Claim7 := { stood := { row := fnExactSeedsInRow, standIns := [], harness := (true, "52f2706e49e283a3999610fcc72696525525ceb0d6035d4c14edcacf0f364069"), looks := true }, kinds := [], alts := [], laidByText := true, laidKinds := [.sentinel, .sentinel, .sentinel, .sentinel, .sentinel, .sentinel, .sentinel, .sentinel], laidTests := true, laidLooks := .later }
def FnExactSeedsInCardSaid : Prop := Claim7.holds Tryd.pinned (.plain (OpenSpec.ofChange fnExactSeedsInSpec)) fnExactSeedsInCard

/-- THE TIED CARD OF 'laws.FnExactHungerOf'. -/
def fnExactHungerOfCard : Claim7 := { stood := { row := fnExactHungerOfRow, standIns := [], harness := (true, "52f2706e49e283a3999610fcc72696525525ceb0d6035d4c14edcacf0f364069"), looks := true }, kinds := [], alts := [], laidByText := true, laidKinds := [.sentinel, .sentinel, .sentinel, .sentinel, .sentinel, .sentinel, .sentinel, .sentinel, .data], laidTests := true, laidLooks := .later }
def FnExactHungerOfCardSaid : Prop := Claim7.holds Tryd.pinned (.plain (OpenSpec.ofChange fnExactHungerOfSpec)) fnExactHungerOfCard

/-- THE TIED CARD OF 'laws.FnExactBirdsIn'. -/
def fnExactBirdsInCard : Claim7 := { stood := { row := fnExactBirdsInRow, standIns := [], harness := (true, "52f2706e49e283a3999610fcc72696525525ceb0d6035d4c14edcacf0f364069"), looks := true }, kinds := [], alts := [], laidByText := true, laidKinds := [.sentinel, .sentinel, .sentinel, .sentinel, .sentinel, .sentinel, .sentinel, .sentinel, .data], laidTests := true, laidLooks := .later }
def FnExactBirdsInCardSaid : Prop := Claim7.holds Tryd.pinned (.plain (OpenSpec.ofChange fnExactBirdsInSpec)) fnExactBirdsInCard

/-- THE TIED CARD OF 'laws.FnExactValidScares'. -/
def fnExactValidScaresCard : Claim7 := { stood := { row := fnExactValidScaresRow, standIns := [], harness := (true, "52f2706e49e283a3999610fcc72696525525ceb0d6035d4c14edcacf0f364069"), looks := true }, kinds := [], alts := [], laidByText := true, laidKinds := [.sentinel, .sentinel], laidTests := true, laidLooks := .later }
def FnExactValidScaresCardSaid : Prop := Claim7.holds Tryd.pinned (.plain (OpenSpec.ofChange fnExactValidScaresSpec)) fnExactValidScaresCard

/-- THE SECOND FORM's CARD OF 'laws.FnExactWithKind'. -/
def fnExactWithKindUptoCard : Claim7 := { stood := { row := fnExactWithKindUptoRow, standIns := [], harness := (true, "52f2706e49e283a3999610fcc72696525525ceb0d6035d4c14edcacf0f364069"), looks := true }, kinds := [], alts := [], laidByText := true, laidKinds := [.sentinel, .sentinel, .sentinel, .sentinel, .sentinel, .sentinel, .sentinel, .sentinel], laidTests := true, laidLooks := .later }
def FnExactWithKindUptoCardSaid : Prop := Claim7.holds Tryd.pinned (.plain (OpenSpec.upto fnExactWithKindSpec)) fnExactWithKindUptoCard

/-- THE SECOND FORM's CARD OF 'laws.FnExactSowCell'. -/
def fnExactSowCellUptoCard : Claim7 := { stood := { row := fnExactSowCellUptoRow, standIns := [], harness := (true, "52f2706e49e283a3999610fcc72696525525ceb0d6035d4c14edcacf0f364069"), looks := true }, kinds := [], alts := [], laidByText := true, laidKinds := [.sentinel, .sentinel, .sentinel, .sentinel, .sentinel, .sentinel, .sentinel, .sentinel], laidTests := true, laidLooks := .later }
def FnExactSowCellUptoCardSaid : Prop := Claim7.holds Tryd.pinned (.plain (OpenSpec.upto fnExactSowCellSpec)) fnExactSowCellUptoCard

/-- THE SECOND FORM's CARD OF 'laws.FnExactTakeSeeds'. -/
def fnExactTakeSeedsUptoCard : Claim7 := { stood := { row := fnExactTakeSeedsUptoRow, standIns := [], harness := (true, "52f2706e49e283a3999610fcc72696525525ceb0d6035d4c14edcacf0f364069"), looks := true }, kinds := [], alts := [], laidByText := true, laidKinds := [.sentinel, .sentinel, .sentinel, .sentinel, .sentinel, .sentinel, .sentinel, .sentinel], laidTests := true, laidLooks := .later }
def FnExactTakeSeedsUptoCardSaid : Prop := Claim7.holds Tryd.pinned (.plain (OpenSpec.upto fnExactTakeSeedsSpec)) fnExactTakeSeedsUptoCard

/-- THE SECOND FORM's CARD OF 'laws.FnExactSeedsIn'. -/
def fnExactSeedsInUptoCard : Claim7 := { stood := { row := fnExactSeedsInUptoRow, standIns := [], harness := (true, "52f2706e49e283a3999610fcc72696525525ceb0d6035d4c14edcacf0f364069"), looks := true }, kinds := [], alts := [], laidByText := true, laidKinds := [.sentinel, .sentinel, .sentinel, .sentinel, .sentinel, .sentinel, .sentinel, .sentinel], laidTests := true, laidLooks := .later }
def FnExactSeedsInUptoCardSaid : Prop := Claim7.holds Tryd.pinned (.plain (OpenSpec.upto fnExactSeedsInSpec)) fnExactSeedsInUptoCard

/-- THE SECOND FORM's CARD OF 'laws.FnExactHungerOf'. -/
def fnExactHungerOfUptoCard : Claim7 := { stood := { row := fnExactHungerOfUptoRow, standIns := [], harness := (true, "52f2706e49e283a3999610fcc72696525525ceb0d6035d4c14edcacf0f364069"), looks := true }, kinds := [], alts := [], laidByText := true, laidKinds := [.sentinel, .sentinel, .sentinel, .sentinel, .sentinel, .sentinel, .sentinel, .sentinel, .data], laidTests := true, laidLooks := .later }
def FnExactHungerOfUptoCardSaid : Prop := Claim7.holds Tryd.pinned (.plain (OpenSpec.upto fnExactHungerOfSpec)) fnExactHungerOfUptoCard

/-- THE SECOND FORM's CARD OF 'laws.FnExactBirdsIn'. -/
def fnExactBirdsInUptoCard : Claim7 := { stood := { row := fnExactBirdsInUptoRow, standIns := [], harness := (true, "52f2706e49e283a3999610fcc72696525525ceb0d6035d4c14edcacf0f364069"), looks := true }, kinds := [], alts := [], laidByText := true, laidKinds := [.sentinel, .sentinel, .sentinel, .sentinel, .sentinel, .sentinel, .sentinel, .sentinel, .data], laidTests := true, laidLooks := .later }
def FnExactBirdsInUptoCardSaid : Prop := Claim7.holds Tryd.pinned (.plain (OpenSpec.upto fnExactBirdsInSpec)) fnExactBirdsInUptoCard

/-- THE SECOND FORM's CARD OF 'laws.FnExactValidScares'. -/
def fnExactValidScaresUptoCard : Claim7 := { stood := { row := fnExactValidScaresUptoRow, standIns := [], harness := (true, "52f2706e49e283a3999610fcc72696525525ceb0d6035d4c14edcacf0f364069"), looks := true }, kinds := [], alts := [], laidByText := true, laidKinds := [.sentinel, .sentinel], laidTests := true, laidLooks := .later }
def FnExactValidScaresUptoCardSaid : Prop := Claim7.holds Tryd.pinned (.plain (OpenSpec.upto fnExactValidScaresSpec)) fnExactValidScaresUptoCard
end Rows
end Go.Proofs.YtfnpbpokieckcaaDoor
