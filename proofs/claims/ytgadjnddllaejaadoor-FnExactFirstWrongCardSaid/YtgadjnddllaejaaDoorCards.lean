/-
  DERIVED. GIVEN WITH THE SEED: THE CARDS: each row of YtgadjnddllaejaaDoorRows.lean that lists a variable, with what it lists TIED to the program's text (the seventh form; the later family's looks); each row that meets fmt, with fmt's text TOLD by the authors' own Lean function (tested against real Go, not proved from fmt's source: count such statements apart). THE CARD IS WHAT COUNTS. Prove the row's statement (the work); the ties are given (YtgadjnddllaejaaDoorTie.lean); close each card by the builder's one call (the guide's Derived/Test/ToyasCard.lean, 'card_holds'). Laid BY PROGRAM, IN A SANDBOX (cutbox-door.mjs). By AI agents, Wed Nov 11 2026. No macro, syntax, notation, axiom, sorry.
-/
import Derived.Test.YtgadjnddllaejaaDoorRows
import GoSem.ClaimSeven
namespace Go.Proofs.YtgadjnddllaejaaDoor
namespace Rows

/-- THE TIED CARD OF 'laws.FnExactReplayDiary'. -/
def fnExactReplayDiaryCard : Claim7 := { stood := { row := fnExactReplayDiaryRow, standIns := [], harness := (true, "b949d7b90ddb8c71f5f48161d431279e286b360d02ba28246a4e731d4aeb207d"), looks := true }, kinds := [], alts := [], laidByText := true, laidKinds := [.sentinel, .sentinel, .sentinel, .sentinel, .sentinel, .sentinel, .sentinel, .sentinel], laidTests := true, laidLooks := .later }
def FnExactReplayDiaryCardSaid : Prop := Claim7.holds Tryd.pinned (.plain (OpenSpec.ofChange fnExactReplayDiarySpec)) fnExactReplayDiaryCard

/-- THE TIED CARD OF 'laws.FnExactFirstWrong'. -/
def fnExactFirstWrongCard : Claim7 := { stood := { row := fnExactFirstWrongRow, standIns := [], harness := (true, "b949d7b90ddb8c71f5f48161d431279e286b360d02ba28246a4e731d4aeb207d"), looks := true }, kinds := [], alts := [], laidByText := true, laidKinds := [.handle, .sentinel, .sentinel, .sentinel, .sentinel, .sentinel, .sentinel, .sentinel, .sentinel], laidTests := true, laidLooks := .later }
def FnExactFirstWrongCardSaid : Prop := Claim7.holds Tryd.pinned (.plain (OpenSpec.ofChange fnExactFirstWrongSpec)) fnExactFirstWrongCard

/-- THE SECOND FORM's CARD OF 'laws.FnExactReplayDiary'. -/
def fnExactReplayDiaryUptoCard : Claim7 := { stood := { row := fnExactReplayDiaryUptoRow, standIns := [], harness := (true, "b949d7b90ddb8c71f5f48161d431279e286b360d02ba28246a4e731d4aeb207d"), looks := true }, kinds := [], alts := [], laidByText := true, laidKinds := [.sentinel, .sentinel, .sentinel, .sentinel, .sentinel, .sentinel, .sentinel, .sentinel], laidTests := true, laidLooks := .later }
def FnExactReplayDiaryUptoCardSaid : Prop := Claim7.holds Tryd.pinned (.plain (OpenSpec.upto fnExactReplayDiarySpec)) fnExactReplayDiaryUptoCard

/-- THE SECOND FORM's CARD OF 'laws.FnExactFirstWrong'. -/
def fnExactFirstWrongUptoCard : Claim7 := { stood := { row := fnExactFirstWrongUptoRow, standIns := [], harness := (true, "b949d7b90ddb8c71f5f48161d431279e286b360d02ba28246a4e731d4aeb207d"), looks := true }, kinds := [], alts := [], laidByText := true, laidKinds := [.handle, .sentinel, .sentinel, .sentinel, .sentinel, .sentinel, .sentinel, .sentinel, .sentinel], laidTests := true, laidLooks := .later }
def FnExactFirstWrongUptoCardSaid : Prop := Claim7.holds Tryd.pinned (.plain (OpenSpec.upto fnExactFirstWrongSpec)) fnExactFirstWrongUptoCard
end Rows
end Go.Proofs.YtgadjnddllaejaaDoor
