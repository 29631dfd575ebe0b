/-
  DERIVED. GIVEN WITH THE SEED: THE CARDS: each row of YtddbpbibjiahgaaDoorRows.lean that lists a variable, with what it lists TIED to the program's text (the seventh form; the later family's looks); each row that meets fmt, with fmt's text TOLD by the authors' own Lean function (tested against real Go, not proved from fmt's source: count such statements apart). THE CARD IS WHAT COUNTS. Prove the row's statement (the work); the ties are given (YtddbpbibjiahgaaDoorTie.lean); close each card by the builder's one call (the guide's Derived/Test/ToyasCard.lean, 'card_holds'). Laid BY PROGRAM, IN A SANDBOX (cutbox-door.mjs). By AI agents, Wed Nov 11 2026. No macro, syntax, notation, axiom, sorry.
-/
import Derived.Test.YtddbpbibjiahgaaDoorRows
import GoSem.ClaimSeven
namespace Go.Proofs.YtddbpbibjiahgaaDoor
namespace Rows

/-- THE TIED CARD OF 'laws.FnExactPlotsOf'. -/
def fnExactPlotsOfCard : Claim7 := { stood := { row := fnExactPlotsOfRow, standIns := [], harness := (true, "3288678b7f8e604569883c7246acc0e69fd9e5eba04ee01338f4b18a19c8b655"), looks := true }, kinds := [], alts := [], laidByText := true, laidKinds := [.sentinel, .sentinel, .sentinel, .sentinel, .sentinel, .sentinel, .sentinel, .sentinel], laidTests := true, laidLooks := .later }
def FnExactPlotsOfCardSaid : Prop := Claim7.holds Tryd.pinned (.plain (OpenSpec.ofChange fnExactPlotsOfSpec)) fnExactPlotsOfCard

/-- THE TIED CARD OF 'laws.FnExactDiaryOf'. -/
def fnExactDiaryOfCard : Claim7 := { stood := { row := fnExactDiaryOfRow, standIns := [], harness := (true, "3288678b7f8e604569883c7246acc0e69fd9e5eba04ee01338f4b18a19c8b655"), looks := true }, kinds := [], alts := [], laidByText := true, laidKinds := [.sentinel, .sentinel, .sentinel, .sentinel, .sentinel, .sentinel, .sentinel, .sentinel], laidTests := true, laidLooks := .later }
def FnExactDiaryOfCardSaid : Prop := Claim7.holds Tryd.pinned (.plain (OpenSpec.ofChange fnExactDiaryOfSpec)) fnExactDiaryOfCard

/-- THE TIED CARD OF 'laws.FnExactReplayDiary'. -/
def fnExactReplayDiaryCard : Claim7 := { stood := { row := fnExactReplayDiaryRow, standIns := [], harness := (true, "3288678b7f8e604569883c7246acc0e69fd9e5eba04ee01338f4b18a19c8b655"), looks := true }, kinds := [], alts := [], laidByText := true, laidKinds := [.sentinel, .sentinel, .sentinel, .sentinel, .sentinel, .sentinel, .sentinel, .sentinel], laidTests := true, laidLooks := .later }
def FnExactReplayDiaryCardSaid : Prop := Claim7.holds Tryd.pinned (.plain (OpenSpec.ofChange fnExactReplayDiarySpec)) fnExactReplayDiaryCard

/-- THE TIED CARD OF 'laws.FnExactFirstWrong'. -/
def fnExactFirstWrongCard : Claim7 := { stood := { row := fnExactFirstWrongRow, standIns := [], harness := (true, "3288678b7f8e604569883c7246acc0e69fd9e5eba04ee01338f4b18a19c8b655"), looks := true }, kinds := [], alts := [], laidByText := true, laidKinds := [.handle, .sentinel, .sentinel, .sentinel, .sentinel, .sentinel, .sentinel, .sentinel, .sentinel], laidTests := true, laidLooks := .later }
def FnExactFirstWrongCardSaid : Prop := Claim7.holds Tryd.pinned (.plain (OpenSpec.ofChange fnExactFirstWrongSpec)) fnExactFirstWrongCard

/-- THE SECOND FORM's CARD OF 'laws.FnExactPlotsOf'. -/
def fnExactPlotsOfUptoCard : Claim7 := { stood := { row := fnExactPlotsOfUptoRow, standIns := [], harness := (true, "3288678b7f8e604569883c7246acc0e69fd9e5eba04ee01338f4b18a19c8b655"), looks := true }, kinds := [], alts := [], laidByText := true, laidKinds := [.sentinel, .sentinel, .sentinel, .sentinel, .sentinel, .sentinel, .sentinel, .sentinel], laidTests := true, laidLooks := .later }
def FnExactPlotsOfUptoCardSaid : Prop := Claim7.holds Tryd.pinned (.plain (OpenSpec.upto fnExactPlotsOfSpec)) fnExactPlotsOfUptoCard

/-- THE SECOND FORM's CARD OF 'laws.FnExactDiaryOf'. -/
def fnExactDiaryOfUptoCard : Claim7 := { stood := { row := fnExactDiaryOfUptoRow, standIns := [], harness := (true, "3288678b7f8e604569883c7246acc0e69fd9e5eba04ee01338f4b18a19c8b655"), looks := true }, kinds := [], alts := [], laidByText := true, laidKinds := [.sentinel, .sentinel, .sentinel, .sentinel, .sentinel, .sentinel, .sentinel, .sentinel], laidTests := true, laidLooks := .later }
def FnExactDiaryOfUptoCardSaid : Prop := Claim7.holds Tryd.pinned (.plain (OpenSpec.upto fnExactDiaryOfSpec)) fnExactDiaryOfUptoCard

/-- THE SECOND FORM's CARD OF 'laws.FnExactReplayDiary'. -/
def fnExactReplayDiaryUptoCard : Claim7 := { stood := { row := fnExactReplayDiaryUptoRow, standIns := [], harness := (true, "3288678b7f8e604569883c7246acc0e69fd9e5eba04ee01338f4b18a19c8b655"), looks := true }, kinds := [], alts := [], laidByText := true, laidKinds := [.sentinel, .sentinel, .sentinel, .sentinel, .sentinel, .sentinel, .sentinel, .sentinel], laidTests := true, laidLooks := .later }
def FnExactReplayDiaryUptoCardSaid : Prop := Claim7.holds Tryd.pinned (.plain (OpenSpec.upto fnExactReplayDiarySpec)) fnExactReplayDiaryUptoCard

/-- THE SECOND FORM's CARD OF 'laws.FnExactFirstWrong'. -/
def fnExactFirstWrongUptoCard : Claim7 := { stood := { row := fnExactFirstWrongUptoRow, standIns := [], harness := (true, "3288678b7f8e604569883c7246acc0e69fd9e5eba04ee01338f4b18a19c8b655"), looks := true }, kinds := [], alts := [], laidByText := true, laidKinds := [.handle, .sentinel, .sentinel, .sentinel, .sentinel, .sentinel, .sentinel, .sentinel, .sentinel], laidTests := true, laidLooks := .later }
def FnExactFirstWrongUptoCardSaid : Prop := Claim7.holds Tryd.pinned (.plain (OpenSpec.upto fnExactFirstWrongSpec)) fnExactFirstWrongUptoCard
end Rows
end Go.Proofs.YtddbpbibjiahgaaDoor
