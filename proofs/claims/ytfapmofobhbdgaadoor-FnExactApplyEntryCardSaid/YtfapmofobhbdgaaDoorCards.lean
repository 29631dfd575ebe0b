/-
  DERIVED. GIVEN WITH THE SEED: THE CARDS: each row of YtfapmofobhbdgaaDoorRows.lean that lists a variable, with what it lists TIED to the program's text (the seventh form; the later family's looks); each row that meets fmt, with fmt's text TOLD by the authors' own Lean function (tested against real Go, not proved from fmt's source: count such statements apart). THE CARD IS WHAT COUNTS. Prove the row's statement (the work); the ties are given (YtfapmofobhbdgaaDoorTie.lean); close each card by the builder's one call (the guide's Derived/Test/ToyasCard.lean, 'card_holds'). Laid BY PROGRAM, IN A SANDBOX (cutbox-door.mjs). By AI agents, Wed Nov 11 2026. No macro, syntax, notation, axiom, sorry.
-/
import Derived.Test.YtfapmofobhbdgaaDoorRows
import GoSem.ClaimSeven
namespace Go.Proofs.YtfapmofobhbdgaaDoor
namespace Rows

/-- THE TIED CARD OF 'laws.FnExactApplyEntry'. -/
def fnExactApplyEntryCard : Claim7 := { stood := { row := fnExactApplyEntryRow, standIns := [], harness := (true, "677d1876cea7dcee184fd9146ccc5732e8b4c349c8ad252a335023ba459d10fe"), looks := true }, kinds := [], alts := [], laidByText := true, laidKinds := [.sentinel, .sentinel, .sentinel, .sentinel, .sentinel, .sentinel, .sentinel, .sentinel], laidTests := true, laidLooks := .later }
def FnExactApplyEntryCardSaid : Prop := Claim7.holds Tryd.pinned (.plain (OpenSpec.ofChange fnExactApplyEntrySpec)) fnExactApplyEntryCard

/-- THE TIED CARD OF 'laws.FnExactReplayDiary'. -/
def fnExactReplayDiaryCard : Claim7 := { stood := { row := fnExactReplayDiaryRow, standIns := [], harness := (true, "677d1876cea7dcee184fd9146ccc5732e8b4c349c8ad252a335023ba459d10fe"), looks := true }, kinds := [], alts := [], laidByText := true, laidKinds := [.sentinel, .sentinel, .sentinel, .sentinel, .sentinel, .sentinel, .sentinel, .sentinel], laidTests := true, laidLooks := .later }
def FnExactReplayDiaryCardSaid : Prop := Claim7.holds Tryd.pinned (.plain (OpenSpec.ofChange fnExactReplayDiarySpec)) fnExactReplayDiaryCard

/-- THE TIED CARD OF 'laws.FnExactDiaryOf'. -/
def fnExactDiaryOfCard : Claim7 := { stood := { row := fnExactDiaryOfRow, standIns := [], harness := (true, "677d1876cea7dcee184fd9146ccc5732e8b4c349c8ad252a335023ba459d10fe"), looks := true }, kinds := [], alts := [], laidByText := true, laidKinds := [.sentinel, .sentinel, .sentinel, .sentinel, .sentinel, .sentinel, .sentinel, .sentinel], laidTests := true, laidLooks := .later }
def FnExactDiaryOfCardSaid : Prop := Claim7.holds Tryd.pinned (.plain (OpenSpec.ofChange fnExactDiaryOfSpec)) fnExactDiaryOfCard

/-- THE TIED CARD OF 'laws.FnExactPlotsOf'. -/
def fnExactPlotsOfCard : Claim7 := { stood := { row := fnExactPlotsOfRow, standIns := [], harness := (true, "677d1876cea7dcee184fd9146ccc5732e8b4c349c8ad252a335023ba459d10fe"), looks := true }, kinds := [], alts := [], laidByText := true, laidKinds := [.sentinel, .sentinel, .sentinel, .sentinel, .sentinel, .sentinel, .sentinel, .sentinel], laidTests := true, laidLooks := .later }
def FnExactPlotsOfCardSaid : Prop := Claim7.holds Tryd.pinned (.plain (OpenSpec.ofChange fnExactPlotsOfSpec)) fnExactPlotsOfCard

/-- THE SECOND FORM's CARD OF 'laws.FnExactApplyEntry'. -/
def fnExactApplyEntryUptoCard : Claim7 := { stood := { row := fnExactApplyEntryUptoRow, standIns := [], harness := (true, "677d1876cea7dcee184fd9146ccc5732e8b4c349c8ad252a335023ba459d10fe"), looks := true }, kinds := [], alts := [], laidByText := true, laidKinds := [.sentinel, .sentinel, .sentinel, .sentinel, .sentinel, .sentinel, .sentinel, .sentinel], laidTests := true, laidLooks := .later }
def FnExactApplyEntryUptoCardSaid : Prop := Claim7.holds Tryd.pinned (.plain (OpenSpec.upto fnExactApplyEntrySpec)) fnExactApplyEntryUptoCard

/-- THE SECOND FORM's CARD OF 'laws.FnExactReplayDiary'. -/
def fnExactReplayDiaryUptoCard : Claim7 := { stood := { row := fnExactReplayDiaryUptoRow, standIns := [], harness := (true, "677d1876cea7dcee184fd9146ccc5732e8b4c349c8ad252a335023ba459d10fe"), looks := true }, kinds := [], alts := [], laidByText := true, laidKinds := [.sentinel, .sentinel, .sentinel, .sentinel, .sentinel, .sentinel, .sentinel, .sentinel], laidTests := true, laidLooks := .later }
def FnExactReplayDiaryUptoCardSaid : Prop := Claim7.holds Tryd.pinned (.plain (OpenSpec.upto fnExactReplayDiarySpec)) fnExactReplayDiaryUptoCard

/-- THE SECOND FORM's CARD OF 'laws.FnExactDiaryOf'. -/
def fnExactDiaryOfUptoCard : Claim7 := { stood := { row := fnExactDiaryOfUptoRow, standIns := [], harness := (true, "677d1876cea7dcee184fd9146ccc5732e8b4c349c8ad252a335023ba459d10fe"), looks := true }, kinds := [], alts := [], laidByText := true, laidKinds := [.sentinel, .sentinel, .sentinel, .sentinel, .sentinel, .sentinel, .sentinel, .sentinel], laidTests := true, laidLooks := .later }
def FnExactDiaryOfUptoCardSaid : Prop := Claim7.holds Tryd.pinned (.plain (OpenSpec.upto fnExactDiaryOfSpec)) fnExactDiaryOfUptoCard

/-- THE SECOND FORM's CARD OF 'laws.FnExactPlotsOf'. -/
def fnExactPlotsOfUptoCard : Claim7 := { stood := { row := fnExactPlotsOfUptoRow, standIns := [], harness := (true, "677d1876cea7dcee184fd9146ccc5732e8b4c349c8ad252a335023ba459d10fe"), looks := true }, kinds := [], alts := [], laidByText := true, laidKinds := [.sentinel, .sentinel, .sentinel, .sentinel, .sentinel, .sentinel, .sentinel, .sentinel], laidTests := true, laidLooks := .later }
def FnExactPlotsOfUptoCardSaid : Prop := Claim7.holds Tryd.pinned (.plain (OpenSpec.upto fnExactPlotsOfSpec)) fnExactPlotsOfUptoCard
end Rows
end Go.Proofs.YtfapmofobhbdgaaDoor
