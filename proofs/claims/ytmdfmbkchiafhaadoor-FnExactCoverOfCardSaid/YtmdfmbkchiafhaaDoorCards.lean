/-
  DERIVED. GIVEN WITH THE SEED: THE CARDS: each row of YtmdfmbkchiafhaaDoorRows.lean that lists a variable, with what it lists TIED to the program's text (the seventh form; the later family's looks); each row that meets fmt, with fmt's text TOLD by the authors' own Lean function (tested against real Go, not proved from fmt's source: count such statements apart). THE CARD IS WHAT COUNTS. Prove the row's statement (the work); the ties are given (YtmdfmbkchiafhaaDoorTie.lean); close each card by the builder's one call (the guide's Derived/Test/ToyasCard.lean, 'card_holds'). Laid BY PROGRAM, IN A SANDBOX (cutbox-door.mjs). By AI agents, Wed Nov 11 2026. No macro, syntax, notation, axiom, sorry.
-/
import Derived.Test.YtmdfmbkchiafhaaDoorRows
import GoSem.ClaimSeven
namespace Go.Proofs.YtmdfmbkchiafhaaDoor
namespace Rows

/-- THE TIED CARD OF 'laws.FnExactLongestSafe'. -/
def fnExactLongestSafeCard : Claim7 := { stood := { row := fnExactLongestSafeRow, standIns := [], harness := (true, "7a2200b5278f65085a9624d6ebea4e787744d21a7c17fe6f443cc81c62e32d00"), looks := true }, kinds := [], alts := [], laidByText := true, laidKinds := [.sentinel, .sentinel, .sentinel, .sentinel, .sentinel, .sentinel, .sentinel, .sentinel], laidTests := true, laidLooks := .later }
def FnExactLongestSafeCardSaid : Prop := Claim7.holds Tryd.pinned (.plain (OpenSpec.ofChange fnExactLongestSafeSpec)) fnExactLongestSafeCard

/-- THE TIED CARD OF 'laws.FnExactUselessScares'. -/
def fnExactUselessScaresCard : Claim7 := { stood := { row := fnExactUselessScaresRow, standIns := [], harness := (true, "7a2200b5278f65085a9624d6ebea4e787744d21a7c17fe6f443cc81c62e32d00"), looks := true }, kinds := [], alts := [], laidByText := true, laidKinds := [.sentinel, .sentinel, .sentinel, .sentinel, .sentinel, .sentinel, .sentinel, .sentinel], laidTests := true, laidLooks := .later }
def FnExactUselessScaresCardSaid : Prop := Claim7.holds Tryd.pinned (.plain (OpenSpec.ofChange fnExactUselessScaresSpec)) fnExactUselessScaresCard

/-- THE TIED CARD OF 'laws.FnExactCoverersOf'. -/
def fnExactCoverersOfCard : Claim7 := { stood := { row := fnExactCoverersOfRow, standIns := [], harness := (true, "7a2200b5278f65085a9624d6ebea4e787744d21a7c17fe6f443cc81c62e32d00"), looks := true }, kinds := [], alts := [], laidByText := true, laidKinds := [.sentinel, .sentinel, .sentinel, .sentinel, .sentinel, .sentinel, .sentinel, .sentinel], laidTests := true, laidLooks := .later }
def FnExactCoverersOfCardSaid : Prop := Claim7.holds Tryd.pinned (.plain (OpenSpec.ofChange fnExactCoverersOfSpec)) fnExactCoverersOfCard

/-- THE TIED CARD OF 'laws.FnExactCoverOf'. -/
def fnExactCoverOfCard : Claim7 := { stood := { row := fnExactCoverOfRow, standIns := [], harness := (true, "7a2200b5278f65085a9624d6ebea4e787744d21a7c17fe6f443cc81c62e32d00"), looks := true }, kinds := [], alts := [], laidByText := true, laidKinds := [.sentinel, .sentinel, .sentinel, .sentinel, .sentinel, .sentinel, .sentinel, .sentinel], laidTests := true, laidLooks := .later }
def FnExactCoverOfCardSaid : Prop := Claim7.holds Tryd.pinned (.plain (OpenSpec.ofChange fnExactCoverOfSpec)) fnExactCoverOfCard

/-- THE TIED CARD OF 'laws.FnExactMoveFlock'. -/
def fnExactMoveFlockCard : Claim7 := { stood := { row := fnExactMoveFlockRow, standIns := [], harness := (true, "7a2200b5278f65085a9624d6ebea4e787744d21a7c17fe6f443cc81c62e32d00"), looks := true }, kinds := [], alts := [], laidByText := true, laidKinds := [.sentinel, .sentinel, .sentinel, .sentinel, .sentinel, .sentinel, .sentinel, .sentinel, .data], laidTests := true, laidLooks := .later }
def FnExactMoveFlockCardSaid : Prop := Claim7.holds Tryd.pinned (.plain (OpenSpec.ofChange fnExactMoveFlockSpec)) fnExactMoveFlockCard

/-- THE TIED CARD OF 'laws.FnExactSplitFlock'. -/
def fnExactSplitFlockCard : Claim7 := { stood := { row := fnExactSplitFlockRow, standIns := [], harness := (true, "7a2200b5278f65085a9624d6ebea4e787744d21a7c17fe6f443cc81c62e32d00"), looks := true }, kinds := [], alts := [], laidByText := true, laidKinds := [.sentinel, .sentinel, .sentinel, .sentinel, .sentinel, .sentinel, .sentinel, .sentinel, .data], laidTests := true, laidLooks := .later }
def FnExactSplitFlockCardSaid : Prop := Claim7.holds Tryd.pinned (.plain (OpenSpec.ofChange fnExactSplitFlockSpec)) fnExactSplitFlockCard

/-- THE SECOND FORM's CARD OF 'laws.FnExactLongestSafe'. -/
def fnExactLongestSafeUptoCard : Claim7 := { stood := { row := fnExactLongestSafeUptoRow, standIns := [], harness := (true, "7a2200b5278f65085a9624d6ebea4e787744d21a7c17fe6f443cc81c62e32d00"), looks := true }, kinds := [], alts := [], laidByText := true, laidKinds := [.sentinel, .sentinel, .sentinel, .sentinel, .sentinel, .sentinel, .sentinel, .sentinel], laidTests := true, laidLooks := .later }
def FnExactLongestSafeUptoCardSaid : Prop := Claim7.holds Tryd.pinned (.plain (OpenSpec.upto fnExactLongestSafeSpec)) fnExactLongestSafeUptoCard

/-- THE SECOND FORM's CARD OF 'laws.FnExactUselessScares'. -/
def fnExactUselessScaresUptoCard : Claim7 := { stood := { row := fnExactUselessScaresUptoRow, standIns := [], harness := (true, "7a2200b5278f65085a9624d6ebea4e787744d21a7c17fe6f443cc81c62e32d00"), looks := true }, kinds := [], alts := [], laidByText := true, laidKinds := [.sentinel, .sentinel, .sentinel, .sentinel, .sentinel, .sentinel, .sentinel, .sentinel], laidTests := true, laidLooks := .later }
def FnExactUselessScaresUptoCardSaid : Prop := Claim7.holds Tryd.pinned (.plain (OpenSpec.upto fnExactUselessScaresSpec)) fnExactUselessScaresUptoCard

/-- THE SECOND FORM's CARD OF 'laws.FnExactCoverersOf'. -/
def fnExactCoverersOfUptoCard : Claim7 := { stood := { row := fnExactCoverersOfUptoRow, standIns := [], harness := (true, "7a2200b5278f65085a9624d6ebea4e787744d21a7c17fe6f443cc81c62e32d00"), looks := true }, kinds := [], alts := [], laidByText := true, laidKinds := [.sentinel, .sentinel, .sentinel, .sentinel, .sentinel, .sentinel, .sentinel, .sentinel], laidTests := true, laidLooks := .later }
def FnExactCoverersOfUptoCardSaid : Prop := Claim7.holds Tryd.pinned (.plain (OpenSpec.upto fnExactCoverersOfSpec)) fnExactCoverersOfUptoCard

/-- THE SECOND FORM's CARD OF 'laws.FnExactCoverOf'. -/
def fnExactCoverOfUptoCard : Claim7 := { stood := { row := fnExactCoverOfUptoRow, standIns := [], harness := (true, "7a2200b5278f65085a9624d6ebea4e787744d21a7c17fe6f443cc81c62e32d00"), looks := true }, kinds := [], alts := [], laidByText := true, laidKinds := [.sentinel, .sentinel, .sentinel, .sentinel, .sentinel, .sentinel, .sentinel, .sentinel], laidTests := true, laidLooks := .later }
def FnExactCoverOfUptoCardSaid : Prop := Claim7.holds Tryd.pinned (.plain (OpenSpec.upto fnExactCoverOfSpec)) fnExactCoverOfUptoCard

/-- THE SECOND FORM's CARD OF 'laws.FnExactMoveFlock'. -/
def fnExactMoveFlockUptoCard : Claim7 := { stood := { row := fnExactMoveFlockUptoRow, standIns := [], harness := (true, "7a2200b5278f65085a9624d6ebea4e787744d21a7c17fe6f443cc81c62e32d00"), looks := true }, kinds := [], alts := [], laidByText := true, laidKinds := [.sentinel, .sentinel, .sentinel, .sentinel, .sentinel, .sentinel, .sentinel, .sentinel, .data], laidTests := true, laidLooks := .later }
def FnExactMoveFlockUptoCardSaid : Prop := Claim7.holds Tryd.pinned (.plain (OpenSpec.upto fnExactMoveFlockSpec)) fnExactMoveFlockUptoCard

/-- THE SECOND FORM's CARD OF 'laws.FnExactSplitFlock'. -/
def fnExactSplitFlockUptoCard : Claim7 := { stood := { row := fnExactSplitFlockUptoRow, standIns := [], harness := (true, "7a2200b5278f65085a9624d6ebea4e787744d21a7c17fe6f443cc81c62e32d00"), looks := true }, kinds := [], alts := [], laidByText := true, laidKinds := [.sentinel, .sentinel, .sentinel, .sentinel, .sentinel, .sentinel, .sentinel, .sentinel, .data], laidTests := true, laidLooks := .later }
def FnExactSplitFlockUptoCardSaid : Prop := Claim7.holds Tryd.pinned (.plain (OpenSpec.upto fnExactSplitFlockSpec)) fnExactSplitFlockUptoCard
end Rows
end Go.Proofs.YtmdfmbkchiafhaaDoor
