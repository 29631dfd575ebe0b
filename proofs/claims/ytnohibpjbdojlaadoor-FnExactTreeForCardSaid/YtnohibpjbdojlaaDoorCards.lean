/-
  DERIVED. GIVEN WITH THE SEED: THE CARDS: each row of YtnohibpjbdojlaaDoorRows.lean that lists a variable, with what it lists TIED to the program's text (the seventh form; the later family's looks); each row that meets fmt, with fmt's text TOLD by the authors' own Lean function (tested against real Go, not proved from fmt's source: count such statements apart). THE CARD IS WHAT COUNTS. Prove the row's statement (the work); the ties are given (YtnohibpjbdojlaaDoorTie.lean); close each card by the builder's one call (the guide's Derived/Test/ToyasCard.lean, 'card_holds'). Laid BY PROGRAM, IN A SANDBOX (cutbox-door.mjs). By AI agents, Wed Nov 11 2026. No macro, syntax, notation, axiom, sorry.
-/
import Derived.Test.YtnohibpjbdojlaaDoorRows
import GoSem.ClaimSeven
namespace Go.Proofs.YtnohibpjbdojlaaDoor
namespace Rows

/-- THE TIED CARD OF 'laws.FnExactRingOf'. -/
def fnExactRingOfCard : Claim7 := { stood := { row := fnExactRingOfRow, standIns := [], harness := (true, "5804fda7c2249e243213edeb0ebe7bc52657ee95944942ab8c5265b1948a4a9a"), looks := true }, kinds := [], alts := [], laidByText := true, laidKinds := [.sentinel, .sentinel, .sentinel, .sentinel, .sentinel, .sentinel, .sentinel, .sentinel], laidTests := true, laidLooks := .later }
def FnExactRingOfCardSaid : Prop := Claim7.holds Tryd.pinned (.plain (OpenSpec.ofChange fnExactRingOfSpec)) fnExactRingOfCard

/-- THE TIED CARD OF 'laws.FnExactNearestIn'. -/
def fnExactNearestInCard : Claim7 := { stood := { row := fnExactNearestInRow, standIns := [], harness := (true, "5804fda7c2249e243213edeb0ebe7bc52657ee95944942ab8c5265b1948a4a9a"), looks := true }, kinds := [], alts := [], laidByText := true, laidKinds := [.sentinel, .sentinel, .sentinel, .sentinel, .sentinel, .sentinel, .sentinel, .sentinel], laidTests := true, laidLooks := .later }
def FnExactNearestInCardSaid : Prop := Claim7.holds Tryd.pinned (.plain (OpenSpec.ofChange fnExactNearestInSpec)) fnExactNearestInCard

/-- THE TIED CARD OF 'laws.FnExactRichestIn'. -/
def fnExactRichestInCard : Claim7 := { stood := { row := fnExactRichestInRow, standIns := [], harness := (true, "5804fda7c2249e243213edeb0ebe7bc52657ee95944942ab8c5265b1948a4a9a"), looks := true }, kinds := [], alts := [], laidByText := true, laidKinds := [.sentinel, .sentinel, .sentinel, .sentinel, .sentinel, .sentinel, .sentinel, .sentinel], laidTests := true, laidLooks := .later }
def FnExactRichestInCardSaid : Prop := Claim7.holds Tryd.pinned (.plain (OpenSpec.ofChange fnExactRichestInSpec)) fnExactRichestInCard

/-- THE TIED CARD OF 'laws.FnExactTreeFor'. -/
def fnExactTreeForCard : Claim7 := { stood := { row := fnExactTreeForRow, standIns := [], harness := (true, "5804fda7c2249e243213edeb0ebe7bc52657ee95944942ab8c5265b1948a4a9a"), looks := true }, kinds := [], alts := [], laidByText := true, laidKinds := [.sentinel, .sentinel, .sentinel, .sentinel, .sentinel, .sentinel, .sentinel, .sentinel], laidTests := true, laidLooks := .later }
def FnExactTreeForCardSaid : Prop := Claim7.holds Tryd.pinned (.plain (OpenSpec.ofChange fnExactTreeForSpec)) fnExactTreeForCard

/-- THE SECOND FORM's CARD OF 'laws.FnExactRingOf'. -/
def fnExactRingOfUptoCard : Claim7 := { stood := { row := fnExactRingOfUptoRow, standIns := [], harness := (true, "5804fda7c2249e243213edeb0ebe7bc52657ee95944942ab8c5265b1948a4a9a"), looks := true }, kinds := [], alts := [], laidByText := true, laidKinds := [.sentinel, .sentinel, .sentinel, .sentinel, .sentinel, .sentinel, .sentinel, .sentinel], laidTests := true, laidLooks := .later }
def FnExactRingOfUptoCardSaid : Prop := Claim7.holds Tryd.pinned (.plain (OpenSpec.upto fnExactRingOfSpec)) fnExactRingOfUptoCard

/-- THE SECOND FORM's CARD OF 'laws.FnExactNearestIn'. -/
def fnExactNearestInUptoCard : Claim7 := { stood := { row := fnExactNearestInUptoRow, standIns := [], harness := (true, "5804fda7c2249e243213edeb0ebe7bc52657ee95944942ab8c5265b1948a4a9a"), looks := true }, kinds := [], alts := [], laidByText := true, laidKinds := [.sentinel, .sentinel, .sentinel, .sentinel, .sentinel, .sentinel, .sentinel, .sentinel], laidTests := true, laidLooks := .later }
def FnExactNearestInUptoCardSaid : Prop := Claim7.holds Tryd.pinned (.plain (OpenSpec.upto fnExactNearestInSpec)) fnExactNearestInUptoCard

/-- THE SECOND FORM's CARD OF 'laws.FnExactRichestIn'. -/
def fnExactRichestInUptoCard : Claim7 := { stood := { row := fnExactRichestInUptoRow, standIns := [], harness := (true, "5804fda7c2249e243213edeb0ebe7bc52657ee95944942ab8c5265b1948a4a9a"), looks := true }, kinds := [], alts := [], laidByText := true, laidKinds := [.sentinel, .sentinel, .sentinel, .sentinel, .sentinel, .sentinel, .sentinel, .sentinel], laidTests := true, laidLooks := .later }
def FnExactRichestInUptoCardSaid : Prop := Claim7.holds Tryd.pinned (.plain (OpenSpec.upto fnExactRichestInSpec)) fnExactRichestInUptoCard

/-- THE SECOND FORM's CARD OF 'laws.FnExactTreeFor'. -/
def fnExactTreeForUptoCard : Claim7 := { stood := { row := fnExactTreeForUptoRow, standIns := [], harness := (true, "5804fda7c2249e243213edeb0ebe7bc52657ee95944942ab8c5265b1948a4a9a"), looks := true }, kinds := [], alts := [], laidByText := true, laidKinds := [.sentinel, .sentinel, .sentinel, .sentinel, .sentinel, .sentinel, .sentinel, .sentinel], laidTests := true, laidLooks := .later }
def FnExactTreeForUptoCardSaid : Prop := Claim7.holds Tryd.pinned (.plain (OpenSpec.upto fnExactTreeForSpec)) fnExactTreeForUptoCard
end Rows
end Go.Proofs.YtnohibpjbdojlaaDoor
