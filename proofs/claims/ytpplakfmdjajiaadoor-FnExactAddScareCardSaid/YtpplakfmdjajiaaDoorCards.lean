/-
  DERIVED. GIVEN WITH THE SEED: THE CARDS: each row of YtpplakfmdjajiaaDoorRows.lean that lists a variable, with what it lists TIED to the program's text (the seventh form; the later family's looks); each row that meets fmt, with fmt's text TOLD by the authors' own Lean function (tested against real Go, not proved from fmt's source: count such statements apart). THE CARD IS WHAT COUNTS. Prove the row's statement (the work); the ties are given (YtpplakfmdjajiaaDoorTie.lean); close each card by the builder's one call (the guide's Derived/Test/ToyasCard.lean, 'card_holds'). Laid BY PROGRAM, IN A SANDBOX (cutbox-door.mjs). By AI agents, Wed Nov 11 2026. No macro, syntax, notation, axiom, sorry.
-/
import Derived.Test.YtpplakfmdjajiaaDoorRows
import GoSem.ClaimSeven
namespace Go.Proofs.YtpplakfmdjajiaaDoor
namespace Rows

/-- THE TIED CARD OF 'laws.FnExactFearMap'. -/
def fnExactFearMapCard : Claim7 := { stood := { row := fnExactFearMapRow, standIns := [], harness := (true, "2ef0efe3c10e24b18903b4a83b7c9f019ac16fe2d7bc9e790cc926e5091db74c"), looks := true }, kinds := [], alts := [], laidByText := true, laidKinds := [.sentinel, .sentinel, .sentinel, .sentinel, .sentinel, .sentinel, .sentinel, .sentinel], laidTests := true, laidLooks := .later }
def FnExactFearMapCardSaid : Prop := Claim7.holds Tryd.pinned (.plain (OpenSpec.ofChange fnExactFearMapSpec)) fnExactFearMapCard

/-- THE TIED CARD OF 'laws.FnExactAgeScares'. -/
def fnExactAgeScaresCard : Claim7 := { stood := { row := fnExactAgeScaresRow, standIns := [], harness := (true, "2ef0efe3c10e24b18903b4a83b7c9f019ac16fe2d7bc9e790cc926e5091db74c"), looks := true }, kinds := [], alts := [], laidByText := true, laidKinds := [.sentinel, .sentinel, .sentinel, .sentinel, .sentinel, .sentinel, .sentinel, .sentinel], laidTests := true, laidLooks := .later }
def FnExactAgeScaresCardSaid : Prop := Claim7.holds Tryd.pinned (.plain (OpenSpec.ofChange fnExactAgeScaresSpec)) fnExactAgeScaresCard

/-- THE TIED CARD OF 'laws.FnExactMoveScare'. -/
def fnExactMoveScareCard : Claim7 := { stood := { row := fnExactMoveScareRow, standIns := [], harness := (true, "2ef0efe3c10e24b18903b4a83b7c9f019ac16fe2d7bc9e790cc926e5091db74c"), looks := true }, kinds := [], alts := [], laidByText := true, laidKinds := [.sentinel, .sentinel, .sentinel, .sentinel, .sentinel, .sentinel, .sentinel, .sentinel], laidTests := true, laidLooks := .later }
def FnExactMoveScareCardSaid : Prop := Claim7.holds Tryd.pinned (.plain (OpenSpec.ofChange fnExactMoveScareSpec)) fnExactMoveScareCard

/-- THE TIED CARD OF 'laws.FnExactAddScare'. -/
def fnExactAddScareCard : Claim7 := { stood := { row := fnExactAddScareRow, standIns := [], harness := (true, "2ef0efe3c10e24b18903b4a83b7c9f019ac16fe2d7bc9e790cc926e5091db74c"), looks := true }, kinds := [], alts := [], laidByText := true, laidKinds := [.sentinel, .sentinel, .sentinel, .sentinel, .sentinel, .sentinel, .sentinel, .sentinel], laidTests := true, laidLooks := .later }
def FnExactAddScareCardSaid : Prop := Claim7.holds Tryd.pinned (.plain (OpenSpec.ofChange fnExactAddScareSpec)) fnExactAddScareCard

/-- THE TIED CARD OF 'laws.FnExactDaysSafe'. -/
def fnExactDaysSafeCard : Claim7 := { stood := { row := fnExactDaysSafeRow, standIns := [], harness := (true, "2ef0efe3c10e24b18903b4a83b7c9f019ac16fe2d7bc9e790cc926e5091db74c"), looks := true }, kinds := [], alts := [], laidByText := true, laidKinds := [.sentinel, .sentinel, .sentinel, .sentinel, .sentinel, .sentinel, .sentinel, .sentinel], laidTests := true, laidLooks := .later }
def FnExactDaysSafeCardSaid : Prop := Claim7.holds Tryd.pinned (.plain (OpenSpec.ofChange fnExactDaysSafeSpec)) fnExactDaysSafeCard

/-- THE TIED CARD OF 'laws.FnExactCoverOf'. -/
def fnExactCoverOfCard : Claim7 := { stood := { row := fnExactCoverOfRow, standIns := [], harness := (true, "2ef0efe3c10e24b18903b4a83b7c9f019ac16fe2d7bc9e790cc926e5091db74c"), looks := true }, kinds := [], alts := [], laidByText := true, laidKinds := [.sentinel, .sentinel, .sentinel, .sentinel, .sentinel, .sentinel, .sentinel, .sentinel], laidTests := true, laidLooks := .later }
def FnExactCoverOfCardSaid : Prop := Claim7.holds Tryd.pinned (.plain (OpenSpec.ofChange fnExactCoverOfSpec)) fnExactCoverOfCard

/-- THE TIED CARD OF 'laws.FnExactCoverersOf'. -/
def fnExactCoverersOfCard : Claim7 := { stood := { row := fnExactCoverersOfRow, standIns := [], harness := (true, "2ef0efe3c10e24b18903b4a83b7c9f019ac16fe2d7bc9e790cc926e5091db74c"), looks := true }, kinds := [], alts := [], laidByText := true, laidKinds := [.sentinel, .sentinel, .sentinel, .sentinel, .sentinel, .sentinel, .sentinel, .sentinel], laidTests := true, laidLooks := .later }
def FnExactCoverersOfCardSaid : Prop := Claim7.holds Tryd.pinned (.plain (OpenSpec.ofChange fnExactCoverersOfSpec)) fnExactCoverersOfCard

/-- THE TIED CARD OF 'laws.FnExactUselessScares'. -/
def fnExactUselessScaresCard : Claim7 := { stood := { row := fnExactUselessScaresRow, standIns := [], harness := (true, "2ef0efe3c10e24b18903b4a83b7c9f019ac16fe2d7bc9e790cc926e5091db74c"), looks := true }, kinds := [], alts := [], laidByText := true, laidKinds := [.sentinel, .sentinel, .sentinel, .sentinel, .sentinel, .sentinel, .sentinel, .sentinel], laidTests := true, laidLooks := .later }
def FnExactUselessScaresCardSaid : Prop := Claim7.holds Tryd.pinned (.plain (OpenSpec.ofChange fnExactUselessScaresSpec)) fnExactUselessScaresCard

/-- THE TIED CARD OF 'laws.FnExactLongestSafe'. -/
def fnExactLongestSafeCard : Claim7 := { stood := { row := fnExactLongestSafeRow, standIns := [], harness := (true, "2ef0efe3c10e24b18903b4a83b7c9f019ac16fe2d7bc9e790cc926e5091db74c"), looks := true }, kinds := [], alts := [], laidByText := true, laidKinds := [.sentinel, .sentinel, .sentinel, .sentinel, .sentinel, .sentinel, .sentinel, .sentinel], laidTests := true, laidLooks := .later }
def FnExactLongestSafeCardSaid : Prop := Claim7.holds Tryd.pinned (.plain (OpenSpec.ofChange fnExactLongestSafeSpec)) fnExactLongestSafeCard

/-- THE SECOND FORM's CARD OF 'laws.FnExactFearMap'. -/
def fnExactFearMapUptoCard : Claim7 := { stood := { row := fnExactFearMapUptoRow, standIns := [], harness := (true, "2ef0efe3c10e24b18903b4a83b7c9f019ac16fe2d7bc9e790cc926e5091db74c"), looks := true }, kinds := [], alts := [], laidByText := true, laidKinds := [.sentinel, .sentinel, .sentinel, .sentinel, .sentinel, .sentinel, .sentinel, .sentinel], laidTests := true, laidLooks := .later }
def FnExactFearMapUptoCardSaid : Prop := Claim7.holds Tryd.pinned (.plain (OpenSpec.upto fnExactFearMapSpec)) fnExactFearMapUptoCard

/-- THE SECOND FORM's CARD OF 'laws.FnExactAgeScares'. -/
def fnExactAgeScaresUptoCard : Claim7 := { stood := { row := fnExactAgeScaresUptoRow, standIns := [], harness := (true, "2ef0efe3c10e24b18903b4a83b7c9f019ac16fe2d7bc9e790cc926e5091db74c"), looks := true }, kinds := [], alts := [], laidByText := true, laidKinds := [.sentinel, .sentinel, .sentinel, .sentinel, .sentinel, .sentinel, .sentinel, .sentinel], laidTests := true, laidLooks := .later }
def FnExactAgeScaresUptoCardSaid : Prop := Claim7.holds Tryd.pinned (.plain (OpenSpec.upto fnExactAgeScaresSpec)) fnExactAgeScaresUptoCard

/-- THE SECOND FORM's CARD OF 'laws.FnExactMoveScare'. -/
def fnExactMoveScareUptoCard : Claim7 := { stood := { row := fnExactMoveScareUptoRow, standIns := [], harness := (true, "2ef0efe3c10e24b18903b4a83b7c9f019ac16fe2d7bc9e790cc926e5091db74c"), looks := true }, kinds := [], alts := [], laidByText := true, laidKinds := [.sentinel, .sentinel, .sentinel, .sentinel, .sentinel, .sentinel, .sentinel, .sentinel], laidTests := true, laidLooks := .later }
def FnExactMoveScareUptoCardSaid : Prop := Claim7.holds Tryd.pinned (.plain (OpenSpec.upto fnExactMoveScareSpec)) fnExactMoveScareUptoCard

/-- THE SECOND FORM's CARD OF 'laws.FnExactAddScare'. -/
def fnExactAddScareUptoCard : Claim7 := { stood := { row := fnExactAddScareUptoRow, standIns := [], harness := (true, "2ef0efe3c10e24b18903b4a83b7c9f019ac16fe2d7bc9e790cc926e5091db74c"), looks := true }, kinds := [], alts := [], laidByText := true, laidKinds := [.sentinel, .sentinel, .sentinel, .sentinel, .sentinel, .sentinel, .sentinel, .sentinel], laidTests := true, laidLooks := .later }
def FnExactAddScareUptoCardSaid : Prop := Claim7.holds Tryd.pinned (.plain (OpenSpec.upto fnExactAddScareSpec)) fnExactAddScareUptoCard

/-- THE SECOND FORM's CARD OF 'laws.FnExactDaysSafe'. -/
def fnExactDaysSafeUptoCard : Claim7 := { stood := { row := fnExactDaysSafeUptoRow, standIns := [], harness := (true, "2ef0efe3c10e24b18903b4a83b7c9f019ac16fe2d7bc9e790cc926e5091db74c"), looks := true }, kinds := [], alts := [], laidByText := true, laidKinds := [.sentinel, .sentinel, .sentinel, .sentinel, .sentinel, .sentinel, .sentinel, .sentinel], laidTests := true, laidLooks := .later }
def FnExactDaysSafeUptoCardSaid : Prop := Claim7.holds Tryd.pinned (.plain (OpenSpec.upto fnExactDaysSafeSpec)) fnExactDaysSafeUptoCard

/-- THE SECOND FORM's CARD OF 'laws.FnExactCoverOf'. -/
def fnExactCoverOfUptoCard : Claim7 := { stood := { row := fnExactCoverOfUptoRow, standIns := [], harness := (true, "2ef0efe3c10e24b18903b4a83b7c9f019ac16fe2d7bc9e790cc926e5091db74c"), looks := true }, kinds := [], alts := [], laidByText := true, laidKinds := [.sentinel, .sentinel, .sentinel, .sentinel, .sentinel, .sentinel, .sentinel, .sentinel], laidTests := true, laidLooks := .later }
def FnExactCoverOfUptoCardSaid : Prop := Claim7.holds Tryd.pinned (.plain (OpenSpec.upto fnExactCoverOfSpec)) fnExactCoverOfUptoCard

/-- THE SECOND FORM's CARD OF 'laws.FnExactCoverersOf'. -/
def fnExactCoverersOfUptoCard : Claim7 := { stood := { row := fnExactCoverersOfUptoRow, standIns := [], harness := (true, "2ef0efe3c10e24b18903b4a83b7c9f019ac16fe2d7bc9e790cc926e5091db74c"), looks := true }, kinds := [], alts := [], laidByText := true, laidKinds := [.sentinel, .sentinel, .sentinel, .sentinel, .sentinel, .sentinel, .sentinel, .sentinel], laidTests := true, laidLooks := .later }
def FnExactCoverersOfUptoCardSaid : Prop := Claim7.holds Tryd.pinned (.plain (OpenSpec.upto fnExactCoverersOfSpec)) fnExactCoverersOfUptoCard

/-- THE SECOND FORM's CARD OF 'laws.FnExactUselessScares'. -/
def fnExactUselessScaresUptoCard : Claim7 := { stood := { row := fnExactUselessScaresUptoRow, standIns := [], harness := (true, "2ef0efe3c10e24b18903b4a83b7c9f019ac16fe2d7bc9e790cc926e5091db74c"), looks := true }, kinds := [], alts := [], laidByText := true, laidKinds := [.sentinel, .sentinel, .sentinel, .sentinel, .sentinel, .sentinel, .sentinel, .sentinel], laidTests := true, laidLooks := .later }
def FnExactUselessScaresUptoCardSaid : Prop := Claim7.holds Tryd.pinned (.plain (OpenSpec.upto fnExactUselessScaresSpec)) fnExactUselessScaresUptoCard

/-- THE SECOND FORM's CARD OF 'laws.FnExactLongestSafe'. -/
def fnExactLongestSafeUptoCard : Claim7 := { stood := { row := fnExactLongestSafeUptoRow, standIns := [], harness := (true, "2ef0efe3c10e24b18903b4a83b7c9f019ac16fe2d7bc9e790cc926e5091db74c"), looks := true }, kinds := [], alts := [], laidByText := true, laidKinds := [.sentinel, .sentinel, .sentinel, .sentinel, .sentinel, .sentinel, .sentinel, .sentinel], laidTests := true, laidLooks := .later }
def FnExactLongestSafeUptoCardSaid : Prop := Claim7.holds Tryd.pinned (.plain (OpenSpec.upto fnExactLongestSafeSpec)) fnExactLongestSafeUptoCard
end Rows
end Go.Proofs.YtpplakfmdjajiaaDoor
