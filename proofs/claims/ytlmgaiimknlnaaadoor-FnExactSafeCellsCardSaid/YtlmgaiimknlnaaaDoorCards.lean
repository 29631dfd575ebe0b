/-
  DERIVED. GIVEN WITH THE SEED: THE CARDS: each row of YtlmgaiimknlnaaaDoorRows.lean that lists a variable, with what it lists TIED to the program's text (the seventh form; the later family's looks); each row that meets fmt, with fmt's text TOLD by the authors' own Lean function (tested against real Go, not proved from fmt's source: count such statements apart). THE CARD IS WHAT COUNTS. Prove the row's statement (the work); the ties are given (YtlmgaiimknlnaaaDoorTie.lean); close each card by the builder's one call (the guide's Derived/Test/ToyasCard.lean, 'card_holds'). Laid BY PROGRAM, IN A SANDBOX (cutbox-door.mjs). By AI agents, Wed Nov 11 2026. No macro, syntax, notation, axiom, sorry.
-/
import Derived.Test.YtlmgaiimknlnaaaDoorRows
import GoSem.ClaimSeven
namespace Go.Proofs.YtlmgaiimknlnaaaDoor
namespace Rows

/-- THE TIED CARD OF 'laws.FnExactFearOf'. -/
def fnExactFearOfCard : Claim7 := { stood := { row := fnExactFearOfRow, standIns := [], harness := (true, "66e95cc04480d38ff5181779d497abbab39ccf8fda6750a6b8ed6ad05f0581d9"), looks := true }, kinds := [], alts := [], laidByText := true, laidKinds := [.sentinel, .sentinel, .sentinel, .sentinel, .sentinel, .sentinel, .sentinel, .sentinel], laidTests := true, laidLooks := .later }
def FnExactFearOfCardSaid : Prop := Claim7.holds Tryd.pinned (.plain (OpenSpec.ofChange fnExactFearOfSpec)) fnExactFearOfCard

/-- THE TIED CARD OF 'laws.FnExactFearMap'. -/
def fnExactFearMapCard : Claim7 := { stood := { row := fnExactFearMapRow, standIns := [], harness := (true, "66e95cc04480d38ff5181779d497abbab39ccf8fda6750a6b8ed6ad05f0581d9"), looks := true }, kinds := [], alts := [], laidByText := true, laidKinds := [.sentinel, .sentinel, .sentinel, .sentinel, .sentinel, .sentinel, .sentinel, .sentinel], laidTests := true, laidLooks := .later }
def FnExactFearMapCardSaid : Prop := Claim7.holds Tryd.pinned (.plain (OpenSpec.ofChange fnExactFearMapSpec)) fnExactFearMapCard

/-- THE TIED CARD OF 'laws.FnExactSafeCells'. -/
def fnExactSafeCellsCard : Claim7 := { stood := { row := fnExactSafeCellsRow, standIns := [], harness := (true, "66e95cc04480d38ff5181779d497abbab39ccf8fda6750a6b8ed6ad05f0581d9"), looks := true }, kinds := [], alts := [], laidByText := true, laidKinds := [.sentinel, .sentinel, .sentinel, .sentinel, .sentinel, .sentinel, .sentinel, .sentinel], laidTests := true, laidLooks := .later }
def FnExactSafeCellsCardSaid : Prop := Claim7.holds Tryd.pinned (.plain (OpenSpec.ofChange fnExactSafeCellsSpec)) fnExactSafeCellsCard

/-- THE TIED CARD OF 'laws.FnExactDaysSafe'. -/
def fnExactDaysSafeCard : Claim7 := { stood := { row := fnExactDaysSafeRow, standIns := [], harness := (true, "66e95cc04480d38ff5181779d497abbab39ccf8fda6750a6b8ed6ad05f0581d9"), looks := true }, kinds := [], alts := [], laidByText := true, laidKinds := [.sentinel, .sentinel, .sentinel, .sentinel, .sentinel, .sentinel, .sentinel, .sentinel], laidTests := true, laidLooks := .later }
def FnExactDaysSafeCardSaid : Prop := Claim7.holds Tryd.pinned (.plain (OpenSpec.ofChange fnExactDaysSafeSpec)) fnExactDaysSafeCard

/-- THE TIED CARD OF 'laws.FnExactLongestSafe'. -/
def fnExactLongestSafeCard : Claim7 := { stood := { row := fnExactLongestSafeRow, standIns := [], harness := (true, "66e95cc04480d38ff5181779d497abbab39ccf8fda6750a6b8ed6ad05f0581d9"), looks := true }, kinds := [], alts := [], laidByText := true, laidKinds := [.sentinel, .sentinel, .sentinel, .sentinel, .sentinel, .sentinel, .sentinel, .sentinel], laidTests := true, laidLooks := .later }
def FnExactLongestSafeCardSaid : Prop := Claim7.holds Tryd.pinned (.plain (OpenSpec.ofChange fnExactLongestSafeSpec)) fnExactLongestSafeCard

/-- THE TIED CARD OF 'laws.FnExactCoverOf'. -/
def fnExactCoverOfCard : Claim7 := { stood := { row := fnExactCoverOfRow, standIns := [], harness := (true, "66e95cc04480d38ff5181779d497abbab39ccf8fda6750a6b8ed6ad05f0581d9"), looks := true }, kinds := [], alts := [], laidByText := true, laidKinds := [.sentinel, .sentinel, .sentinel, .sentinel, .sentinel, .sentinel, .sentinel, .sentinel], laidTests := true, laidLooks := .later }
def FnExactCoverOfCardSaid : Prop := Claim7.holds Tryd.pinned (.plain (OpenSpec.ofChange fnExactCoverOfSpec)) fnExactCoverOfCard

/-- THE TIED CARD OF 'laws.FnExactCoverersOf'. -/
def fnExactCoverersOfCard : Claim7 := { stood := { row := fnExactCoverersOfRow, standIns := [], harness := (true, "66e95cc04480d38ff5181779d497abbab39ccf8fda6750a6b8ed6ad05f0581d9"), looks := true }, kinds := [], alts := [], laidByText := true, laidKinds := [.sentinel, .sentinel, .sentinel, .sentinel, .sentinel, .sentinel, .sentinel, .sentinel], laidTests := true, laidLooks := .later }
def FnExactCoverersOfCardSaid : Prop := Claim7.holds Tryd.pinned (.plain (OpenSpec.ofChange fnExactCoverersOfSpec)) fnExactCoverersOfCard

/-- THE SECOND FORM's CARD OF 'laws.FnExactFearOf'. -/
def fnExactFearOfUptoCard : Claim7 := { stood := { row := fnExactFearOfUptoRow, standIns := [], harness := (true, "66e95cc04480d38ff5181779d497abbab39ccf8fda6750a6b8ed6ad05f0581d9"), looks := true }, kinds := [], alts := [], laidByText := true, laidKinds := [.sentinel, .sentinel, .sentinel, .sentinel, .sentinel, .sentinel, .sentinel, .sentinel], laidTests := true, laidLooks := .later }
def FnExactFearOfUptoCardSaid : Prop := Claim7.holds Tryd.pinned (.plain (OpenSpec.upto fnExactFearOfSpec)) fnExactFearOfUptoCard

/-- THE SECOND FORM's CARD OF 'laws.FnExactFearMap'. -/
def fnExactFearMapUptoCard : Claim7 := { stood := { row := fnExactFearMapUptoRow, standIns := [], harness := (true, "66e95cc04480d38ff5181779d497abbab39ccf8fda6750a6b8ed6ad05f0581d9"), looks := true }, kinds := [], alts := [], laidByText := true, laidKinds := [.sentinel, .sentinel, .sentinel, .sentinel, .sentinel, .sentinel, .sentinel, .sentinel], laidTests := true, laidLooks := .later }
def FnExactFearMapUptoCardSaid : Prop := Claim7.holds Tryd.pinned (.plain (OpenSpec.upto fnExactFearMapSpec)) fnExactFearMapUptoCard

/-- THE SECOND FORM's CARD OF 'laws.FnExactSafeCells'. -/
def fnExactSafeCellsUptoCard : Claim7 := { stood := { row := fnExactSafeCellsUptoRow, standIns := [], harness := (true, "66e95cc04480d38ff5181779d497abbab39ccf8fda6750a6b8ed6ad05f0581d9"), looks := true }, kinds := [], alts := [], laidByText := true, laidKinds := [.sentinel, .sentinel, .sentinel, .sentinel, .sentinel, .sentinel, .sentinel, .sentinel], laidTests := true, laidLooks := .later }
def FnExactSafeCellsUptoCardSaid : Prop := Claim7.holds Tryd.pinned (.plain (OpenSpec.upto fnExactSafeCellsSpec)) fnExactSafeCellsUptoCard

/-- THE SECOND FORM's CARD OF 'laws.FnExactDaysSafe'. -/
def fnExactDaysSafeUptoCard : Claim7 := { stood := { row := fnExactDaysSafeUptoRow, standIns := [], harness := (true, "66e95cc04480d38ff5181779d497abbab39ccf8fda6750a6b8ed6ad05f0581d9"), looks := true }, kinds := [], alts := [], laidByText := true, laidKinds := [.sentinel, .sentinel, .sentinel, .sentinel, .sentinel, .sentinel, .sentinel, .sentinel], laidTests := true, laidLooks := .later }
def FnExactDaysSafeUptoCardSaid : Prop := Claim7.holds Tryd.pinned (.plain (OpenSpec.upto fnExactDaysSafeSpec)) fnExactDaysSafeUptoCard

/-- THE SECOND FORM's CARD OF 'laws.FnExactLongestSafe'. -/
def fnExactLongestSafeUptoCard : Claim7 := { stood := { row := fnExactLongestSafeUptoRow, standIns := [], harness := (true, "66e95cc04480d38ff5181779d497abbab39ccf8fda6750a6b8ed6ad05f0581d9"), looks := true }, kinds := [], alts := [], laidByText := true, laidKinds := [.sentinel, .sentinel, .sentinel, .sentinel, .sentinel, .sentinel, .sentinel, .sentinel], laidTests := true, laidLooks := .later }
def FnExactLongestSafeUptoCardSaid : Prop := Claim7.holds Tryd.pinned (.plain (OpenSpec.upto fnExactLongestSafeSpec)) fnExactLongestSafeUptoCard

/-- THE SECOND FORM's CARD OF 'laws.FnExactCoverOf'. -/
def fnExactCoverOfUptoCard : Claim7 := { stood := { row := fnExactCoverOfUptoRow, standIns := [], harness := (true, "66e95cc04480d38ff5181779d497abbab39ccf8fda6750a6b8ed6ad05f0581d9"), looks := true }, kinds := [], alts := [], laidByText := true, laidKinds := [.sentinel, .sentinel, .sentinel, .sentinel, .sentinel, .sentinel, .sentinel, .sentinel], laidTests := true, laidLooks := .later }
def FnExactCoverOfUptoCardSaid : Prop := Claim7.holds Tryd.pinned (.plain (OpenSpec.upto fnExactCoverOfSpec)) fnExactCoverOfUptoCard

/-- THE SECOND FORM's CARD OF 'laws.FnExactCoverersOf'. -/
def fnExactCoverersOfUptoCard : Claim7 := { stood := { row := fnExactCoverersOfUptoRow, standIns := [], harness := (true, "66e95cc04480d38ff5181779d497abbab39ccf8fda6750a6b8ed6ad05f0581d9"), looks := true }, kinds := [], alts := [], laidByText := true, laidKinds := [.sentinel, .sentinel, .sentinel, .sentinel, .sentinel, .sentinel, .sentinel, .sentinel], laidTests := true, laidLooks := .later }
def FnExactCoverersOfUptoCardSaid : Prop := Claim7.holds Tryd.pinned (.plain (OpenSpec.upto fnExactCoverersOfSpec)) fnExactCoverersOfUptoCard
end Rows
end Go.Proofs.YtlmgaiimknlnaaaDoor
