/-
  DERIVED. GIVEN WITH THE SEED: THE CARDS: each row of YtfchbdbfokpcdaaDoorRows.lean that lists a variable, with what it lists TIED to the program's text (the seventh form; the later family's looks); each row that meets fmt, with fmt's text TOLD by the authors' own Lean function (tested against real Go, not proved from fmt's source: count such statements apart). THE CARD IS WHAT COUNTS. Prove the row's statement (the work); the ties are given (YtfchbdbfokpcdaaDoorTie.lean); close each card by the builder's one call (the guide's Derived/Test/ToyasCard.lean, 'card_holds'). Laid BY PROGRAM, IN A SANDBOX (cutbox-door.mjs). By AI agents, Wed Nov 11 2026. No macro, syntax, notation, axiom, sorry.
-/
import Derived.Test.YtfchbdbfokpcdaaDoorRows
import GoSem.ClaimSeven
namespace Go.Proofs.YtfchbdbfokpcdaaDoor
namespace Rows

/-- THE TIED CARD OF 'laws.FnExactGapOf'. -/
def fnExactGapOfCard : Claim7 := { stood := { row := fnExactGapOfRow, standIns := [], harness := (true, "52de9d8b331e24a073cbebc989053c9d0596b8c9fd5a37d67686dd42761999df"), looks := true }, kinds := [], alts := [], laidByText := true, laidKinds := [.sentinel, .sentinel, .sentinel, .sentinel, .sentinel, .sentinel, .sentinel, .sentinel], laidTests := true, laidLooks := .later }
def FnExactGapOfCardSaid : Prop := Claim7.holds Tryd.pinned (.plain (OpenSpec.ofChange fnExactGapOfSpec)) fnExactGapOfCard

/-- THE TIED CARD OF 'laws.FnExactGapWith'. -/
def fnExactGapWithCard : Claim7 := { stood := { row := fnExactGapWithRow, standIns := [], harness := (true, "52de9d8b331e24a073cbebc989053c9d0596b8c9fd5a37d67686dd42761999df"), looks := true }, kinds := [], alts := [], laidByText := true, laidKinds := [.sentinel, .sentinel, .sentinel, .sentinel, .sentinel, .sentinel, .sentinel, .sentinel], laidTests := true, laidLooks := .later }
def FnExactGapWithCardSaid : Prop := Claim7.holds Tryd.pinned (.plain (OpenSpec.ofChange fnExactGapWithSpec)) fnExactGapWithCard

/-- THE TIED CARD OF 'laws.FnExactWorstGap'. -/
def fnExactWorstGapCard : Claim7 := { stood := { row := fnExactWorstGapRow, standIns := [], harness := (true, "52de9d8b331e24a073cbebc989053c9d0596b8c9fd5a37d67686dd42761999df"), looks := true }, kinds := [], alts := [], laidByText := true, laidKinds := [.sentinel, .sentinel, .sentinel, .sentinel, .sentinel, .sentinel, .sentinel, .sentinel], laidTests := true, laidLooks := .later }
def FnExactWorstGapCardSaid : Prop := Claim7.holds Tryd.pinned (.plain (OpenSpec.ofChange fnExactWorstGapSpec)) fnExactWorstGapCard

/-- THE SECOND FORM's CARD OF 'laws.FnExactGapOf'. -/
def fnExactGapOfUptoCard : Claim7 := { stood := { row := fnExactGapOfUptoRow, standIns := [], harness := (true, "52de9d8b331e24a073cbebc989053c9d0596b8c9fd5a37d67686dd42761999df"), looks := true }, kinds := [], alts := [], laidByText := true, laidKinds := [.sentinel, .sentinel, .sentinel, .sentinel, .sentinel, .sentinel, .sentinel, .sentinel], laidTests := true, laidLooks := .later }
def FnExactGapOfUptoCardSaid : Prop := Claim7.holds Tryd.pinned (.plain (OpenSpec.upto fnExactGapOfSpec)) fnExactGapOfUptoCard

/-- THE SECOND FORM's CARD OF 'laws.FnExactGapWith'. -/
def fnExactGapWithUptoCard : Claim7 := { stood := { row := fnExactGapWithUptoRow, standIns := [], harness := (true, "52de9d8b331e24a073cbebc989053c9d0596b8c9fd5a37d67686dd42761999df"), looks := true }, kinds := [], alts := [], laidByText := true, laidKinds := [.sentinel, .sentinel, .sentinel, .sentinel, .sentinel, .sentinel, .sentinel, .sentinel], laidTests := true, laidLooks := .later }
def FnExactGapWithUptoCardSaid : Prop := Claim7.holds Tryd.pinned (.plain (OpenSpec.upto fnExactGapWithSpec)) fnExactGapWithUptoCard

/-- THE SECOND FORM's CARD OF 'laws.FnExactWorstGap'. -/
def fnExactWorstGapUptoCard : Claim7 := { stood := { row := fnExactWorstGapUptoRow, standIns := [], harness := (true, "52de9d8b331e24a073cbebc989053c9d0596b8c9fd5a37d67686dd42761999df"), looks := true }, kinds := [], alts := [], laidByText := true, laidKinds := [.sentinel, .sentinel, .sentinel, .sentinel, .sentinel, .sentinel, .sentinel, .sentinel], laidTests := true, laidLooks := .later }
def FnExactWorstGapUptoCardSaid : Prop := Claim7.holds Tryd.pinned (.plain (OpenSpec.upto fnExactWorstGapSpec)) fnExactWorstGapUptoCard
end Rows
end Go.Proofs.YtfchbdbfokpcdaaDoor
