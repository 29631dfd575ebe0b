/-
  DERIVED. GIVEN WITH THE SEED: THE CARDS: each row of YtniibbgcdaijfaaDoorRows.lean that lists a variable, with what it lists TIED to the program's text (the seventh form; the later family's looks); each row that meets fmt, with fmt's text TOLD by the authors' own Lean function (tested against real Go, not proved from fmt's source: count such statements apart). THE CARD IS WHAT COUNTS. Prove the row's statement (the work); the ties are given (YtniibbgcdaijfaaDoorTie.lean); close each card by the builder's one call (the guide's Derived/Test/ToyasCard.lean, 'card_holds'). Laid BY PROGRAM, IN A SANDBOX (cutbox-door.mjs). By AI agents, Wed Nov 11 2026. No macro, syntax, notation, axiom, sorry.
-/
import Derived.Test.YtniibbgcdaijfaaDoorRows
import GoSem.ClaimSeven
namespace Go.Proofs.YtniibbgcdaijfaaDoor
namespace Rows

/-- THE TIED CARD OF 'laws.FnExactCheckNets'. -/
def fnExactCheckNetsCard : Claim7 := { stood := { row := fnExactCheckNetsRow, standIns := [], harness := (true, "c251b8b43cdf61519e6aff0753de74087e6c7a82796baa3217c1858a32238c19"), looks := true }, kinds := [], alts := [], laidByText := true, laidKinds := [.sentinel, .sentinel, .sentinel, .sentinel, .sentinel, .sentinel, .sentinel, .sentinel], laidTests := true, laidLooks := .later }
def FnExactCheckNetsCardSaid : Prop := Claim7.holds Tryd.pinned (.plain (OpenSpec.ofChange fnExactCheckNetsSpec)) fnExactCheckNetsCard

/-- THE TIED CARD OF 'laws.FnExactFirstBare'. -/
def fnExactFirstBareCard : Claim7 := { stood := { row := fnExactFirstBareRow, standIns := [], harness := (true, "c251b8b43cdf61519e6aff0753de74087e6c7a82796baa3217c1858a32238c19"), looks := true }, kinds := [], alts := [], laidByText := true, laidKinds := [.sentinel, .sentinel, .sentinel, .sentinel, .sentinel, .sentinel, .sentinel, .sentinel], laidTests := true, laidLooks := .later }
def FnExactFirstBareCardSaid : Prop := Claim7.holds Tryd.pinned (.plain (OpenSpec.ofChange fnExactFirstBareSpec)) fnExactFirstBareCard

/-- THE TIED CARD OF 'laws.FnExactHolesToMend'. -/
def fnExactHolesToMendCard : Claim7 := { stood := { row := fnExactHolesToMendRow, standIns := [], harness := (true, "c251b8b43cdf61519e6aff0753de74087e6c7a82796baa3217c1858a32238c19"), looks := true }, kinds := [], alts := [], laidByText := true, laidKinds := [.sentinel, .sentinel, .sentinel, .sentinel, .sentinel, .sentinel, .sentinel, .sentinel], laidTests := true, laidLooks := .later }
def FnExactHolesToMendCardSaid : Prop := Claim7.holds Tryd.pinned (.plain (OpenSpec.ofChange fnExactHolesToMendSpec)) fnExactHolesToMendCard

/-- THE SECOND FORM's CARD OF 'laws.FnExactCheckNets'. -/
def fnExactCheckNetsUptoCard : Claim7 := { stood := { row := fnExactCheckNetsUptoRow, standIns := [], harness := (true, "c251b8b43cdf61519e6aff0753de74087e6c7a82796baa3217c1858a32238c19"), looks := true }, kinds := [], alts := [], laidByText := true, laidKinds := [.sentinel, .sentinel, .sentinel, .sentinel, .sentinel, .sentinel, .sentinel, .sentinel], laidTests := true, laidLooks := .later }
def FnExactCheckNetsUptoCardSaid : Prop := Claim7.holds Tryd.pinned (.plain (OpenSpec.upto fnExactCheckNetsSpec)) fnExactCheckNetsUptoCard

/-- THE SECOND FORM's CARD OF 'laws.FnExactFirstBare'. -/
def fnExactFirstBareUptoCard : Claim7 := { stood := { row := fnExactFirstBareUptoRow, standIns := [], harness := (true, "c251b8b43cdf61519e6aff0753de74087e6c7a82796baa3217c1858a32238c19"), looks := true }, kinds := [], alts := [], laidByText := true, laidKinds := [.sentinel, .sentinel, .sentinel, .sentinel, .sentinel, .sentinel, .sentinel, .sentinel], laidTests := true, laidLooks := .later }
def FnExactFirstBareUptoCardSaid : Prop := Claim7.holds Tryd.pinned (.plain (OpenSpec.upto fnExactFirstBareSpec)) fnExactFirstBareUptoCard

/-- THE SECOND FORM's CARD OF 'laws.FnExactHolesToMend'. -/
def fnExactHolesToMendUptoCard : Claim7 := { stood := { row := fnExactHolesToMendUptoRow, standIns := [], harness := (true, "c251b8b43cdf61519e6aff0753de74087e6c7a82796baa3217c1858a32238c19"), looks := true }, kinds := [], alts := [], laidByText := true, laidKinds := [.sentinel, .sentinel, .sentinel, .sentinel, .sentinel, .sentinel, .sentinel, .sentinel], laidTests := true, laidLooks := .later }
def FnExactHolesToMendUptoCardSaid : Prop := Claim7.holds Tryd.pinned (.plain (OpenSpec.upto fnExactHolesToMendSpec)) fnExactHolesToMendUptoCard
end Rows
end Go.Proofs.YtniibbgcdaijfaaDoor
