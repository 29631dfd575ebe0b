/-
  DERIVED. GIVEN WITH THE SEED: THE CARDS: each row of YtgnfpmpjmliegaaDoorRows.lean that lists a variable, with what it lists TIED to the program's text (the seventh form; the later family's looks); each row that meets fmt, with fmt's text TOLD by the authors' own Lean function (tested against real Go, not proved from fmt's source: count such statements apart). THE CARD IS WHAT COUNTS. Prove the row's statement (the work); the ties are given (YtgnfpmpjmliegaaDoorTie.lean); close each card by the builder's one call (the guide's Derived/Test/ToyasCard.lean, 'card_holds'). Laid BY PROGRAM, IN A SANDBOX (cutbox-door.mjs). By AI agents, Wed Nov 11 2026. No macro, syntax, notation, axiom, sorry.
-/
import Derived.Test.YtgnfpmpjmliegaaDoorRows
import GoSem.ClaimSeven
namespace Go.Proofs.YtgnfpmpjmliegaaDoor
namespace Rows

/-- THE TIED CARD OF 'laws.FnExactFairClaims'. -/
def fnExactFairClaimsCard : Claim7 := { stood := { row := fnExactFairClaimsRow, standIns := [], harness := (true, "a18e0e771a8681fbc84763602cc3e957ee2f5366bf5cbfeea28f1b95c0f9a8c9"), looks := true }, kinds := [], alts := [], laidByText := true, laidKinds := [.sentinel, .sentinel, .sentinel, .sentinel, .sentinel, .sentinel, .sentinel, .sentinel], laidTests := true, laidLooks := .later }
def FnExactFairClaimsCardSaid : Prop := Claim7.holds Tryd.pinned (.plain (OpenSpec.ofChange fnExactFairClaimsSpec)) fnExactFairClaimsCard

/-- THE TIED CARD OF 'laws.FnExactFalseClaims'. -/
def fnExactFalseClaimsCard : Claim7 := { stood := { row := fnExactFalseClaimsRow, standIns := [], harness := (true, "a18e0e771a8681fbc84763602cc3e957ee2f5366bf5cbfeea28f1b95c0f9a8c9"), looks := true }, kinds := [], alts := [], laidByText := true, laidKinds := [.sentinel, .sentinel, .sentinel, .sentinel, .sentinel, .sentinel, .sentinel, .sentinel], laidTests := true, laidLooks := .later }
def FnExactFalseClaimsCardSaid : Prop := Claim7.holds Tryd.pinned (.plain (OpenSpec.ofChange fnExactFalseClaimsSpec)) fnExactFalseClaimsCard

/-- THE SECOND FORM's CARD OF 'laws.FnExactFairClaims'. -/
def fnExactFairClaimsUptoCard : Claim7 := { stood := { row := fnExactFairClaimsUptoRow, standIns := [], harness := (true, "a18e0e771a8681fbc84763602cc3e957ee2f5366bf5cbfeea28f1b95c0f9a8c9"), looks := true }, kinds := [], alts := [], laidByText := true, laidKinds := [.sentinel, .sentinel, .sentinel, .sentinel, .sentinel, .sentinel, .sentinel, .sentinel], laidTests := true, laidLooks := .later }
def FnExactFairClaimsUptoCardSaid : Prop := Claim7.holds Tryd.pinned (.plain (OpenSpec.upto fnExactFairClaimsSpec)) fnExactFairClaimsUptoCard

/-- THE SECOND FORM's CARD OF 'laws.FnExactFalseClaims'. -/
def fnExactFalseClaimsUptoCard : Claim7 := { stood := { row := fnExactFalseClaimsUptoRow, standIns := [], harness := (true, "a18e0e771a8681fbc84763602cc3e957ee2f5366bf5cbfeea28f1b95c0f9a8c9"), looks := true }, kinds := [], alts := [], laidByText := true, laidKinds := [.sentinel, .sentinel, .sentinel, .sentinel, .sentinel, .sentinel, .sentinel, .sentinel], laidTests := true, laidLooks := .later }
def FnExactFalseClaimsUptoCardSaid : Prop := Claim7.holds Tryd.pinned (.plain (OpenSpec.upto fnExactFalseClaimsSpec)) fnExactFalseClaimsUptoCard
end Rows
end Go.Proofs.YtgnfpmpjmliegaaDoor
