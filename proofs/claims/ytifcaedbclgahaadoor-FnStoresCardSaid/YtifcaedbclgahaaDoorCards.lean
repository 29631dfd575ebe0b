/-
  DERIVED. GIVEN WITH THE SEED: THE CARDS: each row of YtifcaedbclgahaaDoorRows.lean that lists a variable, with what it lists TIED to the program's text (the seventh form; the later family's looks); each row that meets fmt, with fmt's text TOLD by the authors' own Lean function (tested against real Go, not proved from fmt's source: count such statements apart). THE CARD IS WHAT COUNTS. Prove the row's statement (the work); the ties are given (YtifcaedbclgahaaDoorTie.lean); close each card by the builder's one call (the guide's Derived/Test/ToyasCard.lean, 'card_holds'). Laid BY PROGRAM, IN A SANDBOX (cutbox-door.mjs). By AI agents, Wed Nov 11 2026. No macro, syntax, notation, axiom, sorry.
-/
import Derived.Test.YtifcaedbclgahaaDoorRows
import GoSem.ClaimSeven
namespace Go.Proofs.YtifcaedbclgahaaDoor
namespace Rows

/-- THE TIED CARD OF 'laws.FnStores'. -/
def fnStoresCard : Claim7 := { stood := { row := fnStoresRow, standIns := [], harness := (true, "3d2a1b4714f0aa8a9fb950be43ec65c3a0c21ff642a559f57f0f2617afb82309"), looks := true }, kinds := [], alts := [], laidByText := true, laidKinds := [.sentinel, .sentinel, .sentinel, .sentinel, .sentinel, .sentinel, .sentinel, .sentinel], laidTests := true, laidLooks := .later }
def FnStoresCardSaid : Prop := Claim7.holds Tryd.pinned (.plain (OpenSpec.ofChange fnStoresSpec)) fnStoresCard

/-- THE TIED CARD OF 'laws.FnExactStoreAfter'. -/
def fnExactStoreAfterCard : Claim7 := { stood := { row := fnExactStoreAfterRow, standIns := [], harness := (true, "3d2a1b4714f0aa8a9fb950be43ec65c3a0c21ff642a559f57f0f2617afb82309"), looks := true }, kinds := [], alts := [], laidByText := true, laidKinds := [.sentinel, .sentinel, .sentinel, .sentinel, .sentinel, .sentinel, .sentinel, .sentinel], laidTests := true, laidLooks := .later }
def FnExactStoreAfterCardSaid : Prop := Claim7.holds Tryd.pinned (.plain (OpenSpec.ofChange fnExactStoreAfterSpec)) fnExactStoreAfterCard

/-- THE TIED CARD OF 'laws.FnExactDaysOfStore'. -/
def fnExactDaysOfStoreCard : Claim7 := { stood := { row := fnExactDaysOfStoreRow, standIns := [], harness := (true, "3d2a1b4714f0aa8a9fb950be43ec65c3a0c21ff642a559f57f0f2617afb82309"), looks := true }, kinds := [], alts := [], laidByText := true, laidKinds := [.sentinel, .sentinel, .sentinel, .sentinel, .sentinel, .sentinel, .sentinel, .sentinel], laidTests := true, laidLooks := .later }
def FnExactDaysOfStoreCardSaid : Prop := Claim7.holds Tryd.pinned (.plain (OpenSpec.ofChange fnExactDaysOfStoreSpec)) fnExactDaysOfStoreCard

/-- THE SECOND FORM's CARD OF 'laws.FnStores'. -/
def fnStoresUptoCard : Claim7 := { stood := { row := fnStoresUptoRow, standIns := [], harness := (true, "3d2a1b4714f0aa8a9fb950be43ec65c3a0c21ff642a559f57f0f2617afb82309"), looks := true }, kinds := [], alts := [], laidByText := true, laidKinds := [.sentinel, .sentinel, .sentinel, .sentinel, .sentinel, .sentinel, .sentinel, .sentinel], laidTests := true, laidLooks := .later }
def FnStoresUptoCardSaid : Prop := Claim7.holds Tryd.pinned (.plain (OpenSpec.upto fnStoresSpec)) fnStoresUptoCard

/-- THE SECOND FORM's CARD OF 'laws.FnExactStoreAfter'. -/
def fnExactStoreAfterUptoCard : Claim7 := { stood := { row := fnExactStoreAfterUptoRow, standIns := [], harness := (true, "3d2a1b4714f0aa8a9fb950be43ec65c3a0c21ff642a559f57f0f2617afb82309"), looks := true }, kinds := [], alts := [], laidByText := true, laidKinds := [.sentinel, .sentinel, .sentinel, .sentinel, .sentinel, .sentinel, .sentinel, .sentinel], laidTests := true, laidLooks := .later }
def FnExactStoreAfterUptoCardSaid : Prop := Claim7.holds Tryd.pinned (.plain (OpenSpec.upto fnExactStoreAfterSpec)) fnExactStoreAfterUptoCard

/-- THE SECOND FORM's CARD OF 'laws.FnExactDaysOfStore'. -/
def fnExactDaysOfStoreUptoCard : Claim7 := { stood := { row := fnExactDaysOfStoreUptoRow, standIns := [], harness := (true, "3d2a1b4714f0aa8a9fb950be43ec65c3a0c21ff642a559f57f0f2617afb82309"), looks := true }, kinds := [], alts := [], laidByText := true, laidKinds := [.sentinel, .sentinel, .sentinel, .sentinel, .sentinel, .sentinel, .sentinel, .sentinel], laidTests := true, laidLooks := .later }
def FnExactDaysOfStoreUptoCardSaid : Prop := Claim7.holds Tryd.pinned (.plain (OpenSpec.upto fnExactDaysOfStoreSpec)) fnExactDaysOfStoreUptoCard
end Rows
end Go.Proofs.YtifcaedbclgahaaDoor
