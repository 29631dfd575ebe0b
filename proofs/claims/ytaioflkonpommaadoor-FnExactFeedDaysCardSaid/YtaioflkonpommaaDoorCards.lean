/-
  DERIVED. GIVEN WITH THE SEED: THE CARDS: each row of YtaioflkonpommaaDoorRows.lean that lists a variable, with what it lists TIED to the program's text (the seventh form; the later family's looks); each row that meets fmt, with fmt's text TOLD by the authors' own Lean function (tested against real Go, not proved from fmt's source: count such statements apart). THE CARD IS WHAT COUNTS. Prove the row's statement (the work); the ties are given (YtaioflkonpommaaDoorTie.lean); close each card by the builder's one call (the guide's Derived/Test/ToyasCard.lean, 'card_holds'). Laid BY PROGRAM, IN A SANDBOX (cutbox-door.mjs). By AI agents, Wed Nov 11 2026. No macro, syntax, notation, axiom, sorry.
-/
import Derived.Test.YtaioflkonpommaaDoorRows
import GoSem.ClaimSeven
namespace Go.Proofs.YtaioflkonpommaaDoor
namespace Rows

/-- THE TIED CARD OF 'laws.FnExactEatOnce'. -/
def fnExactEatOnceCard : Claim7 := { stood := { row := fnExactEatOnceRow, standIns := [], harness := (true, "12764da00c9b4c602e80c2758c989fcc8950fe1572823cb35943fe2ef56628fc"), looks := true }, kinds := [], alts := [], laidByText := true, laidKinds := [.sentinel, .sentinel, .sentinel, .sentinel, .sentinel, .sentinel, .sentinel, .sentinel, .data], laidTests := true, laidLooks := .later }
def FnExactEatOnceCardSaid : Prop := Claim7.holds Tryd.pinned (.plain (OpenSpec.ofChange fnExactEatOnceSpec)) fnExactEatOnceCard

/-- THE TIED CARD OF 'laws.FnExactFeedFlock'. -/
def fnExactFeedFlockCard : Claim7 := { stood := { row := fnExactFeedFlockRow, standIns := [], harness := (true, "12764da00c9b4c602e80c2758c989fcc8950fe1572823cb35943fe2ef56628fc"), looks := true }, kinds := [], alts := [], laidByText := true, laidKinds := [.sentinel, .sentinel, .sentinel, .sentinel, .sentinel, .sentinel, .sentinel, .sentinel, .data], laidTests := true, laidLooks := .later }
def FnExactFeedFlockCardSaid : Prop := Claim7.holds Tryd.pinned (.plain (OpenSpec.ofChange fnExactFeedFlockSpec)) fnExactFeedFlockCard

/-- THE TIED CARD OF 'laws.FnExactFeedAll'. -/
def fnExactFeedAllCard : Claim7 := { stood := { row := fnExactFeedAllRow, standIns := [], harness := (true, "12764da00c9b4c602e80c2758c989fcc8950fe1572823cb35943fe2ef56628fc"), looks := true }, kinds := [], alts := [], laidByText := true, laidKinds := [.sentinel, .sentinel, .sentinel, .sentinel, .sentinel, .sentinel, .sentinel, .sentinel, .data], laidTests := true, laidLooks := .later }
def FnExactFeedAllCardSaid : Prop := Claim7.holds Tryd.pinned (.plain (OpenSpec.ofChange fnExactFeedAllSpec)) fnExactFeedAllCard

/-- THE TIED CARD OF 'laws.FnExactFeedDays'. -/
def fnExactFeedDaysCard : Claim7 := { stood := { row := fnExactFeedDaysRow, standIns := [], harness := (true, "12764da00c9b4c602e80c2758c989fcc8950fe1572823cb35943fe2ef56628fc"), looks := true }, kinds := [], alts := [], laidByText := true, laidKinds := [.sentinel, .sentinel, .sentinel, .sentinel, .sentinel, .sentinel, .sentinel, .sentinel, .data], laidTests := true, laidLooks := .later }
def FnExactFeedDaysCardSaid : Prop := Claim7.holds Tryd.pinned (.plain (OpenSpec.ofChange fnExactFeedDaysSpec)) fnExactFeedDaysCard

/-- THE TIED CARD OF 'laws.FnExactEatenBy'. -/
def fnExactEatenByCard : Claim7 := { stood := { row := fnExactEatenByRow, standIns := [], harness := (true, "12764da00c9b4c602e80c2758c989fcc8950fe1572823cb35943fe2ef56628fc"), looks := true }, kinds := [], alts := [], laidByText := true, laidKinds := [.sentinel, .sentinel, .sentinel, .sentinel, .sentinel, .sentinel, .sentinel, .sentinel, .data], laidTests := true, laidLooks := .later }
def FnExactEatenByCardSaid : Prop := Claim7.holds Tryd.pinned (.plain (OpenSpec.ofChange fnExactEatenBySpec)) fnExactEatenByCard

/-- THE TIED CARD OF 'laws.FnExactStillHungry'. -/
def fnExactStillHungryCard : Claim7 := { stood := { row := fnExactStillHungryRow, standIns := [], harness := (true, "12764da00c9b4c602e80c2758c989fcc8950fe1572823cb35943fe2ef56628fc"), looks := true }, kinds := [], alts := [], laidByText := true, laidKinds := [.sentinel, .sentinel, .sentinel, .sentinel, .sentinel, .sentinel, .sentinel, .sentinel, .data], laidTests := true, laidLooks := .later }
def FnExactStillHungryCardSaid : Prop := Claim7.holds Tryd.pinned (.plain (OpenSpec.ofChange fnExactStillHungrySpec)) fnExactStillHungryCard

/-- THE SECOND FORM's CARD OF 'laws.FnExactEatOnce'. -/
def fnExactEatOnceUptoCard : Claim7 := { stood := { row := fnExactEatOnceUptoRow, standIns := [], harness := (true, "12764da00c9b4c602e80c2758c989fcc8950fe1572823cb35943fe2ef56628fc"), looks := true }, kinds := [], alts := [], laidByText := true, laidKinds := [.sentinel, .sentinel, .sentinel, .sentinel, .sentinel, .sentinel, .sentinel, .sentinel, .data], laidTests := true, laidLooks := .later }
def FnExactEatOnceUptoCardSaid : Prop := Claim7.holds Tryd.pinned (.plain (OpenSpec.upto fnExactEatOnceSpec)) fnExactEatOnceUptoCard

/-- THE SECOND FORM's CARD OF 'laws.FnExactFeedFlock'. -/
def fnExactFeedFlockUptoCard : Claim7 := { stood := { row := fnExactFeedFlockUptoRow, standIns := [], harness := (true, "12764da00c9b4c602e80c2758c989fcc8950fe1572823cb35943fe2ef56628fc"), looks := true }, kinds := [], alts := [], laidByText := true, laidKinds := [.sentinel, .sentinel, .sentinel, .sentinel, .sentinel, .sentinel, .sentinel, .sentinel, .data], laidTests := true, laidLooks := .later }
def FnExactFeedFlockUptoCardSaid : Prop := Claim7.holds Tryd.pinned (.plain (OpenSpec.upto fnExactFeedFlockSpec)) fnExactFeedFlockUptoCard

/-- THE SECOND FORM's CARD OF 'laws.FnExactFeedAll'. -/
def fnExactFeedAllUptoCard : Claim7 := { stood := { row := fnExactFeedAllUptoRow, standIns := [], harness := (true, "12764da00c9b4c602e80c2758c989fcc8950fe1572823cb35943fe2ef56628fc"), looks := true }, kinds := [], alts := [], laidByText := true, laidKinds := [.sentinel, .sentinel, .sentinel, .sentinel, .sentinel, .sentinel, .sentinel, .sentinel, .data], laidTests := true, laidLooks := .later }
def FnExactFeedAllUptoCardSaid : Prop := Claim7.holds Tryd.pinned (.plain (OpenSpec.upto fnExactFeedAllSpec)) fnExactFeedAllUptoCard

/-- THE SECOND FORM's CARD OF 'laws.FnExactFeedDays'. -/
def fnExactFeedDaysUptoCard : Claim7 := { stood := { row := fnExactFeedDaysUptoRow, standIns := [], harness := (true, "12764da00c9b4c602e80c2758c989fcc8950fe1572823cb35943fe2ef56628fc"), looks := true }, kinds := [], alts := [], laidByText := true, laidKinds := [.sentinel, .sentinel, .sentinel, .sentinel, .sentinel, .sentinel, .sentinel, .sentinel, .data], laidTests := true, laidLooks := .later }
def FnExactFeedDaysUptoCardSaid : Prop := Claim7.holds Tryd.pinned (.plain (OpenSpec.upto fnExactFeedDaysSpec)) fnExactFeedDaysUptoCard

/-- THE SECOND FORM's CARD OF 'laws.FnExactEatenBy'. -/
def fnExactEatenByUptoCard : Claim7 := { stood := { row := fnExactEatenByUptoRow, standIns := [], harness := (true, "12764da00c9b4c602e80c2758c989fcc8950fe1572823cb35943fe2ef56628fc"), looks := true }, kinds := [], alts := [], laidByText := true, laidKinds := [.sentinel, .sentinel, .sentinel, .sentinel, .sentinel, .sentinel, .sentinel, .sentinel, .data], laidTests := true, laidLooks := .later }
def FnExactEatenByUptoCardSaid : Prop := Claim7.holds Tryd.pinned (.plain (OpenSpec.upto fnExactEatenBySpec)) fnExactEatenByUptoCard

/-- THE SECOND FORM's CARD OF 'laws.FnExactStillHungry'. -/
def fnExactStillHungryUptoCard : Claim7 := { stood := { row := fnExactStillHungryUptoRow, standIns := [], harness := (true, "12764da00c9b4c602e80c2758c989fcc8950fe1572823cb35943fe2ef56628fc"), looks := true }, kinds := [], alts := [], laidByText := true, laidKinds := [.sentinel, .sentinel, .sentinel, .sentinel, .sentinel, .sentinel, .sentinel, .sentinel, .data], laidTests := true, laidLooks := .later }
def FnExactStillHungryUptoCardSaid : Prop := Claim7.holds Tryd.pinned (.plain (OpenSpec.upto fnExactStillHungrySpec)) fnExactStillHungryUptoCard
end Rows
end Go.Proofs.YtaioflkonpommaaDoor
