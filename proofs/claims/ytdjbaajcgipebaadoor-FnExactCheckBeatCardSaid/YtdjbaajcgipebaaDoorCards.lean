/-
  DERIVED. GIVEN WITH THE SEED: THE CARDS: each row of YtdjbaajcgipebaaDoorRows.lean that lists a variable, with what it lists TIED to the program's text (the seventh form; the later family's looks); each row that meets fmt, with fmt's text TOLD by the authors' own Lean function (tested against real Go, not proved from fmt's source: count such statements apart). THE CARD IS WHAT COUNTS. Prove the row's statement (the work); the ties are given (YtdjbaajcgipebaaDoorTie.lean); close each card by the builder's one call (the guide's Derived/Test/ToyasCard.lean, 'card_holds'). Laid BY PROGRAM, IN A SANDBOX (cutbox-door.mjs). By AI agents, Wed Nov 11 2026. No macro, syntax, notation, axiom, sorry.
-/
import Derived.Test.YtdjbaajcgipebaaDoorRows
import GoSem.ClaimSeven
namespace Go.Proofs.YtdjbaajcgipebaaDoor
namespace Rows

/-- THE TIED CARD OF 'laws.FnExactValidBeat'. -/
def fnExactValidBeatCard : Claim7 := { stood := { row := fnExactValidBeatRow, standIns := [], harness := (true, "0914e1a8d4c6ef4525306dc8f4027847270c55f222ee511d88e75d1d73e992d1"), looks := true }, kinds := [], alts := [], laidByText := true, laidKinds := [.sentinel], laidTests := true, laidLooks := .later }
def FnExactValidBeatCardSaid : Prop := Claim7.holds Tryd.pinned (.plain (OpenSpec.ofChange fnExactValidBeatSpec)) fnExactValidBeatCard

/-- THE TIED CARD OF 'laws.FnExactTurnBeat'. -/
def fnExactTurnBeatCard : Claim7 := { stood := { row := fnExactTurnBeatRow, standIns := [], harness := (true, "0914e1a8d4c6ef4525306dc8f4027847270c55f222ee511d88e75d1d73e992d1"), looks := true }, kinds := [], alts := [], laidByText := true, laidKinds := [.sentinel, .sentinel, .sentinel, .sentinel, .sentinel, .sentinel, .sentinel, .sentinel], laidTests := true, laidLooks := .later }
def FnExactTurnBeatCardSaid : Prop := Claim7.holds Tryd.pinned (.plain (OpenSpec.ofChange fnExactTurnBeatSpec)) fnExactTurnBeatCard

/-- THE TIED CARD OF 'laws.FnExactBackBeat'. -/
def fnExactBackBeatCard : Claim7 := { stood := { row := fnExactBackBeatRow, standIns := [], harness := (true, "0914e1a8d4c6ef4525306dc8f4027847270c55f222ee511d88e75d1d73e992d1"), looks := true }, kinds := [], alts := [], laidByText := true, laidKinds := [.sentinel, .sentinel, .sentinel, .sentinel, .sentinel, .sentinel, .sentinel, .sentinel], laidTests := true, laidLooks := .later }
def FnExactBackBeatCardSaid : Prop := Claim7.holds Tryd.pinned (.plain (OpenSpec.ofChange fnExactBackBeatSpec)) fnExactBackBeatCard

/-- THE TIED CARD OF 'laws.FnExactJoinBeats'. -/
def fnExactJoinBeatsCard : Claim7 := { stood := { row := fnExactJoinBeatsRow, standIns := [], harness := (true, "0914e1a8d4c6ef4525306dc8f4027847270c55f222ee511d88e75d1d73e992d1"), looks := true }, kinds := [], alts := [], laidByText := true, laidKinds := [.sentinel, .sentinel, .sentinel, .sentinel, .sentinel, .sentinel, .sentinel, .sentinel], laidTests := true, laidLooks := .later }
def FnExactJoinBeatsCardSaid : Prop := Claim7.holds Tryd.pinned (.plain (OpenSpec.ofChange fnExactJoinBeatsSpec)) fnExactJoinBeatsCard

/-- THE TIED CARD OF 'laws.FnExactSeenBy'. -/
def fnExactSeenByCard : Claim7 := { stood := { row := fnExactSeenByRow, standIns := [], harness := (true, "0914e1a8d4c6ef4525306dc8f4027847270c55f222ee511d88e75d1d73e992d1"), looks := true }, kinds := [], alts := [], laidByText := true, laidKinds := [.sentinel, .sentinel, .sentinel, .sentinel, .sentinel, .sentinel, .sentinel, .sentinel], laidTests := true, laidLooks := .later }
def FnExactSeenByCardSaid : Prop := Claim7.holds Tryd.pinned (.plain (OpenSpec.ofChange fnExactSeenBySpec)) fnExactSeenByCard

/-- THE TIED CARD OF 'laws.FnExactMinutesOf'. -/
def fnExactMinutesOfCard : Claim7 := { stood := { row := fnExactMinutesOfRow, standIns := [], harness := (true, "0914e1a8d4c6ef4525306dc8f4027847270c55f222ee511d88e75d1d73e992d1"), looks := true }, kinds := [], alts := [], laidByText := true, laidKinds := [.sentinel, .sentinel, .sentinel, .sentinel, .sentinel, .sentinel, .sentinel, .sentinel], laidTests := true, laidLooks := .later }
def FnExactMinutesOfCardSaid : Prop := Claim7.holds Tryd.pinned (.plain (OpenSpec.ofChange fnExactMinutesOfSpec)) fnExactMinutesOfCard

/-- THE TIED CARD OF 'laws.FnExactSeenAt'. -/
def fnExactSeenAtCard : Claim7 := { stood := { row := fnExactSeenAtRow, standIns := [], harness := (true, "0914e1a8d4c6ef4525306dc8f4027847270c55f222ee511d88e75d1d73e992d1"), looks := true }, kinds := [], alts := [], laidByText := true, laidKinds := [.sentinel, .sentinel, .sentinel, .sentinel, .sentinel, .sentinel, .sentinel, .sentinel], laidTests := true, laidLooks := .later }
def FnExactSeenAtCardSaid : Prop := Claim7.holds Tryd.pinned (.plain (OpenSpec.ofChange fnExactSeenAtSpec)) fnExactSeenAtCard

/-- THE TIED CARD OF 'laws.FnExactCheckBeat'. -/
def fnExactCheckBeatCard : Claim7 := { stood := { row := fnExactCheckBeatRow, standIns := [], harness := (true, "0914e1a8d4c6ef4525306dc8f4027847270c55f222ee511d88e75d1d73e992d1"), looks := true }, kinds := [], alts := [], laidByText := true, laidKinds := [.sentinel, .sentinel, .sentinel, .sentinel, .sentinel, .sentinel, .sentinel, .sentinel], laidTests := true, laidLooks := .later }
def FnExactCheckBeatCardSaid : Prop := Claim7.holds Tryd.pinned (.plain (OpenSpec.ofChange fnExactCheckBeatSpec)) fnExactCheckBeatCard

/-- THE SECOND FORM's CARD OF 'laws.FnExactValidBeat'. -/
def fnExactValidBeatUptoCard : Claim7 := { stood := { row := fnExactValidBeatUptoRow, standIns := [], harness := (true, "0914e1a8d4c6ef4525306dc8f4027847270c55f222ee511d88e75d1d73e992d1"), looks := true }, kinds := [], alts := [], laidByText := true, laidKinds := [.sentinel], laidTests := true, laidLooks := .later }
def FnExactValidBeatUptoCardSaid : Prop := Claim7.holds Tryd.pinned (.plain (OpenSpec.upto fnExactValidBeatSpec)) fnExactValidBeatUptoCard

/-- THE SECOND FORM's CARD OF 'laws.FnExactTurnBeat'. -/
def fnExactTurnBeatUptoCard : Claim7 := { stood := { row := fnExactTurnBeatUptoRow, standIns := [], harness := (true, "0914e1a8d4c6ef4525306dc8f4027847270c55f222ee511d88e75d1d73e992d1"), looks := true }, kinds := [], alts := [], laidByText := true, laidKinds := [.sentinel, .sentinel, .sentinel, .sentinel, .sentinel, .sentinel, .sentinel, .sentinel], laidTests := true, laidLooks := .later }
def FnExactTurnBeatUptoCardSaid : Prop := Claim7.holds Tryd.pinned (.plain (OpenSpec.upto fnExactTurnBeatSpec)) fnExactTurnBeatUptoCard

/-- THE SECOND FORM's CARD OF 'laws.FnExactBackBeat'. -/
def fnExactBackBeatUptoCard : Claim7 := { stood := { row := fnExactBackBeatUptoRow, standIns := [], harness := (true, "0914e1a8d4c6ef4525306dc8f4027847270c55f222ee511d88e75d1d73e992d1"), looks := true }, kinds := [], alts := [], laidByText := true, laidKinds := [.sentinel, .sentinel, .sentinel, .sentinel, .sentinel, .sentinel, .sentinel, .sentinel], laidTests := true, laidLooks := .later }
def FnExactBackBeatUptoCardSaid : Prop := Claim7.holds Tryd.pinned (.plain (OpenSpec.upto fnExactBackBeatSpec)) fnExactBackBeatUptoCard

/-- THE SECOND FORM's CARD OF 'laws.FnExactJoinBeats'. -/
def fnExactJoinBeatsUptoCard : Claim7 := { stood := { row := fnExactJoinBeatsUptoRow, standIns := [], harness := (true, "0914e1a8d4c6ef4525306dc8f4027847270c55f222ee511d88e75d1d73e992d1"), looks := true }, kinds := [], alts := [], laidByText := true, laidKinds := [.sentinel, .sentinel, .sentinel, .sentinel, .sentinel, .sentinel, .sentinel, .sentinel], laidTests := true, laidLooks := .later }
def FnExactJoinBeatsUptoCardSaid : Prop := Claim7.holds Tryd.pinned (.plain (OpenSpec.upto fnExactJoinBeatsSpec)) fnExactJoinBeatsUptoCard

/-- THE SECOND FORM's CARD OF 'laws.FnExactSeenBy'. -/
def fnExactSeenByUptoCard : Claim7 := { stood := { row := fnExactSeenByUptoRow, standIns := [], harness := (true, "0914e1a8d4c6ef4525306dc8f4027847270c55f222ee511d88e75d1d73e992d1"), looks := true }, kinds := [], alts := [], laidByText := true, laidKinds := [.sentinel, .sentinel, .sentinel, .sentinel, .sentinel, .sentinel, .sentinel, .sentinel], laidTests := true, laidLooks := .later }
def FnExactSeenByUptoCardSaid : Prop := Claim7.holds Tryd.pinned (.plain (OpenSpec.upto fnExactSeenBySpec)) fnExactSeenByUptoCard

/-- THE SECOND FORM's CARD OF 'laws.FnExactMinutesOf'. -/
def fnExactMinutesOfUptoCard : Claim7 := { stood := { row := fnExactMinutesOfUptoRow, standIns := [], harness := (true, "0914e1a8d4c6ef4525306dc8f4027847270c55f222ee511d88e75d1d73e992d1"), looks := true }, kinds := [], alts := [], laidByText := true, laidKinds := [.sentinel, .sentinel, .sentinel, .sentinel, .sentinel, .sentinel, .sentinel, .sentinel], laidTests := true, laidLooks := .later }
def FnExactMinutesOfUptoCardSaid : Prop := Claim7.holds Tryd.pinned (.plain (OpenSpec.upto fnExactMinutesOfSpec)) fnExactMinutesOfUptoCard

/-- THE SECOND FORM's CARD OF 'laws.FnExactSeenAt'. -/
def fnExactSeenAtUptoCard : Claim7 := { stood := { row := fnExactSeenAtUptoRow, standIns := [], harness := (true, "0914e1a8d4c6ef4525306dc8f4027847270c55f222ee511d88e75d1d73e992d1"), looks := true }, kinds := [], alts := [], laidByText := true, laidKinds := [.sentinel, .sentinel, .sentinel, .sentinel, .sentinel, .sentinel, .sentinel, .sentinel], laidTests := true, laidLooks := .later }
def FnExactSeenAtUptoCardSaid : Prop := Claim7.holds Tryd.pinned (.plain (OpenSpec.upto fnExactSeenAtSpec)) fnExactSeenAtUptoCard

/-- THE SECOND FORM's CARD OF 'laws.FnExactCheckBeat'. -/
def fnExactCheckBeatUptoCard : Claim7 := { stood := { row := fnExactCheckBeatUptoRow, standIns := [], harness := (true, "0914e1a8d4c6ef4525306dc8f4027847270c55f222ee511d88e75d1d73e992d1"), looks := true }, kinds := [], alts := [], laidByText := true, laidKinds := [.sentinel, .sentinel, .sentinel, .sentinel, .sentinel, .sentinel, .sentinel, .sentinel], laidTests := true, laidLooks := .later }
def FnExactCheckBeatUptoCardSaid : Prop := Claim7.holds Tryd.pinned (.plain (OpenSpec.upto fnExactCheckBeatSpec)) fnExactCheckBeatUptoCard
end Rows
end Go.Proofs.YtdjbaajcgipebaaDoor
