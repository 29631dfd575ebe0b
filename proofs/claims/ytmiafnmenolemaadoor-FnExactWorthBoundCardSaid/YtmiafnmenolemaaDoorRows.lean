/-
  NARROWER THAN 'FOR EVERY INPUT', by the rows' own cells (each row's printed sentence says how): FnExactValidPlots: ifaces, laid · FnExactWorthOn: ifaces, laid · FnExactBestDay: ifaces, laid · FnExactValidPlan: ifaces, laid · FnExactWorthOf: ifaces, laid · FnExactLostBy: ifaces, laid · FnExactWorthBound: ifaces, laid.
  DERIVED. THE GIVEN ROWS OF THIS SEAT. 7 by the template 'for every input the law returns true; each argument reads behind the call as it read before'; 0 by the template 'total and deterministic' (their statements: YtmiafnmenolemaaDoorTotals.lean).
  GIVEN WITH THE SEED: the statements are not yours to turn. If you find one false, say at which input.
  Laid BY PROGRAM, IN A SANDBOX (cutbox-rows.mjs): the forced cells as the released guide's own fill.sh prints them over the translation 03bf5511ca2a9c00… (all of the seat's roots in one cut). By AI agents, Wed Nov 11 2026. No macro, syntax, notation, axiom, sorry.
-/
import Derived.Test.YtmiafnmenolemaaDoorChecked
import GoSem.Claim
import GoSem.ClaimJoined
import GoSem.ClaimMapViews
import Derived.JoinedTies
import Derived.KernelRfl
namespace Go.Proofs.YtmiafnmenolemaaDoor
/- THE CELL 'sum', in the pinned program and in every row, IS THE sha256 OF THE DUMP (.gsa) THAT YtmiafnmenolemaaDoorProg.lean LOADS. Nothing in Lean hashes anything: it is a label: what it is worth is what the hold of that sum in a sandbox is worth. -/
noncomputable def Tryd.pinned : Pinned := { name := "ytmiafnmenolemaadoor", sum := "03bf5511ca2a9c00eebd77e2f68a5107803b81c452cecace0367a636a9ed79bc", checked := Tryd.checked }
namespace Rows
def none {H : Type} : Left H := { results := [], args := [] }

/- WHAT THE LISTED PACKAGE-LEVEL VARIABLES READ AS WHEN THE CALL BEGINS. Each datum BY PROGRAM (the guide's laid-datum.mjs) off the statement by which the dump's own 'gosem.cut.vars' lays the variable. In a bare row this is a premise. The card (YtmiafnmenolemaaDoorCards.lean) ties it to the program's text. -/
def laid_loop_example_g01338_impl_errInvalid {H : Type} : DataW H := .iface "*errors.errorString" (.ptr (.agg [.lit (.string [105, 110, 118, 97, 108, 105, 100])]))
def laid_loop_example_g01338_impl_errRange {H : Type} : DataW H := .iface "*errors.errorString" (.ptr (.agg [.lit (.string [114, 97, 110, 103, 101])]))
def laid_loop_example_g01338_impl_errLimit {H : Type} : DataW H := .iface "*errors.errorString" (.ptr (.agg [.lit (.string [108, 105, 109, 105, 116])]))
def laid_loop_example_g01338_impl_errState {H : Type} : DataW H := .iface "*errors.errorString" (.ptr (.agg [.lit (.string [115, 116, 97, 116, 101])]))
def laid_loop_example_g01338_impl_errSyntax {H : Type} : DataW H := .iface "*errors.errorString" (.ptr (.agg [.lit (.string [115, 121, 110, 116, 97, 120])]))
def laid_loop_example_g01338_impl_errNotFound {H : Type} : DataW H := .iface "*errors.errorString" (.ptr (.agg [.lit (.string [110, 111, 116, 102, 111, 117, 110, 100])]))
def laid_loop_example_g01338_impl_errBudget {H : Type} : DataW H := .iface "*errors.errorString" (.ptr (.agg [.lit (.string [98, 117, 100, 103, 101, 116])]))
def laid_loop_example_g01338_impl_errProof {H : Type} : DataW H := .iface "*errors.errorString" (.ptr (.agg [.lit (.string [112, 114, 111, 111, 102])]))

/-- 'laws.FnExactValidPlots': WHATEVER THE INPUT: true; the input reads as it did. -/
def fnExactValidPlotsSpec : ChangeSpec := { name := "fnExactValidPlots", vars := ["loop.example/g01338/impl.errInvalid"], fn := fun _ => fun
  | [d, g1] => { results := [.lit (.bool true)], args := [d], vars := [g1] }
  | _ => none }
def fnExactValidPlotsRow : OpenClaim := { program := "ytmiafnmenolemaadoor", sum := "03bf5511ca2a9c00eebd77e2f68a5107803b81c452cecace0367a636a9ed79bc", func := "loop.example/g01338/laws.FnExactValidPlots", spec := "fnExactValidPlots", named := ["loop.example/g01338/impl.errInvalid"], ifaces := true, apart := false, laid := [("loop.example/g01338/impl.errInvalid", laid_loop_example_g01338_impl_errInvalid)] }
def FnExactValidPlotsSaid : Prop := fnExactValidPlotsRow.holds Tryd.pinned (OpenSpec.ofChange fnExactValidPlotsSpec)

/-- ITS FALSE NEIGHBOUR: 'it returns false'. Refute it at one input. -/
def fnExactValidPlotsWrong : ChangeSpec := { name := "fnExactValidPlots", vars := ["loop.example/g01338/impl.errInvalid"], fn := fun _ => fun
  | [d, g1] => { results := [.lit (.bool false)], args := [d], vars := [g1] }
  | _ => none }
def FnExactValidPlotsWrongFalsely : Prop := fnExactValidPlotsRow.holds Tryd.pinned (OpenSpec.ofChange fnExactValidPlotsWrong)

/-- 'laws.FnExactWorthOn': WHATEVER THE INPUT: true; the input reads as it did. -/
def fnExactWorthOnSpec : ChangeSpec := { name := "fnExactWorthOn", vars := ["loop.example/g01338/impl.errRange", "loop.example/g01338/impl.errInvalid", "loop.example/g01338/impl.errLimit", "loop.example/g01338/impl.errState", "loop.example/g01338/impl.errSyntax", "loop.example/g01338/impl.errNotFound", "loop.example/g01338/impl.errBudget", "loop.example/g01338/impl.errProof"], fn := fun _ => fun
  | [d1, d2, d3, g1, g2, g3, g4, g5, g6, g7, g8] => { results := [.lit (.bool true)], args := [d1, d2, d3], vars := [g1, g2, g3, g4, g5, g6, g7, g8] }
  | _ => none }
def fnExactWorthOnRow : OpenClaim := { program := "ytmiafnmenolemaadoor", sum := "03bf5511ca2a9c00eebd77e2f68a5107803b81c452cecace0367a636a9ed79bc", func := "loop.example/g01338/laws.FnExactWorthOn", spec := "fnExactWorthOn", inPlace := ["internal/reflectlite.TypeOf"], unfollowed := true, recurses := true, named := ["loop.example/g01338/impl.errRange", "loop.example/g01338/impl.errInvalid", "loop.example/g01338/impl.errLimit", "loop.example/g01338/impl.errState", "loop.example/g01338/impl.errSyntax", "loop.example/g01338/impl.errNotFound", "loop.example/g01338/impl.errBudget", "loop.example/g01338/impl.errProof"], ifaces := true, apart := false, laid := [("loop.example/g01338/impl.errInvalid", laid_loop_example_g01338_impl_errInvalid), ("loop.example/g01338/impl.errRange", laid_loop_example_g01338_impl_errRange), ("loop.example/g01338/impl.errLimit", laid_loop_example_g01338_impl_errLimit), ("loop.example/g01338/impl.errState", laid_loop_example_g01338_impl_errState), ("loop.example/g01338/impl.errSyntax", laid_loop_example_g01338_impl_errSyntax), ("loop.example/g01338/impl.errNotFound", laid_loop_example_g01338_impl_errNotFound), ("loop.example/g01338/impl.errBudget", laid_loop_example_g01338_impl_errBudget), ("loop.example/g01338/impl.errProof", laid_loop_example_g01338_impl_errProof)] }
def FnExactWorthOnSaid : Prop := fnExactWorthOnRow.holds Tryd.pinned (OpenSpec.ofChange fnExactWorthOnSpec)

/-- ITS FALSE NEIGHBOUR: 'it returns false'. Refute it at one input. -/
def fnExactWorthOnWrong : ChangeSpec := { name := "fnExactWorthOn", vars := ["loop.example/g01338/impl.errRange", "loop.example/g01338/impl.errInvalid", "loop.example/g01338/impl.errLimit", "loop.example/g01338/impl.errState", "loop.example/g01338/impl.errSyntax", "loop.example/g01338/impl.errNotFound", "loop.example/g01338/impl.errBudget", "loop.example/g01338/impl.errProof"], fn := fun _ => fun
  | [d1, d2, d3, g1, g2, g3, g4, g5, g6, g7, g8] => { results := [.lit (.bool false)], args := [d1, d2, d3], vars := [g1, g2, g3, g4, g5, g6, g7, g8] }
  | _ => none }
def FnExactWorthOnWrongFalsely : Prop := fnExactWorthOnRow.holds Tryd.pinned (OpenSpec.ofChange fnExactWorthOnWrong)

/-- 'laws.FnExactBestDay': WHATEVER THE INPUT: true; the input reads as it did. -/
def fnExactBestDaySpec : ChangeSpec := { name := "fnExactBestDay", vars := ["loop.example/g01338/impl.errRange", "loop.example/g01338/impl.errInvalid", "loop.example/g01338/impl.errLimit", "loop.example/g01338/impl.errState", "loop.example/g01338/impl.errSyntax", "loop.example/g01338/impl.errNotFound", "loop.example/g01338/impl.errBudget", "loop.example/g01338/impl.errProof"], fn := fun _ => fun
  | [d1, d2, d3, g1, g2, g3, g4, g5, g6, g7, g8] => { results := [.lit (.bool true)], args := [d1, d2, d3], vars := [g1, g2, g3, g4, g5, g6, g7, g8] }
  | _ => none }
def fnExactBestDayRow : OpenClaim := { program := "ytmiafnmenolemaadoor", sum := "03bf5511ca2a9c00eebd77e2f68a5107803b81c452cecace0367a636a9ed79bc", func := "loop.example/g01338/laws.FnExactBestDay", spec := "fnExactBestDay", inPlace := ["internal/reflectlite.TypeOf"], unfollowed := true, recurses := true, named := ["loop.example/g01338/impl.errRange", "loop.example/g01338/impl.errInvalid", "loop.example/g01338/impl.errLimit", "loop.example/g01338/impl.errState", "loop.example/g01338/impl.errSyntax", "loop.example/g01338/impl.errNotFound", "loop.example/g01338/impl.errBudget", "loop.example/g01338/impl.errProof"], ifaces := true, apart := false, laid := [("loop.example/g01338/impl.errInvalid", laid_loop_example_g01338_impl_errInvalid), ("loop.example/g01338/impl.errRange", laid_loop_example_g01338_impl_errRange), ("loop.example/g01338/impl.errLimit", laid_loop_example_g01338_impl_errLimit), ("loop.example/g01338/impl.errState", laid_loop_example_g01338_impl_errState), ("loop.example/g01338/impl.errSyntax", laid_loop_example_g01338_impl_errSyntax), ("loop.example/g01338/impl.errNotFound", laid_loop_example_g01338_impl_errNotFound), ("loop.example/g01338/impl.errBudget", laid_loop_example_g01338_impl_errBudget), ("loop.example/g01338/impl.errProof", laid_loop_example_g01338_impl_errProof)] }
def FnExactBestDaySaid : Prop := fnExactBestDayRow.holds Tryd.pinned (OpenSpec.ofChange fnExactBestDaySpec)

/-- ITS FALSE NEIGHBOUR: 'it returns false'. Refute it at one input. -/
def fnExactBestDayWrong : ChangeSpec := { name := "fnExactBestDay", vars := ["loop.example/g01338/impl.errRange", "loop.example/g01338/impl.errInvalid", "loop.example/g01338/impl.errLimit", "loop.example/g01338/impl.errState", "loop.example/g01338/impl.errSyntax", "loop.example/g01338/impl.errNotFound", "loop.example/g01338/impl.errBudget", "loop.example/g01338/impl.errProof"], fn := fun _ => fun
  | [d1, d2, d3, g1, g2, g3, g4, g5, g6, g7, g8] => { results := [.lit (.bool false)], args := [d1, d2, d3], vars := [g1, g2, g3, g4, g5, g6, g7, g8] }
  | _ => none }
def FnExactBestDayWrongFalsely : Prop := fnExactBestDayRow.holds Tryd.pinned (OpenSpec.ofChange fnExactBestDayWrong)

/-- 'laws.FnExactValidPlan': WHATEVER THE INPUT: true; the input reads as it did. -/
def fnExactValidPlanSpec : ChangeSpec := { name := "fnExactValidPlan", vars := ["loop.example/g01338/impl.errInvalid"], fn := fun _ => fun
  | [d1, d2, d3, g1] => { results := [.lit (.bool true)], args := [d1, d2, d3], vars := [g1] }
  | _ => none }
def fnExactValidPlanRow : OpenClaim := { program := "ytmiafnmenolemaadoor", sum := "03bf5511ca2a9c00eebd77e2f68a5107803b81c452cecace0367a636a9ed79bc", func := "loop.example/g01338/laws.FnExactValidPlan", spec := "fnExactValidPlan", named := ["loop.example/g01338/impl.errInvalid"], ifaces := true, apart := false, laid := [("loop.example/g01338/impl.errInvalid", laid_loop_example_g01338_impl_errInvalid)] }
def FnExactValidPlanSaid : Prop := fnExactValidPlanRow.holds Tryd.pinned (OpenSpec.ofChange fnExactValidPlanSpec)

/-- ITS FALSE NEIGHBOUR: 'it returns false'. Refute it at one input. -/
def fnExactValidPlanWrong : ChangeSpec := { name := "fnExactValidPlan", vars := ["loop.example/g01338/impl.errInvalid"], fn := fun _ => fun
  | [d1, d2, d3, g1] => { results := [.lit (.bool false)], args := [d1, d2, d3], vars := [g1] }
  | _ => none }
def FnExactValidPlanWrongFalsely : Prop := fnExactValidPlanRow.holds Tryd.pinned (OpenSpec.ofChange fnExactValidPlanWrong)

/-- 'laws.FnExactWorthOf': WHATEVER THE INPUT: true; the input reads as it did. -/
def fnExactWorthOfSpec : ChangeSpec := { name := "fnExactWorthOf", vars := ["loop.example/g01338/impl.errInvalid", "loop.example/g01338/impl.errRange", "loop.example/g01338/impl.errLimit", "loop.example/g01338/impl.errState", "loop.example/g01338/impl.errSyntax", "loop.example/g01338/impl.errNotFound", "loop.example/g01338/impl.errBudget", "loop.example/g01338/impl.errProof"], fn := fun _ => fun
  | [d1, d2, d3, g1, g2, g3, g4, g5, g6, g7, g8] => { results := [.lit (.bool true)], args := [d1, d2, d3], vars := [g1, g2, g3, g4, g5, g6, g7, g8] }
  | _ => none }
def fnExactWorthOfRow : OpenClaim := { program := "ytmiafnmenolemaadoor", sum := "03bf5511ca2a9c00eebd77e2f68a5107803b81c452cecace0367a636a9ed79bc", func := "loop.example/g01338/laws.FnExactWorthOf", spec := "fnExactWorthOf", inPlace := ["internal/reflectlite.TypeOf"], unfollowed := true, recurses := true, named := ["loop.example/g01338/impl.errInvalid", "loop.example/g01338/impl.errRange", "loop.example/g01338/impl.errLimit", "loop.example/g01338/impl.errState", "loop.example/g01338/impl.errSyntax", "loop.example/g01338/impl.errNotFound", "loop.example/g01338/impl.errBudget", "loop.example/g01338/impl.errProof"], ifaces := true, apart := false, laid := [("loop.example/g01338/impl.errInvalid", laid_loop_example_g01338_impl_errInvalid), ("loop.example/g01338/impl.errRange", laid_loop_example_g01338_impl_errRange), ("loop.example/g01338/impl.errLimit", laid_loop_example_g01338_impl_errLimit), ("loop.example/g01338/impl.errState", laid_loop_example_g01338_impl_errState), ("loop.example/g01338/impl.errSyntax", laid_loop_example_g01338_impl_errSyntax), ("loop.example/g01338/impl.errNotFound", laid_loop_example_g01338_impl_errNotFound), ("loop.example/g01338/impl.errBudget", laid_loop_example_g01338_impl_errBudget), ("loop.example/g01338/impl.errProof", laid_loop_example_g01338_impl_errProof)] }
def FnExactWorthOfSaid : Prop := fnExactWorthOfRow.holds Tryd.pinned (OpenSpec.ofChange fnExactWorthOfSpec)

/-- ITS FALSE NEIGHBOUR: 'it returns false'. Refute it at one input. -/
def fnExactWorthOfWrong : ChangeSpec := { name := "fnExactWorthOf", vars := ["loop.example/g01338/impl.errInvalid", "loop.example/g01338/impl.errRange", "loop.example/g01338/impl.errLimit", "loop.example/g01338/impl.errState", "loop.example/g01338/impl.errSyntax", "loop.example/g01338/impl.errNotFound", "loop.example/g01338/impl.errBudget", "loop.example/g01338/impl.errProof"], fn := fun _ => fun
  | [d1, d2, d3, g1, g2, g3, g4, g5, g6, g7, g8] => { results := [.lit (.bool false)], args := [d1, d2, d3], vars := [g1, g2, g3, g4, g5, g6, g7, g8] }
  | _ => none }
def FnExactWorthOfWrongFalsely : Prop := fnExactWorthOfRow.holds Tryd.pinned (OpenSpec.ofChange fnExactWorthOfWrong)

/-- 'laws.FnExactLostBy': WHATEVER THE INPUT: true; the input reads as it did. -/
def fnExactLostBySpec : ChangeSpec := { name := "fnExactLostBy", vars := ["loop.example/g01338/impl.errInvalid", "loop.example/g01338/impl.errRange", "loop.example/g01338/impl.errLimit", "loop.example/g01338/impl.errState", "loop.example/g01338/impl.errSyntax", "loop.example/g01338/impl.errNotFound", "loop.example/g01338/impl.errBudget", "loop.example/g01338/impl.errProof"], fn := fun _ => fun
  | [d1, d2, d3, g1, g2, g3, g4, g5, g6, g7, g8] => { results := [.lit (.bool true)], args := [d1, d2, d3], vars := [g1, g2, g3, g4, g5, g6, g7, g8] }
  | _ => none }
def fnExactLostByRow : OpenClaim := { program := "ytmiafnmenolemaadoor", sum := "03bf5511ca2a9c00eebd77e2f68a5107803b81c452cecace0367a636a9ed79bc", func := "loop.example/g01338/laws.FnExactLostBy", spec := "fnExactLostBy", inPlace := ["internal/reflectlite.TypeOf"], unfollowed := true, recurses := true, named := ["loop.example/g01338/impl.errInvalid", "loop.example/g01338/impl.errRange", "loop.example/g01338/impl.errLimit", "loop.example/g01338/impl.errState", "loop.example/g01338/impl.errSyntax", "loop.example/g01338/impl.errNotFound", "loop.example/g01338/impl.errBudget", "loop.example/g01338/impl.errProof"], ifaces := true, apart := false, laid := [("loop.example/g01338/impl.errInvalid", laid_loop_example_g01338_impl_errInvalid), ("loop.example/g01338/impl.errRange", laid_loop_example_g01338_impl_errRange), ("loop.example/g01338/impl.errLimit", laid_loop_example_g01338_impl_errLimit), ("loop.example/g01338/impl.errState", laid_loop_example_g01338_impl_errState), ("loop.example/g01338/impl.errSyntax", laid_loop_example_g01338_impl_errSyntax), ("loop.example/g01338/impl.errNotFound", laid_loop_example_g01338_impl_errNotFound), ("loop.example/g01338/impl.errBudget", laid_loop_example_g01338_impl_errBudget), ("loop.example/g01338/impl.errProof", laid_loop_example_g01338_impl_errProof)] }
def FnExactLostBySaid : Prop := fnExactLostByRow.holds Tryd.pinned (OpenSpec.ofChange fnExactLostBySpec)

/-- ITS FALSE NEIGHBOUR: 'it returns false'. Refute it at one input. -/
def fnExactLostByWrong : ChangeSpec := { name := "fnExactLostBy", vars := ["loop.example/g01338/impl.errInvalid", "loop.example/g01338/impl.errRange", "loop.example/g01338/impl.errLimit", "loop.example/g01338/impl.errState", "loop.example/g01338/impl.errSyntax", "loop.example/g01338/impl.errNotFound", "loop.example/g01338/impl.errBudget", "loop.example/g01338/impl.errProof"], fn := fun _ => fun
  | [d1, d2, d3, g1, g2, g3, g4, g5, g6, g7, g8] => { results := [.lit (.bool false)], args := [d1, d2, d3], vars := [g1, g2, g3, g4, g5, g6, g7, g8] }
  | _ => none }
def FnExactLostByWrongFalsely : Prop := fnExactLostByRow.holds Tryd.pinned (OpenSpec.ofChange fnExactLostByWrong)

/-- 'laws.FnExactWorthBound': WHATEVER THE INPUT: true; the input reads as it did. -/
def fnExactWorthBoundSpec : ChangeSpec := { name := "fnExactWorthBound", vars := ["loop.example/g01338/impl.errRange", "loop.example/g01338/impl.errInvalid", "loop.example/g01338/impl.errLimit", "loop.example/g01338/impl.errState", "loop.example/g01338/impl.errSyntax", "loop.example/g01338/impl.errNotFound", "loop.example/g01338/impl.errBudget", "loop.example/g01338/impl.errProof"], fn := fun _ => fun
  | [d1, d2, g1, g2, g3, g4, g5, g6, g7, g8] => { results := [.lit (.bool true)], args := [d1, d2], vars := [g1, g2, g3, g4, g5, g6, g7, g8] }
  | _ => none }
def fnExactWorthBoundRow : OpenClaim := { program := "ytmiafnmenolemaadoor", sum := "03bf5511ca2a9c00eebd77e2f68a5107803b81c452cecace0367a636a9ed79bc", func := "loop.example/g01338/laws.FnExactWorthBound", spec := "fnExactWorthBound", inPlace := ["internal/reflectlite.TypeOf"], unfollowed := true, recurses := true, named := ["loop.example/g01338/impl.errRange", "loop.example/g01338/impl.errInvalid", "loop.example/g01338/impl.errLimit", "loop.example/g01338/impl.errState", "loop.example/g01338/impl.errSyntax", "loop.example/g01338/impl.errNotFound", "loop.example/g01338/impl.errBudget", "loop.example/g01338/impl.errProof"], ifaces := true, apart := false, laid := [("loop.example/g01338/impl.errInvalid", laid_loop_example_g01338_impl_errInvalid), ("loop.example/g01338/impl.errRange", laid_loop_example_g01338_impl_errRange), ("loop.example/g01338/impl.errLimit", laid_loop_example_g01338_impl_errLimit), ("loop.example/g01338/impl.errState", laid_loop_example_g01338_impl_errState), ("loop.example/g01338/impl.errSyntax", laid_loop_example_g01338_impl_errSyntax), ("loop.example/g01338/impl.errNotFound", laid_loop_example_g01338_impl_errNotFound), ("loop.example/g01338/impl.errBudget", laid_loop_example_g01338_impl_errBudget), ("loop.example/g01338/impl.errProof", laid_loop_example_g01338_impl_errProof)] }
def FnExactWorthBoundSaid : Prop := fnExactWorthBoundRow.holds Tryd.pinned (OpenSpec.ofChange fnExactWorthBoundSpec)

/-- ITS FALSE NEIGHBOUR: 'it returns false'. Refute it at one input. -/
def fnExactWorthBoundWrong : ChangeSpec := { name := "fnExactWorthBound", vars := ["loop.example/g01338/impl.errRange", "loop.example/g01338/impl.errInvalid", "loop.example/g01338/impl.errLimit", "loop.example/g01338/impl.errState", "loop.example/g01338/impl.errSyntax", "loop.example/g01338/impl.errNotFound", "loop.example/g01338/impl.errBudget", "loop.example/g01338/impl.errProof"], fn := fun _ => fun
  | [d1, d2, g1, g2, g3, g4, g5, g6, g7, g8] => { results := [.lit (.bool false)], args := [d1, d2], vars := [g1, g2, g3, g4, g5, g6, g7, g8] }
  | _ => none }
def FnExactWorthBoundWrongFalsely : Prop := fnExactWorthBoundRow.holds Tryd.pinned (OpenSpec.ofChange fnExactWorthBoundWrong)

/- THE SECOND FORM. 'bulk': how many values and letters a reading holds, each counted each time it is reached (what is shared counts as often as it is met; a slice's spare places count too). A statement '..UptoSaid' is the law's where the arguments, and the package variables that the reading takes, are together of bulk at most 1048576: NARROWER than '..Said'. Prove '..Said' where nothing that the law and all that it calls make is longer than what came in: it says more and counts as full. Else prove '..UptoSaid'. A law counts once. -/
mutual
def uptoBulk {H : Type} : DataW H → Nat
  | .lit (.string bytes) => bytes.length + 1
  | .lit _ => 1
  | .nil => 1
  | .ptr d => uptoBulk d + 1
  | .slice elems spare => uptoBulkAll elems + uptoBulkAll spare + 1
  | .agg parts => uptoBulkAll parts + 1
  | .iface _ d => uptoBulk d + 1
  | .map entries => uptoBulkEntries entries + 1
  | .held _ => 1
def uptoBulkAll {H : Type} : List (DataW H) → Nat
  | [] => 0
  | d :: r => uptoBulk d + uptoBulkAll r
def uptoBulkEntries {H : Type} : List (Lit × DataW H) → Nat
  | [] => 0
  | x :: r => uptoBulkEntry x + uptoBulkEntries r
def uptoBulkEntry {H : Type} : Lit × DataW H → Nat
  | (.string bytes, d) => bytes.length + uptoBulk d + 1
  | (_, d) => uptoBulk d + 1
 end
def uptoSmall : (H : Type) → List (DataW H) → Bool := fun _ ds => decide (uptoBulkAll ds ≤ 1048576)
def OpenSpec.upto (s : _root_.Go.ChangeSpec) : _root_.Go.OpenSpec := { _root_.Go.OpenSpec.ofChange s with cond := some uptoSmall }

/-- 'laws.FnExactValidPlots', WHERE WHAT IT READS IS OF BULK AT MOST 1048576: true; the input reads as it did. -/
def fnExactValidPlotsUptoRow : OpenClaim := { program := "ytmiafnmenolemaadoor", sum := "03bf5511ca2a9c00eebd77e2f68a5107803b81c452cecace0367a636a9ed79bc", func := "loop.example/g01338/laws.FnExactValidPlots", spec := "fnExactValidPlots", named := ["loop.example/g01338/impl.errInvalid"], ifaces := true, apart := false, laid := [("loop.example/g01338/impl.errInvalid", laid_loop_example_g01338_impl_errInvalid)], narrowed := true }
def FnExactValidPlotsUptoSaid : Prop := fnExactValidPlotsUptoRow.holds Tryd.pinned (OpenSpec.upto fnExactValidPlotsSpec)

/-- 'laws.FnExactWorthOn', WHERE WHAT IT READS IS OF BULK AT MOST 1048576: true; the input reads as it did. -/
def fnExactWorthOnUptoRow : OpenClaim := { program := "ytmiafnmenolemaadoor", sum := "03bf5511ca2a9c00eebd77e2f68a5107803b81c452cecace0367a636a9ed79bc", func := "loop.example/g01338/laws.FnExactWorthOn", spec := "fnExactWorthOn", inPlace := ["internal/reflectlite.TypeOf"], unfollowed := true, recurses := true, named := ["loop.example/g01338/impl.errRange", "loop.example/g01338/impl.errInvalid", "loop.example/g01338/impl.errLimit", "loop.example/g01338/impl.errState", "loop.example/g01338/impl.errSyntax", "loop.example/g01338/impl.errNotFound", "loop.example/g01338/impl.errBudget", "loop.example/g01338/impl.errProof"], ifaces := true, apart := false, laid := [("loop.example/g01338/impl.errInvalid", laid_loop_example_g01338_impl_errInvalid), ("loop.example/g01338/impl.errRange", laid_loop_example_g01338_impl_errRange), ("loop.example/g01338/impl.errLimit", laid_loop_example_g01338_impl_errLimit), ("loop.example/g01338/impl.errState", laid_loop_example_g01338_impl_errState), ("loop.example/g01338/impl.errSyntax", laid_loop_example_g01338_impl_errSyntax), ("loop.example/g01338/impl.errNotFound", laid_loop_example_g01338_impl_errNotFound), ("loop.example/g01338/impl.errBudget", laid_loop_example_g01338_impl_errBudget), ("loop.example/g01338/impl.errProof", laid_loop_example_g01338_impl_errProof)], narrowed := true }
def FnExactWorthOnUptoSaid : Prop := fnExactWorthOnUptoRow.holds Tryd.pinned (OpenSpec.upto fnExactWorthOnSpec)

/-- 'laws.FnExactBestDay', WHERE WHAT IT READS IS OF BULK AT MOST 1048576: true; the input reads as it did. -/
def fnExactBestDayUptoRow : OpenClaim := { program := "ytmiafnmenolemaadoor", sum := "03bf5511ca2a9c00eebd77e2f68a5107803b81c452cecace0367a636a9ed79bc", func := "loop.example/g01338/laws.FnExactBestDay", spec := "fnExactBestDay", inPlace := ["internal/reflectlite.TypeOf"], unfollowed := true, recurses := true, named := ["loop.example/g01338/impl.errRange", "loop.example/g01338/impl.errInvalid", "loop.example/g01338/impl.errLimit", "loop.example/g01338/impl.errState", "loop.example/g01338/impl.errSyntax", "loop.example/g01338/impl.errNotFound", "loop.example/g01338/impl.errBudget", "loop.example/g01338/impl.errProof"], ifaces := true, apart := false, laid := [("loop.example/g01338/impl.errInvalid", laid_loop_example_g01338_impl_errInvalid), ("loop.example/g01338/impl.errRange", laid_loop_example_g01338_impl_errRange), ("loop.example/g01338/impl.errLimit", laid_loop_example_g01338_impl_errLimit), ("loop.example/g01338/impl.errState", laid_loop_example_g01338_impl_errState), ("loop.example/g01338/impl.errSyntax", laid_loop_example_g01338_impl_errSyntax), ("loop.example/g01338/impl.errNotFound", laid_loop_example_g01338_impl_errNotFound), ("loop.example/g01338/impl.errBudget", laid_loop_example_g01338_impl_errBudget), ("loop.example/g01338/impl.errProof", laid_loop_example_g01338_impl_errProof)], narrowed := true }
def FnExactBestDayUptoSaid : Prop := fnExactBestDayUptoRow.holds Tryd.pinned (OpenSpec.upto fnExactBestDaySpec)

/-- 'laws.FnExactValidPlan', WHERE WHAT IT READS IS OF BULK AT MOST 1048576: true; the input reads as it did. -/
def fnExactValidPlanUptoRow : OpenClaim := { program := "ytmiafnmenolemaadoor", sum := "03bf5511ca2a9c00eebd77e2f68a5107803b81c452cecace0367a636a9ed79bc", func := "loop.example/g01338/laws.FnExactValidPlan", spec := "fnExactValidPlan", named := ["loop.example/g01338/impl.errInvalid"], ifaces := true, apart := false, laid := [("loop.example/g01338/impl.errInvalid", laid_loop_example_g01338_impl_errInvalid)], narrowed := true }
def FnExactValidPlanUptoSaid : Prop := fnExactValidPlanUptoRow.holds Tryd.pinned (OpenSpec.upto fnExactValidPlanSpec)

/-- 'laws.FnExactWorthOf', WHERE WHAT IT READS IS OF BULK AT MOST 1048576: true; the input reads as it did. -/
def fnExactWorthOfUptoRow : OpenClaim := { program := "ytmiafnmenolemaadoor", sum := "03bf5511ca2a9c00eebd77e2f68a5107803b81c452cecace0367a636a9ed79bc", func := "loop.example/g01338/laws.FnExactWorthOf", spec := "fnExactWorthOf", inPlace := ["internal/reflectlite.TypeOf"], unfollowed := true, recurses := true, named := ["loop.example/g01338/impl.errInvalid", "loop.example/g01338/impl.errRange", "loop.example/g01338/impl.errLimit", "loop.example/g01338/impl.errState", "loop.example/g01338/impl.errSyntax", "loop.example/g01338/impl.errNotFound", "loop.example/g01338/impl.errBudget", "loop.example/g01338/impl.errProof"], ifaces := true, apart := false, laid := [("loop.example/g01338/impl.errInvalid", laid_loop_example_g01338_impl_errInvalid), ("loop.example/g01338/impl.errRange", laid_loop_example_g01338_impl_errRange), ("loop.example/g01338/impl.errLimit", laid_loop_example_g01338_impl_errLimit), ("loop.example/g01338/impl.errState", laid_loop_example_g01338_impl_errState), ("loop.example/g01338/impl.errSyntax", laid_loop_example_g01338_impl_errSyntax), ("loop.example/g01338/impl.errNotFound", laid_loop_example_g01338_impl_errNotFound), ("loop.example/g01338/impl.errBudget", laid_loop_example_g01338_impl_errBudget), ("loop.example/g01338/impl.errProof", laid_loop_example_g01338_impl_errProof)], narrowed := true }
def FnExactWorthOfUptoSaid : Prop := fnExactWorthOfUptoRow.holds Tryd.pinned (OpenSpec.upto fnExactWorthOfSpec)

/-- 'laws.FnExactLostBy', WHERE WHAT IT READS IS OF BULK AT MOST 1048576: true; the input reads as it did. -/
def fnExactLostByUptoRow : OpenClaim := { program := "ytmiafnmenolemaadoor", sum := "03bf5511ca2a9c00eebd77e2f68a5107803b81c452cecace0367a636a9ed79bc", func := "loop.example/g01338/laws.FnExactLostBy", spec := "fnExactLostBy", inPlace := ["internal/reflectlite.TypeOf"], unfollowed := true, recurses := true, named := ["loop.example/g01338/impl.errInvalid", "loop.example/g01338/impl.errRange", "loop.example/g01338/impl.errLimit", "loop.example/g01338/impl.errState", "loop.example/g01338/impl.errSyntax", "loop.example/g01338/impl.errNotFound", "loop.example/g01338/impl.errBudget", "loop.example/g01338/impl.errProof"], ifaces := true, apart := false, laid := [("loop.example/g01338/impl.errInvalid", laid_loop_example_g01338_impl_errInvalid), ("loop.example/g01338/impl.errRange", laid_loop_example_g01338_impl_errRange), ("loop.example/g01338/impl.errLimit", laid_loop_example_g01338_impl_errLimit), ("loop.example/g01338/impl.errState", laid_loop_example_g01338_impl_errState), ("loop.example/g01338/impl.errSyntax", laid_loop_example_g01338_impl_errSyntax), ("loop.example/g01338/impl.errNotFound", laid_loop_example_g01338_impl_errNotFound), ("loop.example/g01338/impl.errBudget", laid_loop_example_g01338_impl_errBudget), ("loop.example/g01338/impl.errProof", laid_loop_example_g01338_impl_errProof)], narrowed := true }
def FnExactLostByUptoSaid : Prop := fnExactLostByUptoRow.holds Tryd.pinned (OpenSpec.upto fnExactLostBySpec)

/-- 'laws.FnExactWorthBound', WHERE WHAT IT READS IS OF BULK AT MOST 1048576: true; the input reads as it did. -/
def fnExactWorthBoundUptoRow : OpenClaim := { program := "ytmiafnmenolemaadoor", sum := "03bf5511ca2a9c00eebd77e2f68a5107803b81c452cecace0367a636a9ed79bc", func := "loop.example/g01338/laws.FnExactWorthBound", spec := "fnExactWorthBound", inPlace := ["internal/reflectlite.TypeOf"], unfollowed := true, recurses := true, named := ["loop.example/g01338/impl.errRange", "loop.example/g01338/impl.errInvalid", "loop.example/g01338/impl.errLimit", "loop.example/g01338/impl.errState", "loop.example/g01338/impl.errSyntax", "loop.example/g01338/impl.errNotFound", "loop.example/g01338/impl.errBudget", "loop.example/g01338/impl.errProof"], ifaces := true, apart := false, laid := [("loop.example/g01338/impl.errInvalid", laid_loop_example_g01338_impl_errInvalid), ("loop.example/g01338/impl.errRange", laid_loop_example_g01338_impl_errRange), ("loop.example/g01338/impl.errLimit", laid_loop_example_g01338_impl_errLimit), ("loop.example/g01338/impl.errState", laid_loop_example_g01338_impl_errState), ("loop.example/g01338/impl.errSyntax", laid_loop_example_g01338_impl_errSyntax), ("loop.example/g01338/impl.errNotFound", laid_loop_example_g01338_impl_errNotFound), ("loop.example/g01338/impl.errBudget", laid_loop_example_g01338_impl_errBudget), ("loop.example/g01338/impl.errProof", laid_loop_example_g01338_impl_errProof)], narrowed := true }
def FnExactWorthBoundUptoSaid : Prop := fnExactWorthBoundUptoRow.holds Tryd.pinned (OpenSpec.upto fnExactWorthBoundSpec)

end Rows
end Go.Proofs.YtmiafnmenolemaaDoor
