/-
  NARROWER THAN 'FOR EVERY INPUT', by the rows' own cells (each row's printed sentence says how): FnExactValidBeat: ifaces, laid · FnExactTurnBeat: ifaces, laid · FnExactBackBeat: ifaces, laid · FnExactJoinBeats: ifaces, laid · FnExactSeenBy: ifaces, laid · FnExactMinutesOf: ifaces, laid · FnExactSeenAt: ifaces, laid · FnExactCheckBeat: ifaces, laid.
  DERIVED. THE GIVEN ROWS OF THIS SEAT. 8 by the template 'for every input the law returns true; each argument reads behind the call as it read before'; 0 by the template 'total and deterministic' (their statements: YtdjbaajcgipebaaDoorTotals.lean).
  GIVEN WITH THE SEED: the statements are not yours to turn. If you find one false, say at which input.
  Laid BY PROGRAM, IN A SANDBOX (cutbox-rows.mjs): the forced cells as the released guide's own fill.sh prints them over the translation a8d66db5b0d7530f… (all of the seat's roots in one cut). By AI agents, Wed Nov 11 2026. No macro, syntax, notation, axiom, sorry.
-/
import Derived.Test.YtdjbaajcgipebaaDoorChecked
import GoSem.Claim
import GoSem.ClaimJoined
import GoSem.ClaimMapViews
import Derived.JoinedTies
import Derived.KernelRfl
namespace Go.Proofs.YtdjbaajcgipebaaDoor
/- THE CELL 'sum', in the pinned program and in every row, IS THE sha256 OF THE DUMP (.gsa) THAT YtdjbaajcgipebaaDoorProg.lean LOADS. Nothing in Lean hashes anything: it is a label: what it is worth is what the hold of that sum in a sandbox is worth. -/
noncomputable def Tryd.pinned : Pinned := { name := "ytdjbaajcgipebaadoor", sum := "a8d66db5b0d7530f42e306957ed77959c7ebb3bfa01e291c9230f2dd4f95be13", checked := Tryd.checked }
namespace Rows
def none {H : Type} : Left H := { results := [], args := [] }

/- WHAT THE LISTED PACKAGE-LEVEL VARIABLES READ AS WHEN THE CALL BEGINS. Each datum BY PROGRAM (the guide's laid-datum.mjs) off the statement by which the dump's own 'gosem.cut.vars' lays the variable. In a bare row this is a premise. The card (YtdjbaajcgipebaaDoorCards.lean) ties it to the program's text. -/
def laid_loop_example_g01338_impl_errInvalid {H : Type} : DataW H := .iface "*errors.errorString" (.ptr (.agg [.lit (.string [105, 110, 118, 97, 108, 105, 100])]))
def laid_loop_example_g01338_impl_errRange {H : Type} : DataW H := .iface "*errors.errorString" (.ptr (.agg [.lit (.string [114, 97, 110, 103, 101])]))
def laid_loop_example_g01338_impl_errLimit {H : Type} : DataW H := .iface "*errors.errorString" (.ptr (.agg [.lit (.string [108, 105, 109, 105, 116])]))
def laid_loop_example_g01338_impl_errState {H : Type} : DataW H := .iface "*errors.errorString" (.ptr (.agg [.lit (.string [115, 116, 97, 116, 101])]))
def laid_loop_example_g01338_impl_errSyntax {H : Type} : DataW H := .iface "*errors.errorString" (.ptr (.agg [.lit (.string [115, 121, 110, 116, 97, 120])]))
def laid_loop_example_g01338_impl_errNotFound {H : Type} : DataW H := .iface "*errors.errorString" (.ptr (.agg [.lit (.string [110, 111, 116, 102, 111, 117, 110, 100])]))
def laid_loop_example_g01338_impl_errBudget {H : Type} : DataW H := .iface "*errors.errorString" (.ptr (.agg [.lit (.string [98, 117, 100, 103, 101, 116])]))
def laid_loop_example_g01338_impl_errProof {H : Type} : DataW H := .iface "*errors.errorString" (.ptr (.agg [.lit (.string [112, 114, 111, 111, 102])]))

/-- 'laws.FnExactValidBeat': WHATEVER THE INPUT: true; the input reads as it did. -/
def fnExactValidBeatSpec : ChangeSpec := { name := "fnExactValidBeat", vars := ["loop.example/g01338/impl.errInvalid"], fn := fun _ => fun
  | [d1, d2, g1] => { results := [.lit (.bool true)], args := [d1, d2], vars := [g1] }
  | _ => none }
def fnExactValidBeatRow : OpenClaim := { program := "ytdjbaajcgipebaadoor", sum := "a8d66db5b0d7530f42e306957ed77959c7ebb3bfa01e291c9230f2dd4f95be13", func := "loop.example/g01338/laws.FnExactValidBeat", spec := "fnExactValidBeat", unfollowed := true, recurses := true, named := ["loop.example/g01338/impl.errInvalid"], ifaces := true, plainKeys := false, apart := false, laid := [("loop.example/g01338/impl.errInvalid", laid_loop_example_g01338_impl_errInvalid)] }
def FnExactValidBeatSaid : Prop := fnExactValidBeatRow.holds Tryd.pinned (OpenSpec.ofChange fnExactValidBeatSpec)

/-- ITS FALSE NEIGHBOUR: 'it returns false'. Refute it at one input. -/
def fnExactValidBeatWrong : ChangeSpec := { name := "fnExactValidBeat", vars := ["loop.example/g01338/impl.errInvalid"], fn := fun _ => fun
  | [d1, d2, g1] => { results := [.lit (.bool false)], args := [d1, d2], vars := [g1] }
  | _ => none }
def FnExactValidBeatWrongFalsely : Prop := fnExactValidBeatRow.holds Tryd.pinned (OpenSpec.ofChange fnExactValidBeatWrong)

/-- 'laws.FnExactTurnBeat': WHATEVER THE INPUT: true; the input reads as it did. -/
def fnExactTurnBeatSpec : ChangeSpec := { name := "fnExactTurnBeat", vars := ["loop.example/g01338/impl.errRange", "loop.example/g01338/impl.errInvalid", "loop.example/g01338/impl.errLimit", "loop.example/g01338/impl.errState", "loop.example/g01338/impl.errSyntax", "loop.example/g01338/impl.errNotFound", "loop.example/g01338/impl.errBudget", "loop.example/g01338/impl.errProof"], fn := fun _ => fun
  | [d1, d2, d3, g1, g2, g3, g4, g5, g6, g7, g8] => { results := [.lit (.bool true)], args := [d1, d2, d3], vars := [g1, g2, g3, g4, g5, g6, g7, g8] }
  | _ => none }
def fnExactTurnBeatRow : OpenClaim := { program := "ytdjbaajcgipebaadoor", sum := "a8d66db5b0d7530f42e306957ed77959c7ebb3bfa01e291c9230f2dd4f95be13", func := "loop.example/g01338/laws.FnExactTurnBeat", spec := "fnExactTurnBeat", inPlace := ["internal/reflectlite.TypeOf"], unfollowed := true, recurses := true, named := ["loop.example/g01338/impl.errRange", "loop.example/g01338/impl.errInvalid", "loop.example/g01338/impl.errLimit", "loop.example/g01338/impl.errState", "loop.example/g01338/impl.errSyntax", "loop.example/g01338/impl.errNotFound", "loop.example/g01338/impl.errBudget", "loop.example/g01338/impl.errProof"], ifaces := true, plainKeys := false, apart := false, laid := [("loop.example/g01338/impl.errInvalid", laid_loop_example_g01338_impl_errInvalid), ("loop.example/g01338/impl.errRange", laid_loop_example_g01338_impl_errRange), ("loop.example/g01338/impl.errLimit", laid_loop_example_g01338_impl_errLimit), ("loop.example/g01338/impl.errState", laid_loop_example_g01338_impl_errState), ("loop.example/g01338/impl.errSyntax", laid_loop_example_g01338_impl_errSyntax), ("loop.example/g01338/impl.errNotFound", laid_loop_example_g01338_impl_errNotFound), ("loop.example/g01338/impl.errBudget", laid_loop_example_g01338_impl_errBudget), ("loop.example/g01338/impl.errProof", laid_loop_example_g01338_impl_errProof)] }
def FnExactTurnBeatSaid : Prop := fnExactTurnBeatRow.holds Tryd.pinned (OpenSpec.ofChange fnExactTurnBeatSpec)

/-- ITS FALSE NEIGHBOUR: 'it returns false'. Refute it at one input. -/
def fnExactTurnBeatWrong : ChangeSpec := { name := "fnExactTurnBeat", vars := ["loop.example/g01338/impl.errRange", "loop.example/g01338/impl.errInvalid", "loop.example/g01338/impl.errLimit", "loop.example/g01338/impl.errState", "loop.example/g01338/impl.errSyntax", "loop.example/g01338/impl.errNotFound", "loop.example/g01338/impl.errBudget", "loop.example/g01338/impl.errProof"], fn := fun _ => fun
  | [d1, d2, d3, g1, g2, g3, g4, g5, g6, g7, g8] => { results := [.lit (.bool false)], args := [d1, d2, d3], vars := [g1, g2, g3, g4, g5, g6, g7, g8] }
  | _ => none }
def FnExactTurnBeatWrongFalsely : Prop := fnExactTurnBeatRow.holds Tryd.pinned (OpenSpec.ofChange fnExactTurnBeatWrong)

/-- 'laws.FnExactBackBeat': WHATEVER THE INPUT: true; the input reads as it did. -/
def fnExactBackBeatSpec : ChangeSpec := { name := "fnExactBackBeat", vars := ["loop.example/g01338/impl.errInvalid", "loop.example/g01338/impl.errRange", "loop.example/g01338/impl.errLimit", "loop.example/g01338/impl.errState", "loop.example/g01338/impl.errSyntax", "loop.example/g01338/impl.errNotFound", "loop.example/g01338/impl.errBudget", "loop.example/g01338/impl.errProof"], fn := fun _ => fun
  | [d1, d2, g1, g2, g3, g4, g5, g6, g7, g8] => { results := [.lit (.bool true)], args := [d1, d2], vars := [g1, g2, g3, g4, g5, g6, g7, g8] }
  | _ => none }
def fnExactBackBeatRow : OpenClaim := { program := "ytdjbaajcgipebaadoor", sum := "a8d66db5b0d7530f42e306957ed77959c7ebb3bfa01e291c9230f2dd4f95be13", func := "loop.example/g01338/laws.FnExactBackBeat", spec := "fnExactBackBeat", inPlace := ["internal/reflectlite.TypeOf"], unfollowed := true, recurses := true, named := ["loop.example/g01338/impl.errInvalid", "loop.example/g01338/impl.errRange", "loop.example/g01338/impl.errLimit", "loop.example/g01338/impl.errState", "loop.example/g01338/impl.errSyntax", "loop.example/g01338/impl.errNotFound", "loop.example/g01338/impl.errBudget", "loop.example/g01338/impl.errProof"], ifaces := true, plainKeys := false, apart := false, laid := [("loop.example/g01338/impl.errInvalid", laid_loop_example_g01338_impl_errInvalid), ("loop.example/g01338/impl.errRange", laid_loop_example_g01338_impl_errRange), ("loop.example/g01338/impl.errLimit", laid_loop_example_g01338_impl_errLimit), ("loop.example/g01338/impl.errState", laid_loop_example_g01338_impl_errState), ("loop.example/g01338/impl.errSyntax", laid_loop_example_g01338_impl_errSyntax), ("loop.example/g01338/impl.errNotFound", laid_loop_example_g01338_impl_errNotFound), ("loop.example/g01338/impl.errBudget", laid_loop_example_g01338_impl_errBudget), ("loop.example/g01338/impl.errProof", laid_loop_example_g01338_impl_errProof)] }
def FnExactBackBeatSaid : Prop := fnExactBackBeatRow.holds Tryd.pinned (OpenSpec.ofChange fnExactBackBeatSpec)

/-- ITS FALSE NEIGHBOUR: 'it returns false'. Refute it at one input. -/
def fnExactBackBeatWrong : ChangeSpec := { name := "fnExactBackBeat", vars := ["loop.example/g01338/impl.errInvalid", "loop.example/g01338/impl.errRange", "loop.example/g01338/impl.errLimit", "loop.example/g01338/impl.errState", "loop.example/g01338/impl.errSyntax", "loop.example/g01338/impl.errNotFound", "loop.example/g01338/impl.errBudget", "loop.example/g01338/impl.errProof"], fn := fun _ => fun
  | [d1, d2, g1, g2, g3, g4, g5, g6, g7, g8] => { results := [.lit (.bool false)], args := [d1, d2], vars := [g1, g2, g3, g4, g5, g6, g7, g8] }
  | _ => none }
def FnExactBackBeatWrongFalsely : Prop := fnExactBackBeatRow.holds Tryd.pinned (OpenSpec.ofChange fnExactBackBeatWrong)

/-- 'laws.FnExactJoinBeats': WHATEVER THE INPUT: true; the input reads as it did. -/
def fnExactJoinBeatsSpec : ChangeSpec := { name := "fnExactJoinBeats", vars := ["loop.example/g01338/impl.errState", "loop.example/g01338/impl.errLimit", "loop.example/g01338/impl.errInvalid", "loop.example/g01338/impl.errRange", "loop.example/g01338/impl.errSyntax", "loop.example/g01338/impl.errNotFound", "loop.example/g01338/impl.errBudget", "loop.example/g01338/impl.errProof"], fn := fun _ => fun
  | [d1, d2, d3, g1, g2, g3, g4, g5, g6, g7, g8] => { results := [.lit (.bool true)], args := [d1, d2, d3], vars := [g1, g2, g3, g4, g5, g6, g7, g8] }
  | _ => none }
def fnExactJoinBeatsRow : OpenClaim := { program := "ytdjbaajcgipebaadoor", sum := "a8d66db5b0d7530f42e306957ed77959c7ebb3bfa01e291c9230f2dd4f95be13", func := "loop.example/g01338/laws.FnExactJoinBeats", spec := "fnExactJoinBeats", inPlace := ["internal/reflectlite.TypeOf"], unfollowed := true, recurses := true, named := ["loop.example/g01338/impl.errState", "loop.example/g01338/impl.errLimit", "loop.example/g01338/impl.errInvalid", "loop.example/g01338/impl.errRange", "loop.example/g01338/impl.errSyntax", "loop.example/g01338/impl.errNotFound", "loop.example/g01338/impl.errBudget", "loop.example/g01338/impl.errProof"], ifaces := true, plainKeys := false, apart := false, laid := [("loop.example/g01338/impl.errInvalid", laid_loop_example_g01338_impl_errInvalid), ("loop.example/g01338/impl.errRange", laid_loop_example_g01338_impl_errRange), ("loop.example/g01338/impl.errLimit", laid_loop_example_g01338_impl_errLimit), ("loop.example/g01338/impl.errState", laid_loop_example_g01338_impl_errState), ("loop.example/g01338/impl.errSyntax", laid_loop_example_g01338_impl_errSyntax), ("loop.example/g01338/impl.errNotFound", laid_loop_example_g01338_impl_errNotFound), ("loop.example/g01338/impl.errBudget", laid_loop_example_g01338_impl_errBudget), ("loop.example/g01338/impl.errProof", laid_loop_example_g01338_impl_errProof)] }
def FnExactJoinBeatsSaid : Prop := fnExactJoinBeatsRow.holds Tryd.pinned (OpenSpec.ofChange fnExactJoinBeatsSpec)

/-- ITS FALSE NEIGHBOUR: 'it returns false'. Refute it at one input. -/
def fnExactJoinBeatsWrong : ChangeSpec := { name := "fnExactJoinBeats", vars := ["loop.example/g01338/impl.errState", "loop.example/g01338/impl.errLimit", "loop.example/g01338/impl.errInvalid", "loop.example/g01338/impl.errRange", "loop.example/g01338/impl.errSyntax", "loop.example/g01338/impl.errNotFound", "loop.example/g01338/impl.errBudget", "loop.example/g01338/impl.errProof"], fn := fun _ => fun
  | [d1, d2, d3, g1, g2, g3, g4, g5, g6, g7, g8] => { results := [.lit (.bool false)], args := [d1, d2, d3], vars := [g1, g2, g3, g4, g5, g6, g7, g8] }
  | _ => none }
def FnExactJoinBeatsWrongFalsely : Prop := fnExactJoinBeatsRow.holds Tryd.pinned (OpenSpec.ofChange fnExactJoinBeatsWrong)

/-- 'laws.FnExactSeenBy': WHATEVER THE INPUT: true; the input reads as it did. -/
def fnExactSeenBySpec : ChangeSpec := { name := "fnExactSeenBy", vars := ["loop.example/g01338/impl.errRange", "loop.example/g01338/impl.errInvalid", "loop.example/g01338/impl.errLimit", "loop.example/g01338/impl.errState", "loop.example/g01338/impl.errSyntax", "loop.example/g01338/impl.errNotFound", "loop.example/g01338/impl.errBudget", "loop.example/g01338/impl.errProof"], fn := fun _ => fun
  | [d1, d2, d3, g1, g2, g3, g4, g5, g6, g7, g8] => { results := [.lit (.bool true)], args := [d1, d2, d3], vars := [g1, g2, g3, g4, g5, g6, g7, g8] }
  | _ => none }
def fnExactSeenByRow : OpenClaim := { program := "ytdjbaajcgipebaadoor", sum := "a8d66db5b0d7530f42e306957ed77959c7ebb3bfa01e291c9230f2dd4f95be13", func := "loop.example/g01338/laws.FnExactSeenBy", spec := "fnExactSeenBy", inPlace := ["internal/reflectlite.TypeOf"], unfollowed := true, recurses := true, named := ["loop.example/g01338/impl.errRange", "loop.example/g01338/impl.errInvalid", "loop.example/g01338/impl.errLimit", "loop.example/g01338/impl.errState", "loop.example/g01338/impl.errSyntax", "loop.example/g01338/impl.errNotFound", "loop.example/g01338/impl.errBudget", "loop.example/g01338/impl.errProof"], ifaces := true, plainKeys := false, apart := false, laid := [("loop.example/g01338/impl.errInvalid", laid_loop_example_g01338_impl_errInvalid), ("loop.example/g01338/impl.errRange", laid_loop_example_g01338_impl_errRange), ("loop.example/g01338/impl.errLimit", laid_loop_example_g01338_impl_errLimit), ("loop.example/g01338/impl.errState", laid_loop_example_g01338_impl_errState), ("loop.example/g01338/impl.errSyntax", laid_loop_example_g01338_impl_errSyntax), ("loop.example/g01338/impl.errNotFound", laid_loop_example_g01338_impl_errNotFound), ("loop.example/g01338/impl.errBudget", laid_loop_example_g01338_impl_errBudget), ("loop.example/g01338/impl.errProof", laid_loop_example_g01338_impl_errProof)] }
def FnExactSeenBySaid : Prop := fnExactSeenByRow.holds Tryd.pinned (OpenSpec.ofChange fnExactSeenBySpec)

/-- ITS FALSE NEIGHBOUR: 'it returns false'. Refute it at one input. -/
def fnExactSeenByWrong : ChangeSpec := { name := "fnExactSeenBy", vars := ["loop.example/g01338/impl.errRange", "loop.example/g01338/impl.errInvalid", "loop.example/g01338/impl.errLimit", "loop.example/g01338/impl.errState", "loop.example/g01338/impl.errSyntax", "loop.example/g01338/impl.errNotFound", "loop.example/g01338/impl.errBudget", "loop.example/g01338/impl.errProof"], fn := fun _ => fun
  | [d1, d2, d3, g1, g2, g3, g4, g5, g6, g7, g8] => { results := [.lit (.bool false)], args := [d1, d2, d3], vars := [g1, g2, g3, g4, g5, g6, g7, g8] }
  | _ => none }
def FnExactSeenByWrongFalsely : Prop := fnExactSeenByRow.holds Tryd.pinned (OpenSpec.ofChange fnExactSeenByWrong)

/-- 'laws.FnExactMinutesOf': WHATEVER THE INPUT: true; the input reads as it did. -/
def fnExactMinutesOfSpec : ChangeSpec := { name := "fnExactMinutesOf", vars := ["loop.example/g01338/impl.errRange", "loop.example/g01338/impl.errInvalid", "loop.example/g01338/impl.errLimit", "loop.example/g01338/impl.errState", "loop.example/g01338/impl.errSyntax", "loop.example/g01338/impl.errNotFound", "loop.example/g01338/impl.errBudget", "loop.example/g01338/impl.errProof"], fn := fun _ => fun
  | [d1, d2, d3, d4, g1, g2, g3, g4, g5, g6, g7, g8] => { results := [.lit (.bool true)], args := [d1, d2, d3, d4], vars := [g1, g2, g3, g4, g5, g6, g7, g8] }
  | _ => none }
def fnExactMinutesOfRow : OpenClaim := { program := "ytdjbaajcgipebaadoor", sum := "a8d66db5b0d7530f42e306957ed77959c7ebb3bfa01e291c9230f2dd4f95be13", func := "loop.example/g01338/laws.FnExactMinutesOf", spec := "fnExactMinutesOf", inPlace := ["internal/reflectlite.TypeOf"], unfollowed := true, recurses := true, named := ["loop.example/g01338/impl.errRange", "loop.example/g01338/impl.errInvalid", "loop.example/g01338/impl.errLimit", "loop.example/g01338/impl.errState", "loop.example/g01338/impl.errSyntax", "loop.example/g01338/impl.errNotFound", "loop.example/g01338/impl.errBudget", "loop.example/g01338/impl.errProof"], ifaces := true, plainKeys := false, apart := false, laid := [("loop.example/g01338/impl.errInvalid", laid_loop_example_g01338_impl_errInvalid), ("loop.example/g01338/impl.errRange", laid_loop_example_g01338_impl_errRange), ("loop.example/g01338/impl.errLimit", laid_loop_example_g01338_impl_errLimit), ("loop.example/g01338/impl.errState", laid_loop_example_g01338_impl_errState), ("loop.example/g01338/impl.errSyntax", laid_loop_example_g01338_impl_errSyntax), ("loop.example/g01338/impl.errNotFound", laid_loop_example_g01338_impl_errNotFound), ("loop.example/g01338/impl.errBudget", laid_loop_example_g01338_impl_errBudget), ("loop.example/g01338/impl.errProof", laid_loop_example_g01338_impl_errProof)] }
def FnExactMinutesOfSaid : Prop := fnExactMinutesOfRow.holds Tryd.pinned (OpenSpec.ofChange fnExactMinutesOfSpec)

/-- ITS FALSE NEIGHBOUR: 'it returns false'. Refute it at one input. -/
def fnExactMinutesOfWrong : ChangeSpec := { name := "fnExactMinutesOf", vars := ["loop.example/g01338/impl.errRange", "loop.example/g01338/impl.errInvalid", "loop.example/g01338/impl.errLimit", "loop.example/g01338/impl.errState", "loop.example/g01338/impl.errSyntax", "loop.example/g01338/impl.errNotFound", "loop.example/g01338/impl.errBudget", "loop.example/g01338/impl.errProof"], fn := fun _ => fun
  | [d1, d2, d3, d4, g1, g2, g3, g4, g5, g6, g7, g8] => { results := [.lit (.bool false)], args := [d1, d2, d3, d4], vars := [g1, g2, g3, g4, g5, g6, g7, g8] }
  | _ => none }
def FnExactMinutesOfWrongFalsely : Prop := fnExactMinutesOfRow.holds Tryd.pinned (OpenSpec.ofChange fnExactMinutesOfWrong)

/-- 'laws.FnExactSeenAt': WHATEVER THE INPUT: true; the input reads as it did. -/
def fnExactSeenAtSpec : ChangeSpec := { name := "fnExactSeenAt", vars := ["loop.example/g01338/impl.errRange", "loop.example/g01338/impl.errInvalid", "loop.example/g01338/impl.errLimit", "loop.example/g01338/impl.errState", "loop.example/g01338/impl.errSyntax", "loop.example/g01338/impl.errNotFound", "loop.example/g01338/impl.errBudget", "loop.example/g01338/impl.errProof"], fn := fun _ => fun
  | [d1, d2, d3, d4, g1, g2, g3, g4, g5, g6, g7, g8] => { results := [.lit (.bool true)], args := [d1, d2, d3, d4], vars := [g1, g2, g3, g4, g5, g6, g7, g8] }
  | _ => none }
def fnExactSeenAtRow : OpenClaim := { program := "ytdjbaajcgipebaadoor", sum := "a8d66db5b0d7530f42e306957ed77959c7ebb3bfa01e291c9230f2dd4f95be13", func := "loop.example/g01338/laws.FnExactSeenAt", spec := "fnExactSeenAt", inPlace := ["internal/reflectlite.TypeOf"], unfollowed := true, recurses := true, named := ["loop.example/g01338/impl.errRange", "loop.example/g01338/impl.errInvalid", "loop.example/g01338/impl.errLimit", "loop.example/g01338/impl.errState", "loop.example/g01338/impl.errSyntax", "loop.example/g01338/impl.errNotFound", "loop.example/g01338/impl.errBudget", "loop.example/g01338/impl.errProof"], ifaces := true, plainKeys := false, apart := false, laid := [("loop.example/g01338/impl.errInvalid", laid_loop_example_g01338_impl_errInvalid), ("loop.example/g01338/impl.errRange", laid_loop_example_g01338_impl_errRange), ("loop.example/g01338/impl.errLimit", laid_loop_example_g01338_impl_errLimit), ("loop.example/g01338/impl.errState", laid_loop_example_g01338_impl_errState), ("loop.example/g01338/impl.errSyntax", laid_loop_example_g01338_impl_errSyntax), ("loop.example/g01338/impl.errNotFound", laid_loop_example_g01338_impl_errNotFound), ("loop.example/g01338/impl.errBudget", laid_loop_example_g01338_impl_errBudget), ("loop.example/g01338/impl.errProof", laid_loop_example_g01338_impl_errProof)] }
def FnExactSeenAtSaid : Prop := fnExactSeenAtRow.holds Tryd.pinned (OpenSpec.ofChange fnExactSeenAtSpec)

/-- ITS FALSE NEIGHBOUR: 'it returns false'. Refute it at one input. -/
def fnExactSeenAtWrong : ChangeSpec := { name := "fnExactSeenAt", vars := ["loop.example/g01338/impl.errRange", "loop.example/g01338/impl.errInvalid", "loop.example/g01338/impl.errLimit", "loop.example/g01338/impl.errState", "loop.example/g01338/impl.errSyntax", "loop.example/g01338/impl.errNotFound", "loop.example/g01338/impl.errBudget", "loop.example/g01338/impl.errProof"], fn := fun _ => fun
  | [d1, d2, d3, d4, g1, g2, g3, g4, g5, g6, g7, g8] => { results := [.lit (.bool false)], args := [d1, d2, d3, d4], vars := [g1, g2, g3, g4, g5, g6, g7, g8] }
  | _ => none }
def FnExactSeenAtWrongFalsely : Prop := fnExactSeenAtRow.holds Tryd.pinned (OpenSpec.ofChange fnExactSeenAtWrong)

/-- 'laws.FnExactCheckBeat': WHATEVER THE INPUT: true; the input reads as it did. -/
def fnExactCheckBeatSpec : ChangeSpec := { name := "fnExactCheckBeat", vars := ["loop.example/g01338/impl.errRange", "loop.example/g01338/impl.errInvalid", "loop.example/g01338/impl.errLimit", "loop.example/g01338/impl.errState", "loop.example/g01338/impl.errSyntax", "loop.example/g01338/impl.errNotFound", "loop.example/g01338/impl.errBudget", "loop.example/g01338/impl.errProof"], fn := fun _ => fun
  | [d1, d2, d3, d4, g1, g2, g3, g4, g5, g6, g7, g8] => { results := [.lit (.bool true)], args := [d1, d2, d3, d4], vars := [g1, g2, g3, g4, g5, g6, g7, g8] }
  | _ => none }
def fnExactCheckBeatRow : OpenClaim := { program := "ytdjbaajcgipebaadoor", sum := "a8d66db5b0d7530f42e306957ed77959c7ebb3bfa01e291c9230f2dd4f95be13", func := "loop.example/g01338/laws.FnExactCheckBeat", spec := "fnExactCheckBeat", inPlace := ["internal/reflectlite.TypeOf"], unfollowed := true, recurses := true, named := ["loop.example/g01338/impl.errRange", "loop.example/g01338/impl.errInvalid", "loop.example/g01338/impl.errLimit", "loop.example/g01338/impl.errState", "loop.example/g01338/impl.errSyntax", "loop.example/g01338/impl.errNotFound", "loop.example/g01338/impl.errBudget", "loop.example/g01338/impl.errProof"], ifaces := true, plainKeys := false, apart := false, laid := [("loop.example/g01338/impl.errInvalid", laid_loop_example_g01338_impl_errInvalid), ("loop.example/g01338/impl.errRange", laid_loop_example_g01338_impl_errRange), ("loop.example/g01338/impl.errLimit", laid_loop_example_g01338_impl_errLimit), ("loop.example/g01338/impl.errState", laid_loop_example_g01338_impl_errState), ("loop.example/g01338/impl.errSyntax", laid_loop_example_g01338_impl_errSyntax), ("loop.example/g01338/impl.errNotFound", laid_loop_example_g01338_impl_errNotFound), ("loop.example/g01338/impl.errBudget", laid_loop_example_g01338_impl_errBudget), ("loop.example/g01338/impl.errProof", laid_loop_example_g01338_impl_errProof)] }
def FnExactCheckBeatSaid : Prop := fnExactCheckBeatRow.holds Tryd.pinned (OpenSpec.ofChange fnExactCheckBeatSpec)

/-- ITS FALSE NEIGHBOUR: 'it returns false'. Refute it at one input. -/
def fnExactCheckBeatWrong : ChangeSpec := { name := "fnExactCheckBeat", vars := ["loop.example/g01338/impl.errRange", "loop.example/g01338/impl.errInvalid", "loop.example/g01338/impl.errLimit", "loop.example/g01338/impl.errState", "loop.example/g01338/impl.errSyntax", "loop.example/g01338/impl.errNotFound", "loop.example/g01338/impl.errBudget", "loop.example/g01338/impl.errProof"], fn := fun _ => fun
  | [d1, d2, d3, d4, g1, g2, g3, g4, g5, g6, g7, g8] => { results := [.lit (.bool false)], args := [d1, d2, d3, d4], vars := [g1, g2, g3, g4, g5, g6, g7, g8] }
  | _ => none }
def FnExactCheckBeatWrongFalsely : Prop := fnExactCheckBeatRow.holds Tryd.pinned (OpenSpec.ofChange fnExactCheckBeatWrong)

/- THE SECOND FORM. 'bulk': how many values and letters a reading holds, each counted each time it is reached (what is shared counts as often as it is met; a slice's spare places count too). A statement '..UptoSaid' is the law's where the arguments, and the package variables that the reading takes, are together of bulk at most 1048576: NARROWER than '..Said'. Prove '..Said' where nothing that the law and all that it calls make is longer than what came in: it says more and counts as full. Else prove '..UptoSaid'. A law counts once. -/
mutual
def uptoBulk {H : Type} : DataW H → Nat
  | .lit (.string bytes) => bytes.length + 1
  | .lit _ => 1
  | .nil => 1
  | .ptr d => uptoBulk d + 1
  | .slice elems spare => uptoBulkAll elems + uptoBulkAll spare + 1
  | .agg parts => uptoBulkAll parts + 1
  | .iface _ d => uptoBulk d + 1
  | .map entries => uptoBulkEntries entries + 1
  | .held _ => 1
def uptoBulkAll {H : Type} : List (DataW H) → Nat
  | [] => 0
  | d :: r => uptoBulk d + uptoBulkAll r
def uptoBulkEntries {H : Type} : List (Lit × DataW H) → Nat
  | [] => 0
  | x :: r => uptoBulkEntry x + uptoBulkEntries r
def uptoBulkEntry {H : Type} : Lit × DataW H → Nat
  | (.string bytes, d) => bytes.length + uptoBulk d + 1
  | (_, d) => uptoBulk d + 1
 end
def uptoSmall : (H : Type) → List (DataW H) → Bool := fun _ ds => decide (uptoBulkAll ds ≤ 1048576)
def OpenSpec.upto (s : _root_.Go.ChangeSpec) : _root_.Go.OpenSpec := { _root_.Go.OpenSpec.ofChange s with cond := some uptoSmall }

/-- 'laws.FnExactValidBeat', WHERE WHAT IT READS IS OF BULK AT MOST 1048576: true; the input reads as it did. -/
def fnExactValidBeatUptoRow : OpenClaim := { program := "ytdjbaajcgipebaadoor", sum := "a8d66db5b0d7530f42e306957ed77959c7ebb3bfa01e291c9230f2dd4f95be13", func := "loop.example/g01338/laws.FnExactValidBeat", spec := "fnExactValidBeat", unfollowed := true, recurses := true, named := ["loop.example/g01338/impl.errInvalid"], ifaces := true, plainKeys := false, apart := false, laid := [("loop.example/g01338/impl.errInvalid", laid_loop_example_g01338_impl_errInvalid)], narrowed := true }
def FnExactValidBeatUptoSaid : Prop := fnExactValidBeatUptoRow.holds Tryd.pinned (OpenSpec.upto fnExactValidBeatSpec)

/-- 'laws.FnExactTurnBeat', WHERE WHAT IT READS IS OF BULK AT MOST 1048576: true; the input reads as it did. -/
def fnExactTurnBeatUptoRow : OpenClaim := { program := "ytdjbaajcgipebaadoor", sum := "a8d66db5b0d7530f42e306957ed77959c7ebb3bfa01e291c9230f2dd4f95be13", func := "loop.example/g01338/laws.FnExactTurnBeat", spec := "fnExactTurnBeat", inPlace := ["internal/reflectlite.TypeOf"], unfollowed := true, recurses := true, named := ["loop.example/g01338/impl.errRange", "loop.example/g01338/impl.errInvalid", "loop.example/g01338/impl.errLimit", "loop.example/g01338/impl.errState", "loop.example/g01338/impl.errSyntax", "loop.example/g01338/impl.errNotFound", "loop.example/g01338/impl.errBudget", "loop.example/g01338/impl.errProof"], ifaces := true, plainKeys := false, apart := false, laid := [("loop.example/g01338/impl.errInvalid", laid_loop_example_g01338_impl_errInvalid), ("loop.example/g01338/impl.errRange", laid_loop_example_g01338_impl_errRange), ("loop.example/g01338/impl.errLimit", laid_loop_example_g01338_impl_errLimit), ("loop.example/g01338/impl.errState", laid_loop_example_g01338_impl_errState), ("loop.example/g01338/impl.errSyntax", laid_loop_example_g01338_impl_errSyntax), ("loop.example/g01338/impl.errNotFound", laid_loop_example_g01338_impl_errNotFound), ("loop.example/g01338/impl.errBudget", laid_loop_example_g01338_impl_errBudget), ("loop.example/g01338/impl.errProof", laid_loop_example_g01338_impl_errProof)], narrowed := true }
def FnExactTurnBeatUptoSaid : Prop := fnExactTurnBeatUptoRow.holds Tryd.pinned (OpenSpec.upto fnExactTurnBeatSpec)

/-- 'laws.FnExactBackBeat', WHERE WHAT IT READS IS OF BULK AT MOST 1048576: true; the input reads as it did. -/
def fnExactBackBeatUptoRow : OpenClaim := { program := "ytdjbaajcgipebaadoor", sum := "a8d66db5b0d7530f42e306957ed77959c7ebb3bfa01e291c9230f2dd4f95be13", func := "loop.example/g01338/laws.FnExactBackBeat", spec := "fnExactBackBeat", inPlace := ["internal/reflectlite.TypeOf"], unfollowed := true, recurses := true, named := ["loop.example/g01338/impl.errInvalid", "loop.example/g01338/impl.errRange", "loop.example/g01338/impl.errLimit", "loop.example/g01338/impl.errState", "loop.example/g01338/impl.errSyntax", "loop.example/g01338/impl.errNotFound", "loop.example/g01338/impl.errBudget", "loop.example/g01338/impl.errProof"], ifaces := true, plainKeys := false, apart := false, laid := [("loop.example/g01338/impl.errInvalid", laid_loop_example_g01338_impl_errInvalid), ("loop.example/g01338/impl.errRange", laid_loop_example_g01338_impl_errRange), ("loop.example/g01338/impl.errLimit", laid_loop_example_g01338_impl_errLimit), ("loop.example/g01338/impl.errState", laid_loop_example_g01338_impl_errState), ("loop.example/g01338/impl.errSyntax", laid_loop_example_g01338_impl_errSyntax), ("loop.example/g01338/impl.errNotFound", laid_loop_example_g01338_impl_errNotFound), ("loop.example/g01338/impl.errBudget", laid_loop_example_g01338_impl_errBudget), ("loop.example/g01338/impl.errProof", laid_loop_example_g01338_impl_errProof)], narrowed := true }
def FnExactBackBeatUptoSaid : Prop := fnExactBackBeatUptoRow.holds Tryd.pinned (OpenSpec.upto fnExactBackBeatSpec)

/-- 'laws.FnExactJoinBeats', WHERE WHAT IT READS IS OF BULK AT MOST 1048576: true; the input reads as it did. -/
def fnExactJoinBeatsUptoRow : OpenClaim := { program := "ytdjbaajcgipebaadoor", sum := "a8d66db5b0d7530f42e306957ed77959c7ebb3bfa01e291c9230f2dd4f95be13", func := "loop.example/g01338/laws.FnExactJoinBeats", spec := "fnExactJoinBeats", inPlace := ["internal/reflectlite.TypeOf"], unfollowed := true, recurses := true, named := ["loop.example/g01338/impl.errState", "loop.example/g01338/impl.errLimit", "loop.example/g01338/impl.errInvalid", "loop.example/g01338/impl.errRange", "loop.example/g01338/impl.errSyntax", "loop.example/g01338/impl.errNotFound", "loop.example/g01338/impl.errBudget", "loop.example/g01338/impl.errProof"], ifaces := true, plainKeys := false, apart := false, laid := [("loop.example/g01338/impl.errInvalid", laid_loop_example_g01338_impl_errInvalid), ("loop.example/g01338/impl.errRange", laid_loop_example_g01338_impl_errRange), ("loop.example/g01338/impl.errLimit", laid_loop_example_g01338_impl_errLimit), ("loop.example/g01338/impl.errState", laid_loop_example_g01338_impl_errState), ("loop.example/g01338/impl.errSyntax", laid_loop_example_g01338_impl_errSyntax), ("loop.example/g01338/impl.errNotFound", laid_loop_example_g01338_impl_errNotFound), ("loop.example/g01338/impl.errBudget", laid_loop_example_g01338_impl_errBudget), ("loop.example/g01338/impl.errProof", laid_loop_example_g01338_impl_errProof)], narrowed := true }
def FnExactJoinBeatsUptoSaid : Prop := fnExactJoinBeatsUptoRow.holds Tryd.pinned (OpenSpec.upto fnExactJoinBeatsSpec)

/-- 'laws.FnExactSeenBy', WHERE WHAT IT READS IS OF BULK AT MOST 1048576: true; the input reads as it did. -/
def fnExactSeenByUptoRow : OpenClaim := { program := "ytdjbaajcgipebaadoor", sum := "a8d66db5b0d7530f42e306957ed77959c7ebb3bfa01e291c9230f2dd4f95be13", func := "loop.example/g01338/laws.FnExactSeenBy", spec := "fnExactSeenBy", inPlace := ["internal/reflectlite.TypeOf"], unfollowed := true, recurses := true, named := ["loop.example/g01338/impl.errRange", "loop.example/g01338/impl.errInvalid", "loop.example/g01338/impl.errLimit", "loop.example/g01338/impl.errState", "loop.example/g01338/impl.errSyntax", "loop.example/g01338/impl.errNotFound", "loop.example/g01338/impl.errBudget", "loop.example/g01338/impl.errProof"], ifaces := true, plainKeys := false, apart := false, laid := [("loop.example/g01338/impl.errInvalid", laid_loop_example_g01338_impl_errInvalid), ("loop.example/g01338/impl.errRange", laid_loop_example_g01338_impl_errRange), ("loop.example/g01338/impl.errLimit", laid_loop_example_g01338_impl_errLimit), ("loop.example/g01338/impl.errState", laid_loop_example_g01338_impl_errState), ("loop.example/g01338/impl.errSyntax", laid_loop_example_g01338_impl_errSyntax), ("loop.example/g01338/impl.errNotFound", laid_loop_example_g01338_impl_errNotFound), ("loop.example/g01338/impl.errBudget", laid_loop_example_g01338_impl_errBudget), ("loop.example/g01338/impl.errProof", laid_loop_example_g01338_impl_errProof)], narrowed := true }
def FnExactSeenByUptoSaid : Prop := fnExactSeenByUptoRow.holds Tryd.pinned (OpenSpec.upto fnExactSeenBySpec)

/-- 'laws.FnExactMinutesOf', WHERE WHAT IT READS IS OF BULK AT MOST 1048576: true; the input reads as it did. -/
def fnExactMinutesOfUptoRow : OpenClaim := { program := "ytdjbaajcgipebaadoor", sum := "a8d66db5b0d7530f42e306957ed77959c7ebb3bfa01e291c9230f2dd4f95be13", func := "loop.example/g01338/laws.FnExactMinutesOf", spec := "fnExactMinutesOf", inPlace := ["internal/reflectlite.TypeOf"], unfollowed := true, recurses := true, named := ["loop.example/g01338/impl.errRange", "loop.example/g01338/impl.errInvalid", "loop.example/g01338/impl.errLimit", "loop.example/g01338/impl.errState", "loop.example/g01338/impl.errSyntax", "loop.example/g01338/impl.errNotFound", "loop.example/g01338/impl.errBudget", "loop.example/g01338/impl.errProof"], ifaces := true, plainKeys := false, apart := false, laid := [("loop.example/g01338/impl.errInvalid", laid_loop_example_g01338_impl_errInvalid), ("loop.example/g01338/impl.errRange", laid_loop_example_g01338_impl_errRange), ("loop.example/g01338/impl.errLimit", laid_loop_example_g01338_impl_errLimit), ("loop.example/g01338/impl.errState", laid_loop_example_g01338_impl_errState), ("loop.example/g01338/impl.errSyntax", laid_loop_example_g01338_impl_errSyntax), ("loop.example/g01338/impl.errNotFound", laid_loop_example_g01338_impl_errNotFound), ("loop.example/g01338/impl.errBudget", laid_loop_example_g01338_impl_errBudget), ("loop.example/g01338/impl.errProof", laid_loop_example_g01338_impl_errProof)], narrowed := true }
def FnExactMinutesOfUptoSaid : Prop := fnExactMinutesOfUptoRow.holds Tryd.pinned (OpenSpec.upto fnExactMinutesOfSpec)

/-- 'laws.FnExactSeenAt', WHERE WHAT IT READS IS OF BULK AT MOST 1048576: true; the input reads as it did. -/
def fnExactSeenAtUptoRow : OpenClaim := { program := "ytdjbaajcgipebaadoor", sum := "a8d66db5b0d7530f42e306957ed77959c7ebb3bfa01e291c9230f2dd4f95be13", func := "loop.example/g01338/laws.FnExactSeenAt", spec := "fnExactSeenAt", inPlace := ["internal/reflectlite.TypeOf"], unfollowed := true, recurses := true, named := ["loop.example/g01338/impl.errRange", "loop.example/g01338/impl.errInvalid", "loop.example/g01338/impl.errLimit", "loop.example/g01338/impl.errState", "loop.example/g01338/impl.errSyntax", "loop.example/g01338/impl.errNotFound", "loop.example/g01338/impl.errBudget", "loop.example/g01338/impl.errProof"], ifaces := true, plainKeys := false, apart := false, laid := [("loop.example/g01338/impl.errInvalid", laid_loop_example_g01338_impl_errInvalid), ("loop.example/g01338/impl.errRange", laid_loop_example_g01338_impl_errRange), ("loop.example/g01338/impl.errLimit", laid_loop_example_g01338_impl_errLimit), ("loop.example/g01338/impl.errState", laid_loop_example_g01338_impl_errState), ("loop.example/g01338/impl.errSyntax", laid_loop_example_g01338_impl_errSyntax), ("loop.example/g01338/impl.errNotFound", laid_loop_example_g01338_impl_errNotFound), ("loop.example/g01338/impl.errBudget", laid_loop_example_g01338_impl_errBudget), ("loop.example/g01338/impl.errProof", laid_loop_example_g01338_impl_errProof)], narrowed := true }
def FnExactSeenAtUptoSaid : Prop := fnExactSeenAtUptoRow.holds Tryd.pinned (OpenSpec.upto fnExactSeenAtSpec)

/-- 'laws.FnExactCheckBeat', WHERE WHAT IT READS IS OF BULK AT MOST 1048576: true; the input reads as it did. -/
def fnExactCheckBeatUptoRow : OpenClaim := { program := "ytdjbaajcgipebaadoor", sum := "a8d66db5b0d7530f42e306957ed77959c7ebb3bfa01e291c9230f2dd4f95be13", func := "loop.example/g01338/laws.FnExactCheckBeat", spec := "fnExactCheckBeat", inPlace := ["internal/reflectlite.TypeOf"], unfollowed := true, recurses := true, named := ["loop.example/g01338/impl.errRange", "loop.example/g01338/impl.errInvalid", "loop.example/g01338/impl.errLimit", "loop.example/g01338/impl.errState", "loop.example/g01338/impl.errSyntax", "loop.example/g01338/impl.errNotFound", "loop.example/g01338/impl.errBudget", "loop.example/g01338/impl.errProof"], ifaces := true, plainKeys := false, apart := false, laid := [("loop.example/g01338/impl.errInvalid", laid_loop_example_g01338_impl_errInvalid), ("loop.example/g01338/impl.errRange", laid_loop_example_g01338_impl_errRange), ("loop.example/g01338/impl.errLimit", laid_loop_example_g01338_impl_errLimit), ("loop.example/g01338/impl.errState", laid_loop_example_g01338_impl_errState), ("loop.example/g01338/impl.errSyntax", laid_loop_example_g01338_impl_errSyntax), ("loop.example/g01338/impl.errNotFound", laid_loop_example_g01338_impl_errNotFound), ("loop.example/g01338/impl.errBudget", laid_loop_example_g01338_impl_errBudget), ("loop.example/g01338/impl.errProof", laid_loop_example_g01338_impl_errProof)], narrowed := true }
def FnExactCheckBeatUptoSaid : Prop := fnExactCheckBeatUptoRow.holds Tryd.pinned (OpenSpec.upto fnExactCheckBeatSpec)

end Rows
end Go.Proofs.YtdjbaajcgipebaaDoor
