/-
  NARROWER THAN 'FOR EVERY INPUT', by the rows' own cells (each row's printed sentence says how): FnExactWithKind: ifaces, laid · FnExactSowCell: ifaces, laid · FnExactTakeSeeds: ifaces, laid · FnExactSeedsIn: ifaces, laid · FnExactHungerOf: ifaces, laid · FnExactBirdsIn: ifaces, laid · FnExactValidScares: ifaces, laid.
  DERIVED. THE GIVEN ROWS OF THIS SEAT. 7 by the template 'for every input the law returns true; each argument reads behind the call as it read before'; 0 by the template 'total and deterministic' (their statements: YtfnpbpokieckcaaDoorTotals.lean).
  GIVEN WITH THE SEED: the statements are not yours to turn. If you find one false, say at which input.
  Laid BY PROGRAM, IN A SANDBOX (cutbox-rows.mjs): the forced cells as the released guide's own fill.sh prints them over the translation 5e3461244b64b98d… (all of the seat's roots in one cut). By AI agents, Wed Nov 11 2026. No macro, syntax, notation, axiom, sorry.
-/
import Derived.Test.YtfnpbpokieckcaaDoorChecked
import GoSem.Claim
import GoSem.ClaimJoined
import GoSem.ClaimMapViews
import Derived.JoinedTies
import Derived.KernelRfl
namespace Go.Proofs.YtfnpbpokieckcaaDoor
/- THE CELL 'sum', in the pinned program and in every row, IS THE sha256 OF THE DUMP (.gsa) THAT YtfnpbpokieckcaaDoorProg.lean LOADS. Nothing in Lean hashes anything: it is a label: what it is worth is what the hold of that sum in a sandbox is worth. -/
noncomputable def Tryd.pinned : Pinned := { name := "ytfnpbpokieckcaadoor", sum := "5e3461244b64b98dc6d6294ac2bb1cdba1e5d129fa8972620e0521353928138c", checked := Tryd.checked }
namespace Rows
def none {H : Type} : Left H := { results := [], args := [] }

/- WHAT THE LISTED PACKAGE-LEVEL VARIABLES READ AS WHEN THE CALL BEGINS. Each datum BY PROGRAM (the guide's laid-datum.mjs) off the statement by which the dump's own 'gosem.cut.vars' lays the variable. In a bare row this is a premise. The card (YtfnpbpokieckcaaDoorCards.lean) ties it to the program's text. -/
def laid_loop_example_g01338_impl_errInvalid {H : Type} : DataW H := .iface "*errors.errorString" (.ptr (.agg [.lit (.string [105, 110, 118, 97, 108, 105, 100])]))
def laid_loop_example_g01338_impl_errRange {H : Type} : DataW H := .iface "*errors.errorString" (.ptr (.agg [.lit (.string [114, 97, 110, 103, 101])]))
def laid_loop_example_g01338_impl_errLimit {H : Type} : DataW H := .iface "*errors.errorString" (.ptr (.agg [.lit (.string [108, 105, 109, 105, 116])]))
def laid_loop_example_g01338_impl_errState {H : Type} : DataW H := .iface "*errors.errorString" (.ptr (.agg [.lit (.string [115, 116, 97, 116, 101])]))
def laid_loop_example_g01338_impl_errSyntax {H : Type} : DataW H := .iface "*errors.errorString" (.ptr (.agg [.lit (.string [115, 121, 110, 116, 97, 120])]))
def laid_loop_example_g01338_impl_errNotFound {H : Type} : DataW H := .iface "*errors.errorString" (.ptr (.agg [.lit (.string [110, 111, 116, 102, 111, 117, 110, 100])]))
def laid_loop_example_g01338_impl_errBudget {H : Type} : DataW H := .iface "*errors.errorString" (.ptr (.agg [.lit (.string [98, 117, 100, 103, 101, 116])]))
def laid_loop_example_g01338_impl_errProof {H : Type} : DataW H := .iface "*errors.errorString" (.ptr (.agg [.lit (.string [112, 114, 111, 111, 102])]))
def laid_loop_example_g01338_impl_mostOfFlock {H : Type} : DataW H := .agg [.lit (.int .i64 99), .lit (.int .i64 200), .lit (.int .i64 20), .lit (.int .i64 1000), .lit (.int .i64 200), .lit (.int .i64 2)]

/-- 'laws.FnExactWithKind': WHATEVER THE INPUT: true; the input reads as it did. -/
def fnExactWithKindSpec : ChangeSpec := { name := "fnExactWithKind", vars := ["loop.example/g01338/impl.errRange", "loop.example/g01338/impl.errInvalid", "loop.example/g01338/impl.errLimit", "loop.example/g01338/impl.errState", "loop.example/g01338/impl.errSyntax", "loop.example/g01338/impl.errNotFound", "loop.example/g01338/impl.errBudget", "loop.example/g01338/impl.errProof"], fn := fun _ => fun
  | [d1, d2, d3, g1, g2, g3, g4, g5, g6, g7, g8] => { results := [.lit (.bool true)], args := [d1, d2, d3], vars := [g1, g2, g3, g4, g5, g6, g7, g8] }
  | _ => none }
def fnExactWithKindRow : OpenClaim := { program := "ytfnpbpokieckcaadoor", sum := "5e3461244b64b98dc6d6294ac2bb1cdba1e5d129fa8972620e0521353928138c", func := "loop.example/g01338/laws.FnExactWithKind", spec := "fnExactWithKind", inPlace := ["internal/reflectlite.TypeOf"], unfollowed := true, recurses := true, named := ["loop.example/g01338/impl.errRange", "loop.example/g01338/impl.errInvalid", "loop.example/g01338/impl.errLimit", "loop.example/g01338/impl.errState", "loop.example/g01338/impl.errSyntax", "loop.example/g01338/impl.errNotFound", "loop.example/g01338/impl.errBudget", "loop.example/g01338/impl.errProof"], ifaces := true, plainKeys := false, apart := false, laid := [("loop.example/g01338/impl.errInvalid", laid_loop_example_g01338_impl_errInvalid), ("loop.example/g01338/impl.errRange", laid_loop_example_g01338_impl_errRange), ("loop.example/g01338/impl.errLimit", laid_loop_example_g01338_impl_errLimit), ("loop.example/g01338/impl.errState", laid_loop_example_g01338_impl_errState), ("loop.example/g01338/impl.errSyntax", laid_loop_example_g01338_impl_errSyntax), ("loop.example/g01338/impl.errNotFound", laid_loop_example_g01338_impl_errNotFound), ("loop.example/g01338/impl.errBudget", laid_loop_example_g01338_impl_errBudget), ("loop.example/g01338/impl.errProof", laid_loop_example_g01338_impl_errProof)] }
def FnExactWithKindSaid : Prop := fnExactWithKindRow.holds Tryd.pinned (OpenSpec.ofChange fnExactWithKindSpec)

/-- ITS FALSE NEIGHBOUR: 'it returns false'. Refute it at one input. -/
def fnExactWithKindWrong : ChangeSpec := { name := "fnExactWithKind", vars := ["loop.example/g01338/impl.errRange", "loop.example/g01338/impl.errInvalid", "loop.example/g01338/impl.errLimit", "loop.example/g01338/impl.errState", "loop.example/g01338/impl.errSyntax", "loop.example/g01338/impl.errNotFound", "loop.example/g01338/impl.errBudget", "loop.example/g01338/impl.errProof"], fn := fun _ => fun
  | [d1, d2, d3, g1, g2, g3, g4, g5, g6, g7, g8] => { results := [.lit (.bool false)], args := [d1, d2, d3], vars := [g1, g2, g3, g4, g5, g6, g7, g8] }
  | _ => none }
def FnExactWithKindWrongFalsely : Prop := fnExactWithKindRow.holds Tryd.pinned (OpenSpec.ofChange fnExactWithKindWrong)

/-- 'laws.FnExactSowCell': WHATEVER THE INPUT: true; the input reads as it did. -/
def fnExactSowCellSpec : ChangeSpec := { name := "fnExactSowCell", vars := ["loop.example/g01338/impl.errRange", "loop.example/g01338/impl.errState", "loop.example/g01338/impl.errLimit", "loop.example/g01338/impl.errInvalid", "loop.example/g01338/impl.errSyntax", "loop.example/g01338/impl.errNotFound", "loop.example/g01338/impl.errBudget", "loop.example/g01338/impl.errProof"], fn := fun _ => fun
  | [d1, d2, d3, g1, g2, g3, g4, g5, g6, g7, g8] => { results := [.lit (.bool true)], args := [d1, d2, d3], vars := [g1, g2, g3, g4, g5, g6, g7, g8] }
  | _ => none }
def fnExactSowCellRow : OpenClaim := { program := "ytfnpbpokieckcaadoor", sum := "5e3461244b64b98dc6d6294ac2bb1cdba1e5d129fa8972620e0521353928138c", func := "loop.example/g01338/laws.FnExactSowCell", spec := "fnExactSowCell", inPlace := ["internal/reflectlite.TypeOf"], unfollowed := true, recurses := true, named := ["loop.example/g01338/impl.errRange", "loop.example/g01338/impl.errState", "loop.example/g01338/impl.errLimit", "loop.example/g01338/impl.errInvalid", "loop.example/g01338/impl.errSyntax", "loop.example/g01338/impl.errNotFound", "loop.example/g01338/impl.errBudget", "loop.example/g01338/impl.errProof"], ifaces := true, plainKeys := false, apart := false, laid := [("loop.example/g01338/impl.errInvalid", laid_loop_example_g01338_impl_errInvalid), ("loop.example/g01338/impl.errRange", laid_loop_example_g01338_impl_errRange), ("loop.example/g01338/impl.errLimit", laid_loop_example_g01338_impl_errLimit), ("loop.example/g01338/impl.errState", laid_loop_example_g01338_impl_errState), ("loop.example/g01338/impl.errSyntax", laid_loop_example_g01338_impl_errSyntax), ("loop.example/g01338/impl.errNotFound", laid_loop_example_g01338_impl_errNotFound), ("loop.example/g01338/impl.errBudget", laid_loop_example_g01338_impl_errBudget), ("loop.example/g01338/impl.errProof", laid_loop_example_g01338_impl_errProof)] }
def FnExactSowCellSaid : Prop := fnExactSowCellRow.holds Tryd.pinned (OpenSpec.ofChange fnExactSowCellSpec)

/-- ITS FALSE NEIGHBOUR: 'it returns false'. Refute it at one input. -/
def fnExactSowCellWrong : ChangeSpec := { name := "fnExactSowCell", vars := ["loop.example/g01338/impl.errRange", "loop.example/g01338/impl.errState", "loop.example/g01338/impl.errLimit", "loop.example/g01338/impl.errInvalid", "loop.example/g01338/impl.errSyntax", "loop.example/g01338/impl.errNotFound", "loop.example/g01338/impl.errBudget", "loop.example/g01338/impl.errProof"], fn := fun _ => fun
  | [d1, d2, d3, g1, g2, g3, g4, g5, g6, g7, g8] => { results := [.lit (.bool false)], args := [d1, d2, d3], vars := [g1, g2, g3, g4, g5, g6, g7, g8] }
  | _ => none }
def FnExactSowCellWrongFalsely : Prop := fnExactSowCellRow.holds Tryd.pinned (OpenSpec.ofChange fnExactSowCellWrong)

/-- 'laws.FnExactTakeSeeds': WHATEVER THE INPUT: true; the input reads as it did. -/
def fnExactTakeSeedsSpec : ChangeSpec := { name := "fnExactTakeSeeds", vars := ["loop.example/g01338/impl.errRange", "loop.example/g01338/impl.errInvalid", "loop.example/g01338/impl.errLimit", "loop.example/g01338/impl.errState", "loop.example/g01338/impl.errSyntax", "loop.example/g01338/impl.errNotFound", "loop.example/g01338/impl.errBudget", "loop.example/g01338/impl.errProof"], fn := fun _ => fun
  | [d1, d2, d3, g1, g2, g3, g4, g5, g6, g7, g8] => { results := [.lit (.bool true)], args := [d1, d2, d3], vars := [g1, g2, g3, g4, g5, g6, g7, g8] }
  | _ => none }
def fnExactTakeSeedsRow : OpenClaim := { program := "ytfnpbpokieckcaadoor", sum := "5e3461244b64b98dc6d6294ac2bb1cdba1e5d129fa8972620e0521353928138c", func := "loop.example/g01338/laws.FnExactTakeSeeds", spec := "fnExactTakeSeeds", inPlace := ["internal/reflectlite.TypeOf"], unfollowed := true, recurses := true, named := ["loop.example/g01338/impl.errRange", "loop.example/g01338/impl.errInvalid", "loop.example/g01338/impl.errLimit", "loop.example/g01338/impl.errState", "loop.example/g01338/impl.errSyntax", "loop.example/g01338/impl.errNotFound", "loop.example/g01338/impl.errBudget", "loop.example/g01338/impl.errProof"], ifaces := true, plainKeys := false, apart := false, laid := [("loop.example/g01338/impl.errInvalid", laid_loop_example_g01338_impl_errInvalid), ("loop.example/g01338/impl.errRange", laid_loop_example_g01338_impl_errRange), ("loop.example/g01338/impl.errLimit", laid_loop_example_g01338_impl_errLimit), ("loop.example/g01338/impl.errState", laid_loop_example_g01338_impl_errState), ("loop.example/g01338/impl.errSyntax", laid_loop_example_g01338_impl_errSyntax), ("loop.example/g01338/impl.errNotFound", laid_loop_example_g01338_impl_errNotFound), ("loop.example/g01338/impl.errBudget", laid_loop_example_g01338_impl_errBudget), ("loop.example/g01338/impl.errProof", laid_loop_example_g01338_impl_errProof)] }
def FnExactTakeSeedsSaid : Prop := fnExactTakeSeedsRow.holds Tryd.pinned (OpenSpec.ofChange fnExactTakeSeedsSpec)

/-- ITS FALSE NEIGHBOUR: 'it returns false'. Refute it at one input. -/
def fnExactTakeSeedsWrong : ChangeSpec := { name := "fnExactTakeSeeds", vars := ["loop.example/g01338/impl.errRange", "loop.example/g01338/impl.errInvalid", "loop.example/g01338/impl.errLimit", "loop.example/g01338/impl.errState", "loop.example/g01338/impl.errSyntax", "loop.example/g01338/impl.errNotFound", "loop.example/g01338/impl.errBudget", "loop.example/g01338/impl.errProof"], fn := fun _ => fun
  | [d1, d2, d3, g1, g2, g3, g4, g5, g6, g7, g8] => { results := [.lit (.bool false)], args := [d1, d2, d3], vars := [g1, g2, g3, g4, g5, g6, g7, g8] }
  | _ => none }
def FnExactTakeSeedsWrongFalsely : Prop := fnExactTakeSeedsRow.holds Tryd.pinned (OpenSpec.ofChange fnExactTakeSeedsWrong)

/-- 'laws.FnExactSeedsIn': WHATEVER THE INPUT: true; the input reads as it did. -/
def fnExactSeedsInSpec : ChangeSpec := { name := "fnExactSeedsIn", vars := ["loop.example/g01338/impl.errInvalid", "loop.example/g01338/impl.errRange", "loop.example/g01338/impl.errLimit", "loop.example/g01338/impl.errState", "loop.example/g01338/impl.errSyntax", "loop.example/g01338/impl.errNotFound", "loop.example/g01338/impl.errBudget", "loop.example/g01338/impl.errProof"], fn := fun _ => fun
  | [d, g1, g2, g3, g4, g5, g6, g7, g8] => { results := [.lit (.bool true)], args := [d], vars := [g1, g2, g3, g4, g5, g6, g7, g8] }
  | _ => none }
def fnExactSeedsInRow : OpenClaim := { program := "ytfnpbpokieckcaadoor", sum := "5e3461244b64b98dc6d6294ac2bb1cdba1e5d129fa8972620e0521353928138c", func := "loop.example/g01338/laws.FnExactSeedsIn", spec := "fnExactSeedsIn", inPlace := ["internal/reflectlite.TypeOf"], unfollowed := true, recurses := true, named := ["loop.example/g01338/impl.errInvalid", "loop.example/g01338/impl.errRange", "loop.example/g01338/impl.errLimit", "loop.example/g01338/impl.errState", "loop.example/g01338/impl.errSyntax", "loop.example/g01338/impl.errNotFound", "loop.example/g01338/impl.errBudget", "loop.example/g01338/impl.errProof"], ifaces := true, plainKeys := false, apart := false, laid := [("loop.example/g01338/impl.errInvalid", laid_loop_example_g01338_impl_errInvalid), ("loop.example/g01338/impl.errRange", laid_loop_example_g01338_impl_errRange), ("loop.example/g01338/impl.errLimit", laid_loop_example_g01338_impl_errLimit), ("loop.example/g01338/impl.errState", laid_loop_example_g01338_impl_errState), ("loop.example/g01338/impl.errSyntax", laid_loop_example_g01338_impl_errSyntax), ("loop.example/g01338/impl.errNotFound", laid_loop_example_g01338_impl_errNotFound), ("loop.example/g01338/impl.errBudget", laid_loop_example_g01338_impl_errBudget), ("loop.example/g01338/impl.errProof", laid_loop_example_g01338_impl_errProof)] }
def FnExactSeedsInSaid : Prop := fnExactSeedsInRow.holds Tryd.pinned (OpenSpec.ofChange fnExactSeedsInSpec)

/-- ITS FALSE NEIGHBOUR: 'it returns false'. Refute it at one input. -/
def fnExactSeedsInWrong : ChangeSpec := { name := "fnExactSeedsIn", vars := ["loop.example/g01338/impl.errInvalid", "loop.example/g01338/impl.errRange", "loop.example/g01338/impl.errLimit", "loop.example/g01338/impl.errState", "loop.example/g01338/impl.errSyntax", "loop.example/g01338/impl.errNotFound", "loop.example/g01338/impl.errBudget", "loop.example/g01338/impl.errProof"], fn := fun _ => fun
  | [d, g1, g2, g3, g4, g5, g6, g7, g8] => { results := [.lit (.bool false)], args := [d], vars := [g1, g2, g3, g4, g5, g6, g7, g8] }
  | _ => none }
def FnExactSeedsInWrongFalsely : Prop := fnExactSeedsInRow.holds Tryd.pinned (OpenSpec.ofChange fnExactSeedsInWrong)

/-- 'laws.FnExactHungerOf': WHATEVER THE INPUT: true; the input reads as it did. -/
def fnExactHungerOfSpec : ChangeSpec := { name := "fnExactHungerOf", vars := ["loop.example/g01338/impl.errInvalid", "loop.example/g01338/impl.mostOfFlock", "loop.example/g01338/impl.errRange", "loop.example/g01338/impl.errLimit", "loop.example/g01338/impl.errState", "loop.example/g01338/impl.errSyntax", "loop.example/g01338/impl.errNotFound", "loop.example/g01338/impl.errBudget", "loop.example/g01338/impl.errProof"], fn := fun _ => fun
  | [d1, d2, g1, g2, g3, g4, g5, g6, g7, g8, g9] => { results := [.lit (.bool true)], args := [d1, d2], vars := [g1, g2, g3, g4, g5, g6, g7, g8, g9] }
  | _ => none }
def fnExactHungerOfRow : OpenClaim := { program := "ytfnpbpokieckcaadoor", sum := "5e3461244b64b98dc6d6294ac2bb1cdba1e5d129fa8972620e0521353928138c", func := "loop.example/g01338/laws.FnExactHungerOf", spec := "fnExactHungerOf", inPlace := ["internal/reflectlite.TypeOf"], unfollowed := true, recurses := true, named := ["loop.example/g01338/impl.errInvalid", "loop.example/g01338/impl.mostOfFlock", "loop.example/g01338/impl.errRange", "loop.example/g01338/impl.errLimit", "loop.example/g01338/impl.errState", "loop.example/g01338/impl.errSyntax", "loop.example/g01338/impl.errNotFound", "loop.example/g01338/impl.errBudget", "loop.example/g01338/impl.errProof"], ifaces := true, plainKeys := false, apart := false, laid := [("loop.example/g01338/impl.errInvalid", laid_loop_example_g01338_impl_errInvalid), ("loop.example/g01338/impl.errRange", laid_loop_example_g01338_impl_errRange), ("loop.example/g01338/impl.errLimit", laid_loop_example_g01338_impl_errLimit), ("loop.example/g01338/impl.errState", laid_loop_example_g01338_impl_errState), ("loop.example/g01338/impl.errSyntax", laid_loop_example_g01338_impl_errSyntax), ("loop.example/g01338/impl.errNotFound", laid_loop_example_g01338_impl_errNotFound), ("loop.example/g01338/impl.errBudget", laid_loop_example_g01338_impl_errBudget), ("loop.example/g01338/impl.errProof", laid_loop_example_g01338_impl_errProof), ("loop.example/g01338/impl.mostOfFlock", laid_loop_example_g01338_impl_mostOfFlock)] }
def FnExactHungerOfSaid : Prop := fnExactHungerOfRow.holds Tryd.pinned (OpenSpec.ofChange fnExactHungerOfSpec)

/-- ITS FALSE NEIGHBOUR: 'it returns false'. Refute it at one input. -/
def fnExactHungerOfWrong : ChangeSpec := { name := "fnExactHungerOf", vars := ["loop.example/g01338/impl.errInvalid", "loop.example/g01338/impl.mostOfFlock", "loop.example/g01338/impl.errRange", "loop.example/g01338/impl.errLimit", "loop.example/g01338/impl.errState", "loop.example/g01338/impl.errSyntax", "loop.example/g01338/impl.errNotFound", "loop.example/g01338/impl.errBudget", "loop.example/g01338/impl.errProof"], fn := fun _ => fun
  | [d1, d2, g1, g2, g3, g4, g5, g6, g7, g8, g9] => { results := [.lit (.bool false)], args := [d1, d2], vars := [g1, g2, g3, g4, g5, g6, g7, g8, g9] }
  | _ => none }
def FnExactHungerOfWrongFalsely : Prop := fnExactHungerOfRow.holds Tryd.pinned (OpenSpec.ofChange fnExactHungerOfWrong)

/-- 'laws.FnExactBirdsIn': WHATEVER THE INPUT: true; the input reads as it did. -/
def fnExactBirdsInSpec : ChangeSpec := { name := "fnExactBirdsIn", vars := ["loop.example/g01338/impl.errInvalid", "loop.example/g01338/impl.mostOfFlock", "loop.example/g01338/impl.errRange", "loop.example/g01338/impl.errLimit", "loop.example/g01338/impl.errState", "loop.example/g01338/impl.errSyntax", "loop.example/g01338/impl.errNotFound", "loop.example/g01338/impl.errBudget", "loop.example/g01338/impl.errProof"], fn := fun _ => fun
  | [d1, d2, g1, g2, g3, g4, g5, g6, g7, g8, g9] => { results := [.lit (.bool true)], args := [d1, d2], vars := [g1, g2, g3, g4, g5, g6, g7, g8, g9] }
  | _ => none }
def fnExactBirdsInRow : OpenClaim := { program := "ytfnpbpokieckcaadoor", sum := "5e3461244b64b98dc6d6294ac2bb1cdba1e5d129fa8972620e0521353928138c", func := "loop.example/g01338/laws.FnExactBirdsIn", spec := "fnExactBirdsIn", inPlace := ["internal/reflectlite.TypeOf"], unfollowed := true, recurses := true, named := ["loop.example/g01338/impl.errInvalid", "loop.example/g01338/impl.mostOfFlock", "loop.example/g01338/impl.errRange", "loop.example/g01338/impl.errLimit", "loop.example/g01338/impl.errState", "loop.example/g01338/impl.errSyntax", "loop.example/g01338/impl.errNotFound", "loop.example/g01338/impl.errBudget", "loop.example/g01338/impl.errProof"], ifaces := true, plainKeys := false, apart := false, laid := [("loop.example/g01338/impl.errInvalid", laid_loop_example_g01338_impl_errInvalid), ("loop.example/g01338/impl.errRange", laid_loop_example_g01338_impl_errRange), ("loop.example/g01338/impl.errLimit", laid_loop_example_g01338_impl_errLimit), ("loop.example/g01338/impl.errState", laid_loop_example_g01338_impl_errState), ("loop.example/g01338/impl.errSyntax", laid_loop_example_g01338_impl_errSyntax), ("loop.example/g01338/impl.errNotFound", laid_loop_example_g01338_impl_errNotFound), ("loop.example/g01338/impl.errBudget", laid_loop_example_g01338_impl_errBudget), ("loop.example/g01338/impl.errProof", laid_loop_example_g01338_impl_errProof), ("loop.example/g01338/impl.mostOfFlock", laid_loop_example_g01338_impl_mostOfFlock)] }
def FnExactBirdsInSaid : Prop := fnExactBirdsInRow.holds Tryd.pinned (OpenSpec.ofChange fnExactBirdsInSpec)

/-- ITS FALSE NEIGHBOUR: 'it returns false'. Refute it at one input. -/
def fnExactBirdsInWrong : ChangeSpec := { name := "fnExactBirdsIn", vars := ["loop.example/g01338/impl.errInvalid", "loop.example/g01338/impl.mostOfFlock", "loop.example/g01338/impl.errRange", "loop.example/g01338/impl.errLimit", "loop.example/g01338/impl.errState", "loop.example/g01338/impl.errSyntax", "loop.example/g01338/impl.errNotFound", "loop.example/g01338/impl.errBudget", "loop.example/g01338/impl.errProof"], fn := fun _ => fun
  | [d1, d2, g1, g2, g3, g4, g5, g6, g7, g8, g9] => { results := [.lit (.bool false)], args := [d1, d2], vars := [g1, g2, g3, g4, g5, g6, g7, g8, g9] }
  | _ => none }
def FnExactBirdsInWrongFalsely : Prop := fnExactBirdsInRow.holds Tryd.pinned (OpenSpec.ofChange fnExactBirdsInWrong)

/-- 'laws.FnExactValidScares': WHATEVER THE INPUT: true; the input reads as it did. -/
def fnExactValidScaresSpec : ChangeSpec := { name := "fnExactValidScares", vars := ["loop.example/g01338/impl.errState", "loop.example/g01338/impl.errRange"], fn := fun _ => fun
  | [d1, d2, g1, g2] => { results := [.lit (.bool true)], args := [d1, d2], vars := [g1, g2] }
  | _ => none }
def fnExactValidScaresRow : OpenClaim := { program := "ytfnpbpokieckcaadoor", sum := "5e3461244b64b98dc6d6294ac2bb1cdba1e5d129fa8972620e0521353928138c", func := "loop.example/g01338/laws.FnExactValidScares", spec := "fnExactValidScares", unfollowed := true, recurses := true, named := ["loop.example/g01338/impl.errState", "loop.example/g01338/impl.errRange"], ifaces := true, plainKeys := false, apart := false, laid := [("loop.example/g01338/impl.errRange", laid_loop_example_g01338_impl_errRange), ("loop.example/g01338/impl.errState", laid_loop_example_g01338_impl_errState)] }
def FnExactValidScaresSaid : Prop := fnExactValidScaresRow.holds Tryd.pinned (OpenSpec.ofChange fnExactValidScaresSpec)

/-- ITS FALSE NEIGHBOUR: 'it returns false'. Refute it at one input. -/
def fnExactValidScaresWrong : ChangeSpec := { name := "fnExactValidScares", vars := ["loop.example/g01338/impl.errState", "loop.example/g01338/impl.errRange"], fn := fun _ => fun
  | [d1, d2, g1, g2] => { results := [.lit (.bool false)], args := [d1, d2], vars := [g1, g2] }
  | _ => none }
def FnExactValidScaresWrongFalsely : Prop := fnExactValidScaresRow.holds Tryd.pinned (OpenSpec.ofChange fnExactValidScaresWrong)

/- THE SECOND FORM. 'bulk': how many values and letters a reading holds, each counted each time it is reached (what is shared counts as often as it is met; a slice's spare places count too). A statement '..UptoSaid' is the law's where the arguments, and the package variables that the reading takes, are together of bulk at most 1048576: NARROWER than '..Said'. Prove '..Said' where nothing that the law and all that it calls make is longer than what came in: it says more and counts as full. Else prove '..UptoSaid'. A law counts once. -/
mutual
def uptoBulk {H : Type} : DataW H → Nat
  | .lit (.string bytes) => bytes.length + 1
  | .lit _ => 1
  | .nil => 1
  | .ptr d => uptoBulk d + 1
  | .slice elems spare => uptoBulkAll elems + uptoBulkAll spare + 1
  | .agg parts => uptoBulkAll parts + 1
  | .iface _ d => uptoBulk d + 1
  | .map entries => uptoBulkEntries entries + 1
  | .held _ => 1
def uptoBulkAll {H : Type} : List (DataW H) → Nat
  | [] => 0
  | d :: r => uptoBulk d + uptoBulkAll r
def uptoBulkEntries {H : Type} : List (Lit × DataW H) → Nat
  | [] => 0
  | x :: r => uptoBulkEntry x + uptoBulkEntries r
def uptoBulkEntry {H : Type} : Lit × DataW H → Nat
  | (.string bytes, d) => bytes.length + uptoBulk d + 1
  | (_, d) => uptoBulk d + 1
 end
def uptoSmall : (H : Type) → List (DataW H) → Bool := fun _ ds => decide (uptoBulkAll ds ≤ 1048576)
def OpenSpec.upto (s : _root_.Go.ChangeSpec) : _root_.Go.OpenSpec := { _root_.Go.OpenSpec.ofChange s with cond := some uptoSmall }

/-- 'laws.FnExactWithKind', WHERE WHAT IT READS IS OF BULK AT MOST 1048576: true; the input reads as it did. -/
def fnExactWithKindUptoRow : OpenClaim := { program := "ytfnpbpokieckcaadoor", sum := "5e3461244b64b98dc6d6294ac2bb1cdba1e5d129fa8972620e0521353928138c", func := "loop.example/g01338/laws.FnExactWithKind", spec := "fnExactWithKind", inPlace := ["internal/reflectlite.TypeOf"], unfollowed := true, recurses := true, named := ["loop.example/g01338/impl.errRange", "loop.example/g01338/impl.errInvalid", "loop.example/g01338/impl.errLimit", "loop.example/g01338/impl.errState", "loop.example/g01338/impl.errSyntax", "loop.example/g01338/impl.errNotFound", "loop.example/g01338/impl.errBudget", "loop.example/g01338/impl.errProof"], ifaces := true, plainKeys := false, apart := false, laid := [("loop.example/g01338/impl.errInvalid", laid_loop_example_g01338_impl_errInvalid), ("loop.example/g01338/impl.errRange", laid_loop_example_g01338_impl_errRange), ("loop.example/g01338/impl.errLimit", laid_loop_example_g01338_impl_errLimit), ("loop.example/g01338/impl.errState", laid_loop_example_g01338_impl_errState), ("loop.example/g01338/impl.errSyntax", laid_loop_example_g01338_impl_errSyntax), ("loop.example/g01338/impl.errNotFound", laid_loop_example_g01338_impl_errNotFound), ("loop.example/g01338/impl.errBudget", laid_loop_example_g01338_impl_errBudget), ("loop.example/g01338/impl.errProof", laid_loop_example_g01338_impl_errProof)], narrowed := true }
def FnExactWithKindUptoSaid : Prop := fnExactWithKindUptoRow.holds Tryd.pinned (OpenSpec.upto fnExactWithKindSpec)

/-- 'laws.FnExactSowCell', WHERE WHAT IT READS IS OF BULK AT MOST 1048576: true; the input reads as it did. -/
def fnExactSowCellUptoRow : OpenClaim := { program := "ytfnpbpokieckcaadoor", sum := "5e3461244b64b98dc6d6294ac2bb1cdba1e5d129fa8972620e0521353928138c", func := "loop.example/g01338/laws.FnExactSowCell", spec := "fnExactSowCell", inPlace := ["internal/reflectlite.TypeOf"], unfollowed := true, recurses := true, named := ["loop.example/g01338/impl.errRange", "loop.example/g01338/impl.errState", "loop.example/g01338/impl.errLimit", "loop.example/g01338/impl.errInvalid", "loop.example/g01338/impl.errSyntax", "loop.example/g01338/impl.errNotFound", "loop.example/g01338/impl.errBudget", "loop.example/g01338/impl.errProof"], ifaces := true, plainKeys := false, apart := false, laid := [("loop.example/g01338/impl.errInvalid", laid_loop_example_g01338_impl_errInvalid), ("loop.example/g01338/impl.errRange", laid_loop_example_g01338_impl_errRange), ("loop.example/g01338/impl.errLimit", laid_loop_example_g01338_impl_errLimit), ("loop.example/g01338/impl.errState", laid_loop_example_g01338_impl_errState), ("loop.example/g01338/impl.errSyntax", laid_loop_example_g01338_impl_errSyntax), ("loop.example/g01338/impl.errNotFound", laid_loop_example_g01338_impl_errNotFound), ("loop.example/g01338/impl.errBudget", laid_loop_example_g01338_impl_errBudget), ("loop.example/g01338/impl.errProof", laid_loop_example_g01338_impl_errProof)], narrowed := true }
def FnExactSowCellUptoSaid : Prop := fnExactSowCellUptoRow.holds Tryd.pinned (OpenSpec.upto fnExactSowCellSpec)

/-- 'laws.FnExactTakeSeeds', WHERE WHAT IT READS IS OF BULK AT MOST 1048576: true; the input reads as it did. -/
def fnExactTakeSeedsUptoRow : OpenClaim := { program := "ytfnpbpokieckcaadoor", sum := "5e3461244b64b98dc6d6294ac2bb1cdba1e5d129fa8972620e0521353928138c", func := "loop.example/g01338/laws.FnExactTakeSeeds", spec := "fnExactTakeSeeds", inPlace := ["internal/reflectlite.TypeOf"], unfollowed := true, recurses := true, named := ["loop.example/g01338/impl.errRange", "loop.example/g01338/impl.errInvalid", "loop.example/g01338/impl.errLimit", "loop.example/g01338/impl.errState", "loop.example/g01338/impl.errSyntax", "loop.example/g01338/impl.errNotFound", "loop.example/g01338/impl.errBudget", "loop.example/g01338/impl.errProof"], ifaces := true, plainKeys := false, apart := false, laid := [("loop.example/g01338/impl.errInvalid", laid_loop_example_g01338_impl_errInvalid), ("loop.example/g01338/impl.errRange", laid_loop_example_g01338_impl_errRange), ("loop.example/g01338/impl.errLimit", laid_loop_example_g01338_impl_errLimit), ("loop.example/g01338/impl.errState", laid_loop_example_g01338_impl_errState), ("loop.example/g01338/impl.errSyntax", laid_loop_example_g01338_impl_errSyntax), ("loop.example/g01338/impl.errNotFound", laid_loop_example_g01338_impl_errNotFound), ("loop.example/g01338/impl.errBudget", laid_loop_example_g01338_impl_errBudget), ("loop.example/g01338/impl.errProof", laid_loop_example_g01338_impl_errProof)], narrowed := true }
def FnExactTakeSeedsUptoSaid : Prop := fnExactTakeSeedsUptoRow.holds Tryd.pinned (OpenSpec.upto fnExactTakeSeedsSpec)

/-- 'laws.FnExactSeedsIn', WHERE WHAT IT READS IS OF BULK AT MOST 1048576: true; the input reads as it did. -/
def fnExactSeedsInUptoRow : OpenClaim := { program := "ytfnpbpokieckcaadoor", sum := "5e3461244b64b98dc6d6294ac2bb1cdba1e5d129fa8972620e0521353928138c", func := "loop.example/g01338/laws.FnExactSeedsIn", spec := "fnExactSeedsIn", inPlace := ["internal/reflectlite.TypeOf"], unfollowed := true, recurses := true, named := ["loop.example/g01338/impl.errInvalid", "loop.example/g01338/impl.errRange", "loop.example/g01338/impl.errLimit", "loop.example/g01338/impl.errState", "loop.example/g01338/impl.errSyntax", "loop.example/g01338/impl.errNotFound", "loop.example/g01338/impl.errBudget", "loop.example/g01338/impl.errProof"], ifaces := true, plainKeys := false, apart := false, laid := [("loop.example/g01338/impl.errInvalid", laid_loop_example_g01338_impl_errInvalid), ("loop.example/g01338/impl.errRange", laid_loop_example_g01338_impl_errRange), ("loop.example/g01338/impl.errLimit", laid_loop_example_g01338_impl_errLimit), ("loop.example/g01338/impl.errState", laid_loop_example_g01338_impl_errState), ("loop.example/g01338/impl.errSyntax", laid_loop_example_g01338_impl_errSyntax), ("loop.example/g01338/impl.errNotFound", laid_loop_example_g01338_impl_errNotFound), ("loop.example/g01338/impl.errBudget", laid_loop_example_g01338_impl_errBudget), ("loop.example/g01338/impl.errProof", laid_loop_example_g01338_impl_errProof)], narrowed := true }
def FnExactSeedsInUptoSaid : Prop := fnExactSeedsInUptoRow.holds Tryd.pinned (OpenSpec.upto fnExactSeedsInSpec)

/-- 'laws.FnExactHungerOf', WHERE WHAT IT READS IS OF BULK AT MOST 1048576: true; the input reads as it did. -/
def fnExactHungerOfUptoRow : OpenClaim := { program := "ytfnpbpokieckcaadoor", sum := "5e3461244b64b98dc6d6294ac2bb1cdba1e5d129fa8972620e0521353928138c", func := "loop.example/g01338/laws.FnExactHungerOf", spec := "fnExactHungerOf", inPlace := ["internal/reflectlite.TypeOf"], unfollowed := true, recurses := true, named := ["loop.example/g01338/impl.errInvalid", "loop.example/g01338/impl.mostOfFlock", "loop.example/g01338/impl.errRange", "loop.example/g01338/impl.errLimit", "loop.example/g01338/impl.errState", "loop.example/g01338/impl.errSyntax", "loop.example/g01338/impl.errNotFound", "loop.example/g01338/impl.errBudget", "loop.example/g01338/impl.errProof"], ifaces := true, plainKeys := false, apart := false, laid := [("loop.example/g01338/impl.errInvalid", laid_loop_example_g01338_impl_errInvalid), ("loop.example/g01338/impl.errRange", laid_loop_example_g01338_impl_errRange), ("loop.example/g01338/impl.errLimit", laid_loop_example_g01338_impl_errLimit), ("loop.example/g01338/impl.errState", laid_loop_example_g01338_impl_errState), ("loop.example/g01338/impl.errSyntax", laid_loop_example_g01338_impl_errSyntax), ("loop.example/g01338/impl.errNotFound", laid_loop_example_g01338_impl_errNotFound), ("loop.example/g01338/impl.errBudget", laid_loop_example_g01338_impl_errBudget), ("loop.example/g01338/impl.errProof", laid_loop_example_g01338_impl_errProof), ("loop.example/g01338/impl.mostOfFlock", laid_loop_example_g01338_impl_mostOfFlock)], narrowed := true }
def FnExactHungerOfUptoSaid : Prop := fnExactHungerOfUptoRow.holds Tryd.pinned (OpenSpec.upto fnExactHungerOfSpec)

/-- 'laws.FnExactBirdsIn', WHERE WHAT IT READS IS OF BULK AT MOST 1048576: true; the input reads as it did. -/
def fnExactBirdsInUptoRow : OpenClaim := { program := "ytfnpbpokieckcaadoor", sum := "5e3461244b64b98dc6d6294ac2bb1cdba1e5d129fa8972620e0521353928138c", func := "loop.example/g01338/laws.FnExactBirdsIn", spec := "fnExactBirdsIn", inPlace := ["internal/reflectlite.TypeOf"], unfollowed := true, recurses := true, named := ["loop.example/g01338/impl.errInvalid", "loop.example/g01338/impl.mostOfFlock", "loop.example/g01338/impl.errRange", "loop.example/g01338/impl.errLimit", "loop.example/g01338/impl.errState", "loop.example/g01338/impl.errSyntax", "loop.example/g01338/impl.errNotFound", "loop.example/g01338/impl.errBudget", "loop.example/g01338/impl.errProof"], ifaces := true, plainKeys := false, apart := false, laid := [("loop.example/g01338/impl.errInvalid", laid_loop_example_g01338_impl_errInvalid), ("loop.example/g01338/impl.errRange", laid_loop_example_g01338_impl_errRange), ("loop.example/g01338/impl.errLimit", laid_loop_example_g01338_impl_errLimit), ("loop.example/g01338/impl.errState", laid_loop_example_g01338_impl_errState), ("loop.example/g01338/impl.errSyntax", laid_loop_example_g01338_impl_errSyntax), ("loop.example/g01338/impl.errNotFound", laid_loop_example_g01338_impl_errNotFound), ("loop.example/g01338/impl.errBudget", laid_loop_example_g01338_impl_errBudget), ("loop.example/g01338/impl.errProof", laid_loop_example_g01338_impl_errProof), ("loop.example/g01338/impl.mostOfFlock", laid_loop_example_g01338_impl_mostOfFlock)], narrowed := true }
def FnExactBirdsInUptoSaid : Prop := fnExactBirdsInUptoRow.holds Tryd.pinned (OpenSpec.upto fnExactBirdsInSpec)

/-- 'laws.FnExactValidScares', WHERE WHAT IT READS IS OF BULK AT MOST 1048576: true; the input reads as it did. -/
def fnExactValidScaresUptoRow : OpenClaim := { program := "ytfnpbpokieckcaadoor", sum := "5e3461244b64b98dc6d6294ac2bb1cdba1e5d129fa8972620e0521353928138c", func := "loop.example/g01338/laws.FnExactValidScares", spec := "fnExactValidScares", unfollowed := true, recurses := true, named := ["loop.example/g01338/impl.errState", "loop.example/g01338/impl.errRange"], ifaces := true, plainKeys := false, apart := false, laid := [("loop.example/g01338/impl.errRange", laid_loop_example_g01338_impl_errRange), ("loop.example/g01338/impl.errState", laid_loop_example_g01338_impl_errState)], narrowed := true }
def FnExactValidScaresUptoSaid : Prop := fnExactValidScaresUptoRow.holds Tryd.pinned (OpenSpec.upto fnExactValidScaresSpec)

end Rows
end Go.Proofs.YtfnpbpokieckcaaDoor
