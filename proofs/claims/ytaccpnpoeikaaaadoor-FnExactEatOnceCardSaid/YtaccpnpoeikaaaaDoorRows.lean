/-
  NARROWER THAN 'FOR EVERY INPUT', by the rows' own cells (each row's printed sentence says how): FnExactCellsFor: ifaces, laid · FnExactSafeFrom: ifaces, laid · FnExactChoiceOf: ifaces, laid · FnExactEatOnce: ifaces, laid.
  DERIVED. THE GIVEN ROWS OF THIS SEAT. 4 by the template 'for every input the law returns true; each argument reads behind the call as it read before'; 0 by the template 'total and deterministic' (their statements: YtaccpnpoeikaaaaDoorTotals.lean).
  GIVEN WITH THE SEED: the statements are not yours to turn. If you find one false, say at which input.
  Laid BY PROGRAM, IN A SANDBOX (cutbox-rows.mjs): the forced cells as the released guide's own fill.sh prints them over the translation c10444d63db22f3b… (all of the seat's roots in one cut). By AI agents, Wed Nov 11 2026. No macro, syntax, notation, axiom, sorry.
-/
import Derived.Test.YtaccpnpoeikaaaaDoorChecked
import GoSem.Claim
import GoSem.ClaimJoined
import GoSem.ClaimMapViews
import Derived.JoinedTies
import Derived.KernelRfl
namespace Go.Proofs.YtaccpnpoeikaaaaDoor
/- THE CELL 'sum', in the pinned program and in every row, IS THE sha256 OF THE DUMP (.gsa) THAT YtaccpnpoeikaaaaDoorProg.lean LOADS. Nothing in Lean hashes anything: it is a label: what it is worth is what the hold of that sum in a sandbox is worth. -/
noncomputable def Tryd.pinned : Pinned := { name := "ytaccpnpoeikaaaadoor", sum := "c10444d63db22f3b70d318a2ac7564ed18d499359a28b211c5470daa7ffd8d64", checked := Tryd.checked }
namespace Rows
def none {H : Type} : Left H := { results := [], args := [] }

/- WHAT THE LISTED PACKAGE-LEVEL VARIABLES READ AS WHEN THE CALL BEGINS. Each datum BY PROGRAM (the guide's laid-datum.mjs) off the statement by which the dump's own 'gosem.cut.vars' lays the variable. In a bare row this is a premise. The card (YtaccpnpoeikaaaaDoorCards.lean) ties it to the program's text. -/
def laid_loop_example_g01338_impl_errInvalid {H : Type} : DataW H := .iface "*errors.errorString" (.ptr (.agg [.lit (.string [105, 110, 118, 97, 108, 105, 100])]))
def laid_loop_example_g01338_impl_errRange {H : Type} : DataW H := .iface "*errors.errorString" (.ptr (.agg [.lit (.string [114, 97, 110, 103, 101])]))
def laid_loop_example_g01338_impl_errLimit {H : Type} : DataW H := .iface "*errors.errorString" (.ptr (.agg [.lit (.string [108, 105, 109, 105, 116])]))
def laid_loop_example_g01338_impl_errState {H : Type} : DataW H := .iface "*errors.errorString" (.ptr (.agg [.lit (.string [115, 116, 97, 116, 101])]))
def laid_loop_example_g01338_impl_errSyntax {H : Type} : DataW H := .iface "*errors.errorString" (.ptr (.agg [.lit (.string [115, 121, 110, 116, 97, 120])]))
def laid_loop_example_g01338_impl_errNotFound {H : Type} : DataW H := .iface "*errors.errorString" (.ptr (.agg [.lit (.string [110, 111, 116, 102, 111, 117, 110, 100])]))
def laid_loop_example_g01338_impl_errBudget {H : Type} : DataW H := .iface "*errors.errorString" (.ptr (.agg [.lit (.string [98, 117, 100, 103, 101, 116])]))
def laid_loop_example_g01338_impl_errProof {H : Type} : DataW H := .iface "*errors.errorString" (.ptr (.agg [.lit (.string [112, 114, 111, 111, 102])]))
def laid_loop_example_g01338_impl_mostOfFlock {H : Type} : DataW H := .agg [.lit (.int .i64 99), .lit (.int .i64 200), .lit (.int .i64 20), .lit (.int .i64 1000), .lit (.int .i64 200), .lit (.int .i64 2)]

/-- 'laws.FnExactCellsFor': WHATEVER THE INPUT: true; the input reads as it did. -/
def fnExactCellsForSpec : ChangeSpec := { name := "fnExactCellsFor", vars := ["loop.example/g01338/impl.errInvalid", "loop.example/g01338/impl.mostOfFlock", "loop.example/g01338/impl.errRange", "loop.example/g01338/impl.errLimit", "loop.example/g01338/impl.errState", "loop.example/g01338/impl.errSyntax", "loop.example/g01338/impl.errNotFound", "loop.example/g01338/impl.errBudget", "loop.example/g01338/impl.errProof"], fn := fun _ => fun
  | [d1, d2, d3, g1, g2, g3, g4, g5, g6, g7, g8, g9] => { results := [.lit (.bool true)], args := [d1, d2, d3], vars := [g1, g2, g3, g4, g5, g6, g7, g8, g9] }
  | _ => none }
def fnExactCellsForRow : OpenClaim := { program := "ytaccpnpoeikaaaadoor", sum := "c10444d63db22f3b70d318a2ac7564ed18d499359a28b211c5470daa7ffd8d64", func := "loop.example/g01338/laws.FnExactCellsFor", spec := "fnExactCellsFor", inPlace := ["internal/reflectlite.TypeOf"], unfollowed := true, recurses := true, named := ["loop.example/g01338/impl.errInvalid", "loop.example/g01338/impl.mostOfFlock", "loop.example/g01338/impl.errRange", "loop.example/g01338/impl.errLimit", "loop.example/g01338/impl.errState", "loop.example/g01338/impl.errSyntax", "loop.example/g01338/impl.errNotFound", "loop.example/g01338/impl.errBudget", "loop.example/g01338/impl.errProof"], ifaces := true, plainKeys := false, apart := false, laid := [("loop.example/g01338/impl.errInvalid", laid_loop_example_g01338_impl_errInvalid), ("loop.example/g01338/impl.errRange", laid_loop_example_g01338_impl_errRange), ("loop.example/g01338/impl.errLimit", laid_loop_example_g01338_impl_errLimit), ("loop.example/g01338/impl.errState", laid_loop_example_g01338_impl_errState), ("loop.example/g01338/impl.errSyntax", laid_loop_example_g01338_impl_errSyntax), ("loop.example/g01338/impl.errNotFound", laid_loop_example_g01338_impl_errNotFound), ("loop.example/g01338/impl.errBudget", laid_loop_example_g01338_impl_errBudget), ("loop.example/g01338/impl.errProof", laid_loop_example_g01338_impl_errProof), ("loop.example/g01338/impl.mostOfFlock", laid_loop_example_g01338_impl_mostOfFlock)] }
def FnExactCellsForSaid : Prop := fnExactCellsForRow.holds Tryd.pinned (OpenSpec.ofChange fnExactCellsForSpec)

/-- ITS FALSE NEIGHBOUR: 'it returns false'. Refute it at one input. -/
def fnExactCellsForWrong : ChangeSpec := { name := "fnExactCellsFor", vars := ["loop.example/g01338/impl.errInvalid", "loop.example/g01338/impl.mostOfFlock", "loop.example/g01338/impl.errRange", "loop.example/g01338/impl.errLimit", "loop.example/g01338/impl.errState", "loop.example/g01338/impl.errSyntax", "loop.example/g01338/impl.errNotFound", "loop.example/g01338/impl.errBudget", "loop.example/g01338/impl.errProof"], fn := fun _ => fun
  | [d1, d2, d3, g1, g2, g3, g4, g5, g6, g7, g8, g9] => { results := [.lit (.bool false)], args := [d1, d2, d3], vars := [g1, g2, g3, g4, g5, g6, g7, g8, g9] }
  | _ => none }
def FnExactCellsForWrongFalsely : Prop := fnExactCellsForRow.holds Tryd.pinned (OpenSpec.ofChange fnExactCellsForWrong)

/-- 'laws.FnExactSafeFrom': WHATEVER THE INPUT: true; the input reads as it did. -/
def fnExactSafeFromSpec : ChangeSpec := { name := "fnExactSafeFrom", vars := ["loop.example/g01338/impl.errInvalid", "loop.example/g01338/impl.mostOfFlock", "loop.example/g01338/impl.errRange", "loop.example/g01338/impl.errLimit", "loop.example/g01338/impl.errState", "loop.example/g01338/impl.errSyntax", "loop.example/g01338/impl.errNotFound", "loop.example/g01338/impl.errBudget", "loop.example/g01338/impl.errProof"], fn := fun _ => fun
  | [d1, d2, d3, g1, g2, g3, g4, g5, g6, g7, g8, g9] => { results := [.lit (.bool true)], args := [d1, d2, d3], vars := [g1, g2, g3, g4, g5, g6, g7, g8, g9] }
  | _ => none }
def fnExactSafeFromRow : OpenClaim := { program := "ytaccpnpoeikaaaadoor", sum := "c10444d63db22f3b70d318a2ac7564ed18d499359a28b211c5470daa7ffd8d64", func := "loop.example/g01338/laws.FnExactSafeFrom", spec := "fnExactSafeFrom", inPlace := ["internal/reflectlite.TypeOf"], unfollowed := true, recurses := true, named := ["loop.example/g01338/impl.errInvalid", "loop.example/g01338/impl.mostOfFlock", "loop.example/g01338/impl.errRange", "loop.example/g01338/impl.errLimit", "loop.example/g01338/impl.errState", "loop.example/g01338/impl.errSyntax", "loop.example/g01338/impl.errNotFound", "loop.example/g01338/impl.errBudget", "loop.example/g01338/impl.errProof"], ifaces := true, plainKeys := false, apart := false, laid := [("loop.example/g01338/impl.errInvalid", laid_loop_example_g01338_impl_errInvalid), ("loop.example/g01338/impl.errRange", laid_loop_example_g01338_impl_errRange), ("loop.example/g01338/impl.errLimit", laid_loop_example_g01338_impl_errLimit), ("loop.example/g01338/impl.errState", laid_loop_example_g01338_impl_errState), ("loop.example/g01338/impl.errSyntax", laid_loop_example_g01338_impl_errSyntax), ("loop.example/g01338/impl.errNotFound", laid_loop_example_g01338_impl_errNotFound), ("loop.example/g01338/impl.errBudget", laid_loop_example_g01338_impl_errBudget), ("loop.example/g01338/impl.errProof", laid_loop_example_g01338_impl_errProof), ("loop.example/g01338/impl.mostOfFlock", laid_loop_example_g01338_impl_mostOfFlock)] }
def FnExactSafeFromSaid : Prop := fnExactSafeFromRow.holds Tryd.pinned (OpenSpec.ofChange fnExactSafeFromSpec)

/-- ITS FALSE NEIGHBOUR: 'it returns false'. Refute it at one input. -/
def fnExactSafeFromWrong : ChangeSpec := { name := "fnExactSafeFrom", vars := ["loop.example/g01338/impl.errInvalid", "loop.example/g01338/impl.mostOfFlock", "loop.example/g01338/impl.errRange", "loop.example/g01338/impl.errLimit", "loop.example/g01338/impl.errState", "loop.example/g01338/impl.errSyntax", "loop.example/g01338/impl.errNotFound", "loop.example/g01338/impl.errBudget", "loop.example/g01338/impl.errProof"], fn := fun _ => fun
  | [d1, d2, d3, g1, g2, g3, g4, g5, g6, g7, g8, g9] => { results := [.lit (.bool false)], args := [d1, d2, d3], vars := [g1, g2, g3, g4, g5, g6, g7, g8, g9] }
  | _ => none }
def FnExactSafeFromWrongFalsely : Prop := fnExactSafeFromRow.holds Tryd.pinned (OpenSpec.ofChange fnExactSafeFromWrong)

/-- 'laws.FnExactChoiceOf': WHATEVER THE INPUT: true; the input reads as it did. -/
def fnExactChoiceOfSpec : ChangeSpec := { name := "fnExactChoiceOf", vars := ["loop.example/g01338/impl.errInvalid", "loop.example/g01338/impl.mostOfFlock", "loop.example/g01338/impl.errRange", "loop.example/g01338/impl.errLimit", "loop.example/g01338/impl.errState", "loop.example/g01338/impl.errSyntax", "loop.example/g01338/impl.errNotFound", "loop.example/g01338/impl.errBudget", "loop.example/g01338/impl.errProof"], fn := fun _ => fun
  | [d1, d2, d3, g1, g2, g3, g4, g5, g6, g7, g8, g9] => { results := [.lit (.bool true)], args := [d1, d2, d3], vars := [g1, g2, g3, g4, g5, g6, g7, g8, g9] }
  | _ => none }
def fnExactChoiceOfRow : OpenClaim := { program := "ytaccpnpoeikaaaadoor", sum := "c10444d63db22f3b70d318a2ac7564ed18d499359a28b211c5470daa7ffd8d64", func := "loop.example/g01338/laws.FnExactChoiceOf", spec := "fnExactChoiceOf", inPlace := ["internal/reflectlite.TypeOf"], unfollowed := true, recurses := true, named := ["loop.example/g01338/impl.errInvalid", "loop.example/g01338/impl.mostOfFlock", "loop.example/g01338/impl.errRange", "loop.example/g01338/impl.errLimit", "loop.example/g01338/impl.errState", "loop.example/g01338/impl.errSyntax", "loop.example/g01338/impl.errNotFound", "loop.example/g01338/impl.errBudget", "loop.example/g01338/impl.errProof"], ifaces := true, plainKeys := false, apart := false, laid := [("loop.example/g01338/impl.errInvalid", laid_loop_example_g01338_impl_errInvalid), ("loop.example/g01338/impl.errRange", laid_loop_example_g01338_impl_errRange), ("loop.example/g01338/impl.errLimit", laid_loop_example_g01338_impl_errLimit), ("loop.example/g01338/impl.errState", laid_loop_example_g01338_impl_errState), ("loop.example/g01338/impl.errSyntax", laid_loop_example_g01338_impl_errSyntax), ("loop.example/g01338/impl.errNotFound", laid_loop_example_g01338_impl_errNotFound), ("loop.example/g01338/impl.errBudget", laid_loop_example_g01338_impl_errBudget), ("loop.example/g01338/impl.errProof", laid_loop_example_g01338_impl_errProof), ("loop.example/g01338/impl.mostOfFlock", laid_loop_example_g01338_impl_mostOfFlock)] }
def FnExactChoiceOfSaid : Prop := fnExactChoiceOfRow.holds Tryd.pinned (OpenSpec.ofChange fnExactChoiceOfSpec)

/-- ITS FALSE NEIGHBOUR: 'it returns false'. Refute it at one input. -/
def fnExactChoiceOfWrong : ChangeSpec := { name := "fnExactChoiceOf", vars := ["loop.example/g01338/impl.errInvalid", "loop.example/g01338/impl.mostOfFlock", "loop.example/g01338/impl.errRange", "loop.example/g01338/impl.errLimit", "loop.example/g01338/impl.errState", "loop.example/g01338/impl.errSyntax", "loop.example/g01338/impl.errNotFound", "loop.example/g01338/impl.errBudget", "loop.example/g01338/impl.errProof"], fn := fun _ => fun
  | [d1, d2, d3, g1, g2, g3, g4, g5, g6, g7, g8, g9] => { results := [.lit (.bool false)], args := [d1, d2, d3], vars := [g1, g2, g3, g4, g5, g6, g7, g8, g9] }
  | _ => none }
def FnExactChoiceOfWrongFalsely : Prop := fnExactChoiceOfRow.holds Tryd.pinned (OpenSpec.ofChange fnExactChoiceOfWrong)

/-- 'laws.FnExactEatOnce': WHATEVER THE INPUT: true; the input reads as it did. -/
def fnExactEatOnceSpec : ChangeSpec := { name := "fnExactEatOnce", vars := ["loop.example/g01338/impl.errState", "loop.example/g01338/impl.errInvalid", "loop.example/g01338/impl.mostOfFlock", "loop.example/g01338/impl.errRange", "loop.example/g01338/impl.errLimit", "loop.example/g01338/impl.errSyntax", "loop.example/g01338/impl.errNotFound", "loop.example/g01338/impl.errBudget", "loop.example/g01338/impl.errProof"], fn := fun _ => fun
  | [d1, d2, d3, g1, g2, g3, g4, g5, g6, g7, g8, g9] => { results := [.lit (.bool true)], args := [d1, d2, d3], vars := [g1, g2, g3, g4, g5, g6, g7, g8, g9] }
  | _ => none }
def fnExactEatOnceRow : OpenClaim := { program := "ytaccpnpoeikaaaadoor", sum := "c10444d63db22f3b70d318a2ac7564ed18d499359a28b211c5470daa7ffd8d64", func := "loop.example/g01338/laws.FnExactEatOnce", spec := "fnExactEatOnce", inPlace := ["internal/reflectlite.TypeOf"], unfollowed := true, recurses := true, named := ["loop.example/g01338/impl.errState", "loop.example/g01338/impl.errInvalid", "loop.example/g01338/impl.mostOfFlock", "loop.example/g01338/impl.errRange", "loop.example/g01338/impl.errLimit", "loop.example/g01338/impl.errSyntax", "loop.example/g01338/impl.errNotFound", "loop.example/g01338/impl.errBudget", "loop.example/g01338/impl.errProof"], ifaces := true, plainKeys := false, apart := false, laid := [("loop.example/g01338/impl.errInvalid", laid_loop_example_g01338_impl_errInvalid), ("loop.example/g01338/impl.errRange", laid_loop_example_g01338_impl_errRange), ("loop.example/g01338/impl.errLimit", laid_loop_example_g01338_impl_errLimit), ("loop.example/g01338/impl.errState", laid_loop_example_g01338_impl_errState), ("loop.example/g01338/impl.errSyntax", laid_loop_example_g01338_impl_errSyntax), ("loop.example/g01338/impl.errNotFound", laid_loop_example_g01338_impl_errNotFound), ("loop.example/g01338/impl.errBudget", laid_loop_example_g01338_impl_errBudget), ("loop.example/g01338/impl.errProof", laid_loop_example_g01338_impl_errProof), ("loop.example/g01338/impl.mostOfFlock", laid_loop_example_g01338_impl_mostOfFlock)] }
def FnExactEatOnceSaid : Prop := fnExactEatOnceRow.holds Tryd.pinned (OpenSpec.ofChange fnExactEatOnceSpec)

/-- ITS FALSE NEIGHBOUR: 'it returns false'. Refute it at one input. -/
def fnExactEatOnceWrong : ChangeSpec := { name := "fnExactEatOnce", vars := ["loop.example/g01338/impl.errState", "loop.example/g01338/impl.errInvalid", "loop.example/g01338/impl.mostOfFlock", "loop.example/g01338/impl.errRange", "loop.example/g01338/impl.errLimit", "loop.example/g01338/impl.errSyntax", "loop.example/g01338/impl.errNotFound", "loop.example/g01338/impl.errBudget", "loop.example/g01338/impl.errProof"], fn := fun _ => fun
  | [d1, d2, d3, g1, g2, g3, g4, g5, g6, g7, g8, g9] => { results := [.lit (.bool false)], args := [d1, d2, d3], vars := [g1, g2, g3, g4, g5, g6, g7, g8, g9] }
  | _ => none }
def FnExactEatOnceWrongFalsely : Prop := fnExactEatOnceRow.holds Tryd.pinned (OpenSpec.ofChange fnExactEatOnceWrong)

/- THE SECOND FORM. 'bulk': how many values and letters a reading holds, each counted each time it is reached (what is shared counts as often as it is met; a slice's spare places count too). A statement '..UptoSaid' is the law's where the arguments, and the package variables that the reading takes, are together of bulk at most 1048576: NARROWER than '..Said'. Prove '..Said' where nothing that the law and all that it calls make is longer than what came in: it says more and counts as full. Else prove '..UptoSaid'. A law counts once. -/
mutual
def uptoBulk {H : Type} : DataW H → Nat
  | .lit (.string bytes) => bytes.length + 1
  | .lit _ => 1
  | .nil => 1
  | .ptr d => uptoBulk d + 1
  | .slice elems spare => uptoBulkAll elems + uptoBulkAll spare + 1
  | .agg parts => uptoBulkAll parts + 1
  | .iface _ d => uptoBulk d + 1
  | .map entries => uptoBulkEntries entries + 1
  | .held _ => 1
def uptoBulkAll {H : Type} : List (DataW H) → Nat
  | [] => 0
  | d :: r => uptoBulk d + uptoBulkAll r
def uptoBulkEntries {H : Type} : List (Lit × DataW H) → Nat
  | [] => 0
  | x :: r => uptoBulkEntry x + uptoBulkEntries r
def uptoBulkEntry {H : Type} : Lit × DataW H → Nat
  | (.string bytes, d) => bytes.length + uptoBulk d + 1
  | (_, d) => uptoBulk d + 1
 end
def uptoSmall : (H : Type) → List (DataW H) → Bool := fun _ ds => decide (uptoBulkAll ds ≤ 1048576)
def OpenSpec.upto (s : _root_.Go.ChangeSpec) : _root_.Go.OpenSpec := { _root_.Go.OpenSpec.ofChange s with cond := some uptoSmall }

/-- 'laws.FnExactCellsFor', WHERE WHAT IT READS IS OF BULK AT MOST 1048576: true; the input reads as it did. -/
def fnExactCellsForUptoRow : OpenClaim := { program := "ytaccpnpoeikaaaadoor", sum := "c10444d63db22f3b70d318a2ac7564ed18d499359a28b211c5470daa7ffd8d64", func := "loop.example/g01338/laws.FnExactCellsFor", spec := "fnExactCellsFor", inPlace := ["internal/reflectlite.TypeOf"], unfollowed := true, recurses := true, named := ["loop.example/g01338/impl.errInvalid", "loop.example/g01338/impl.mostOfFlock", "loop.example/g01338/impl.errRange", "loop.example/g01338/impl.errLimit", "loop.example/g01338/impl.errState", "loop.example/g01338/impl.errSyntax", "loop.example/g01338/impl.errNotFound", "loop.example/g01338/impl.errBudget", "loop.example/g01338/impl.errProof"], ifaces := true, plainKeys := false, apart := false, laid := [("loop.example/g01338/impl.errInvalid", laid_loop_example_g01338_impl_errInvalid), ("loop.example/g01338/impl.errRange", laid_loop_example_g01338_impl_errRange), ("loop.example/g01338/impl.errLimit", laid_loop_example_g01338_impl_errLimit), ("loop.example/g01338/impl.errState", laid_loop_example_g01338_impl_errState), ("loop.example/g01338/impl.errSyntax", laid_loop_example_g01338_impl_errSyntax), ("loop.example/g01338/impl.errNotFound", laid_loop_example_g01338_impl_errNotFound), ("loop.example/g01338/impl.errBudget", laid_loop_example_g01338_impl_errBudget), ("loop.example/g01338/impl.errProof", laid_loop_example_g01338_impl_errProof), ("loop.example/g01338/impl.mostOfFlock", laid_loop_example_g01338_impl_mostOfFlock)], narrowed := true }
def FnExactCellsForUptoSaid : Prop := fnExactCellsForUptoRow.holds Tryd.pinned (OpenSpec.upto fnExactCellsForSpec)

/-- 'laws.FnExactSafeFrom', WHERE WHAT IT READS IS OF BULK AT MOST 1048576: true; the input reads as it did. -/
def fnExactSafeFromUptoRow : OpenClaim := { program := "ytaccpnpoeikaaaadoor", sum := "c10444d63db22f3b70d318a2ac7564ed18d499359a28b211c5470daa7ffd8d64", func := "loop.example/g01338/laws.FnExactSafeFrom", spec := "fnExactSafeFrom", inPlace := ["internal/reflectlite.TypeOf"], unfollowed := true, recurses := true, named := ["loop.example/g01338/impl.errInvalid", "loop.example/g01338/impl.mostOfFlock", "loop.example/g01338/impl.errRange", "loop.example/g01338/impl.errLimit", "loop.example/g01338/impl.errState", "loop.example/g01338/impl.errSyntax", "loop.example/g01338/impl.errNotFound", "loop.example/g01338/impl.errBudget", "loop.example/g01338/impl.errProof"], ifaces := true, plainKeys := false, apart := false, laid := [("loop.example/g01338/impl.errInvalid", laid_loop_example_g01338_impl_errInvalid), ("loop.example/g01338/impl.errRange", laid_loop_example_g01338_impl_errRange), ("loop.example/g01338/impl.errLimit", laid_loop_example_g01338_impl_errLimit), ("loop.example/g01338/impl.errState", laid_loop_example_g01338_impl_errState), ("loop.example/g01338/impl.errSyntax", laid_loop_example_g01338_impl_errSyntax), ("loop.example/g01338/impl.errNotFound", laid_loop_example_g01338_impl_errNotFound), ("loop.example/g01338/impl.errBudget", laid_loop_example_g01338_impl_errBudget), ("loop.example/g01338/impl.errProof", laid_loop_example_g01338_impl_errProof), ("loop.example/g01338/impl.mostOfFlock", laid_loop_example_g01338_impl_mostOfFlock)], narrowed := true }
def FnExactSafeFromUptoSaid : Prop := fnExactSafeFromUptoRow.holds Tryd.pinned (OpenSpec.upto fnExactSafeFromSpec)

/-- 'laws.FnExactChoiceOf', WHERE WHAT IT READS IS OF BULK AT MOST 1048576: true; the input reads as it did. -/
def fnExactChoiceOfUptoRow : OpenClaim := { program := "ytaccpnpoeikaaaadoor", sum := "c10444d63db22f3b70d318a2ac7564ed18d499359a28b211c5470daa7ffd8d64", func := "loop.example/g01338/laws.FnExactChoiceOf", spec := "fnExactChoiceOf", inPlace := ["internal/reflectlite.TypeOf"], unfollowed := true, recurses := true, named := ["loop.example/g01338/impl.errInvalid", "loop.example/g01338/impl.mostOfFlock", "loop.example/g01338/impl.errRange", "loop.example/g01338/impl.errLimit", "loop.example/g01338/impl.errState", "loop.example/g01338/impl.errSyntax", "loop.example/g01338/impl.errNotFound", "loop.example/g01338/impl.errBudget", "loop.example/g01338/impl.errProof"], ifaces := true, plainKeys := false, apart := false, laid := [("loop.example/g01338/impl.errInvalid", laid_loop_example_g01338_impl_errInvalid), ("loop.example/g01338/impl.errRange", laid_loop_example_g01338_impl_errRange), ("loop.example/g01338/impl.errLimit", laid_loop_example_g01338_impl_errLimit), ("loop.example/g01338/impl.errState", laid_loop_example_g01338_impl_errState), ("loop.example/g01338/impl.errSyntax", laid_loop_example_g01338_impl_errSyntax), ("loop.example/g01338/impl.errNotFound", laid_loop_example_g01338_impl_errNotFound), ("loop.example/g01338/impl.errBudget", laid_loop_example_g01338_impl_errBudget), ("loop.example/g01338/impl.errProof", laid_loop_example_g01338_impl_errProof), ("loop.example/g01338/impl.mostOfFlock", laid_loop_example_g01338_impl_mostOfFlock)], narrowed := true }
def FnExactChoiceOfUptoSaid : Prop := fnExactChoiceOfUptoRow.holds Tryd.pinned (OpenSpec.upto fnExactChoiceOfSpec)

/-- 'laws.FnExactEatOnce', WHERE WHAT IT READS IS OF BULK AT MOST 1048576: true; the input reads as it did. -/
def fnExactEatOnceUptoRow : OpenClaim := { program := "ytaccpnpoeikaaaadoor", sum := "c10444d63db22f3b70d318a2ac7564ed18d499359a28b211c5470daa7ffd8d64", func := "loop.example/g01338/laws.FnExactEatOnce", spec := "fnExactEatOnce", inPlace := ["internal/reflectlite.TypeOf"], unfollowed := true, recurses := true, named := ["loop.example/g01338/impl.errState", "loop.example/g01338/impl.errInvalid", "loop.example/g01338/impl.mostOfFlock", "loop.example/g01338/impl.errRange", "loop.example/g01338/impl.errLimit", "loop.example/g01338/impl.errSyntax", "loop.example/g01338/impl.errNotFound", "loop.example/g01338/impl.errBudget", "loop.example/g01338/impl.errProof"], ifaces := true, plainKeys := false, apart := false, laid := [("loop.example/g01338/impl.errInvalid", laid_loop_example_g01338_impl_errInvalid), ("loop.example/g01338/impl.errRange", laid_loop_example_g01338_impl_errRange), ("loop.example/g01338/impl.errLimit", laid_loop_example_g01338_impl_errLimit), ("loop.example/g01338/impl.errState", laid_loop_example_g01338_impl_errState), ("loop.example/g01338/impl.errSyntax", laid_loop_example_g01338_impl_errSyntax), ("loop.example/g01338/impl.errNotFound", laid_loop_example_g01338_impl_errNotFound), ("loop.example/g01338/impl.errBudget", laid_loop_example_g01338_impl_errBudget), ("loop.example/g01338/impl.errProof", laid_loop_example_g01338_impl_errProof), ("loop.example/g01338/impl.mostOfFlock", laid_loop_example_g01338_impl_mostOfFlock)], narrowed := true }
def FnExactEatOnceUptoSaid : Prop := fnExactEatOnceUptoRow.holds Tryd.pinned (OpenSpec.upto fnExactEatOnceSpec)

end Rows
end Go.Proofs.YtaccpnpoeikaaaaDoor
