/-
  NARROWER THAN 'FOR EVERY INPUT', by the rows' own cells (each row's printed sentence says how): FnExactCheckNets: ifaces, laid · FnExactFirstBare: ifaces, laid · FnExactHolesToMend: ifaces, laid.
  DERIVED. THE GIVEN ROWS OF THIS SEAT. 3 by the template 'for every input the law returns true; each argument reads behind the call as it read before'; 0 by the template 'total and deterministic' (their statements: YtniibbgcdaijfaaDoorTotals.lean).
  GIVEN WITH THE SEED: the statements are not yours to turn. If you find one false, say at which input.
  Laid BY PROGRAM, IN A SANDBOX (cutbox-rows.mjs): the forced cells as the released guide's own fill.sh prints them over the translation a2c52b4a98a796b2… (all of the seat's roots in one cut). By AI agents, Wed Nov 11 2026. No macro, syntax, notation, axiom, sorry.
-/
import Derived.Test.YtniibbgcdaijfaaDoorChecked
import GoSem.Claim
import GoSem.ClaimJoined
import GoSem.ClaimMapViews
import Derived.JoinedTies
import Derived.KernelRfl
namespace Go.Proofs.YtniibbgcdaijfaaDoor
/- THE CELL 'sum', in the pinned program and in every row, IS THE sha256 OF THE DUMP (.gsa) THAT YtniibbgcdaijfaaDoorProg.lean LOADS. Nothing in Lean hashes anything: it is a label: what it is worth is what the hold of that sum in a sandbox is worth. -/
noncomputable def Tryd.pinned : Pinned := { name := "ytniibbgcdaijfaadoor", sum := "a2c52b4a98a796b228c6407b3a157dfc58218346865557b4641802679423478d", checked := Tryd.checked }
namespace Rows
def none {H : Type} : Left H := { results := [], args := [] }

/- WHAT THE LISTED PACKAGE-LEVEL VARIABLES READ AS WHEN THE CALL BEGINS. Each datum BY PROGRAM (the guide's laid-datum.mjs) off the statement by which the dump's own 'gosem.cut.vars' lays the variable. In a bare row this is a premise. The card (YtniibbgcdaijfaaDoorCards.lean) ties it to the program's text. -/
def laid_loop_example_g01338_impl_errInvalid {H : Type} : DataW H := .iface "*errors.errorString" (.ptr (.agg [.lit (.string [105, 110, 118, 97, 108, 105, 100])]))
def laid_loop_example_g01338_impl_errRange {H : Type} : DataW H := .iface "*errors.errorString" (.ptr (.agg [.lit (.string [114, 97, 110, 103, 101])]))
def laid_loop_example_g01338_impl_errLimit {H : Type} : DataW H := .iface "*errors.errorString" (.ptr (.agg [.lit (.string [108, 105, 109, 105, 116])]))
def laid_loop_example_g01338_impl_errState {H : Type} : DataW H := .iface "*errors.errorString" (.ptr (.agg [.lit (.string [115, 116, 97, 116, 101])]))
def laid_loop_example_g01338_impl_errSyntax {H : Type} : DataW H := .iface "*errors.errorString" (.ptr (.agg [.lit (.string [115, 121, 110, 116, 97, 120])]))
def laid_loop_example_g01338_impl_errNotFound {H : Type} : DataW H := .iface "*errors.errorString" (.ptr (.agg [.lit (.string [110, 111, 116, 102, 111, 117, 110, 100])]))
def laid_loop_example_g01338_impl_errBudget {H : Type} : DataW H := .iface "*errors.errorString" (.ptr (.agg [.lit (.string [98, 117, 100, 103, 101, 116])]))
def laid_loop_example_g01338_impl_errProof {H : Type} : DataW H := .iface "*errors.errorString" (.ptr (.agg [.lit (.string [112, 114, 111, 111, 102])]))

/-- 'laws.FnExactCheckNets': WHATEVER THE INPUT: true; the input reads as it did. -/
def fnExactCheckNetsSpec : ChangeSpec := { name := "fnExactCheckNets", vars := ["loop.example/g01338/impl.errInvalid", "loop.example/g01338/impl.errLimit", "loop.example/g01338/impl.errRange", "loop.example/g01338/impl.errState", "loop.example/g01338/impl.errSyntax", "loop.example/g01338/impl.errNotFound", "loop.example/g01338/impl.errBudget", "loop.example/g01338/impl.errProof"], fn := fun _ => fun
  | [d1, d2, d3, g1, g2, g3, g4, g5, g6, g7, g8] => { results := [.lit (.bool true)], args := [d1, d2, d3], vars := [g1, g2, g3, g4, g5, g6, g7, g8] }
  | _ => none }
def fnExactCheckNetsRow : OpenClaim := { program := "ytniibbgcdaijfaadoor", sum := "a2c52b4a98a796b228c6407b3a157dfc58218346865557b4641802679423478d", func := "loop.example/g01338/laws.FnExactCheckNets", spec := "fnExactCheckNets", inPlace := ["internal/reflectlite.TypeOf"], unfollowed := true, recurses := true, named := ["loop.example/g01338/impl.errInvalid", "loop.example/g01338/impl.errLimit", "loop.example/g01338/impl.errRange", "loop.example/g01338/impl.errState", "loop.example/g01338/impl.errSyntax", "loop.example/g01338/impl.errNotFound", "loop.example/g01338/impl.errBudget", "loop.example/g01338/impl.errProof"], ifaces := true, plainKeys := false, apart := false, laid := [("loop.example/g01338/impl.errInvalid", laid_loop_example_g01338_impl_errInvalid), ("loop.example/g01338/impl.errRange", laid_loop_example_g01338_impl_errRange), ("loop.example/g01338/impl.errLimit", laid_loop_example_g01338_impl_errLimit), ("loop.example/g01338/impl.errState", laid_loop_example_g01338_impl_errState), ("loop.example/g01338/impl.errSyntax", laid_loop_example_g01338_impl_errSyntax), ("loop.example/g01338/impl.errNotFound", laid_loop_example_g01338_impl_errNotFound), ("loop.example/g01338/impl.errBudget", laid_loop_example_g01338_impl_errBudget), ("loop.example/g01338/impl.errProof", laid_loop_example_g01338_impl_errProof)] }
def FnExactCheckNetsSaid : Prop := fnExactCheckNetsRow.holds Tryd.pinned (OpenSpec.ofChange fnExactCheckNetsSpec)

/-- ITS FALSE NEIGHBOUR: 'it returns false'. Refute it at one input. -/
def fnExactCheckNetsWrong : ChangeSpec := { name := "fnExactCheckNets", vars := ["loop.example/g01338/impl.errInvalid", "loop.example/g01338/impl.errLimit", "loop.example/g01338/impl.errRange", "loop.example/g01338/impl.errState", "loop.example/g01338/impl.errSyntax", "loop.example/g01338/impl.errNotFound", "loop.example/g01338/impl.errBudget", "loop.example/g01338/impl.errProof"], fn := fun _ => fun
  | [d1, d2, d3, g1, g2, g3, g4, g5, g6, g7, g8] => { results := [.lit (.bool false)], args := [d1, d2, d3], vars := [g1, g2, g3, g4, g5, g6, g7, g8] }
  | _ => none }
def FnExactCheckNetsWrongFalsely : Prop := fnExactCheckNetsRow.holds Tryd.pinned (OpenSpec.ofChange fnExactCheckNetsWrong)

/-- 'laws.FnExactFirstBare': WHATEVER THE INPUT: true; the input reads as it did. -/
def fnExactFirstBareSpec : ChangeSpec := { name := "fnExactFirstBare", vars := ["loop.example/g01338/impl.errInvalid", "loop.example/g01338/impl.errLimit", "loop.example/g01338/impl.errRange", "loop.example/g01338/impl.errState", "loop.example/g01338/impl.errSyntax", "loop.example/g01338/impl.errNotFound", "loop.example/g01338/impl.errBudget", "loop.example/g01338/impl.errProof"], fn := fun _ => fun
  | [d1, d2, d3, g1, g2, g3, g4, g5, g6, g7, g8] => { results := [.lit (.bool true)], args := [d1, d2, d3], vars := [g1, g2, g3, g4, g5, g6, g7, g8] }
  | _ => none }
def fnExactFirstBareRow : OpenClaim := { program := "ytniibbgcdaijfaadoor", sum := "a2c52b4a98a796b228c6407b3a157dfc58218346865557b4641802679423478d", func := "loop.example/g01338/laws.FnExactFirstBare", spec := "fnExactFirstBare", inPlace := ["internal/reflectlite.TypeOf"], unfollowed := true, recurses := true, named := ["loop.example/g01338/impl.errInvalid", "loop.example/g01338/impl.errLimit", "loop.example/g01338/impl.errRange", "loop.example/g01338/impl.errState", "loop.example/g01338/impl.errSyntax", "loop.example/g01338/impl.errNotFound", "loop.example/g01338/impl.errBudget", "loop.example/g01338/impl.errProof"], ifaces := true, plainKeys := false, apart := false, laid := [("loop.example/g01338/impl.errInvalid", laid_loop_example_g01338_impl_errInvalid), ("loop.example/g01338/impl.errRange", laid_loop_example_g01338_impl_errRange), ("loop.example/g01338/impl.errLimit", laid_loop_example_g01338_impl_errLimit), ("loop.example/g01338/impl.errState", laid_loop_example_g01338_impl_errState), ("loop.example/g01338/impl.errSyntax", laid_loop_example_g01338_impl_errSyntax), ("loop.example/g01338/impl.errNotFound", laid_loop_example_g01338_impl_errNotFound), ("loop.example/g01338/impl.errBudget", laid_loop_example_g01338_impl_errBudget), ("loop.example/g01338/impl.errProof", laid_loop_example_g01338_impl_errProof)] }
def FnExactFirstBareSaid : Prop := fnExactFirstBareRow.holds Tryd.pinned (OpenSpec.ofChange fnExactFirstBareSpec)

/-- ITS FALSE NEIGHBOUR: 'it returns false'. Refute it at one input. -/
def fnExactFirstBareWrong : ChangeSpec := { name := "fnExactFirstBare", vars := ["loop.example/g01338/impl.errInvalid", "loop.example/g01338/impl.errLimit", "loop.example/g01338/impl.errRange", "loop.example/g01338/impl.errState", "loop.example/g01338/impl.errSyntax", "loop.example/g01338/impl.errNotFound", "loop.example/g01338/impl.errBudget", "loop.example/g01338/impl.errProof"], fn := fun _ => fun
  | [d1, d2, d3, g1, g2, g3, g4, g5, g6, g7, g8] => { results := [.lit (.bool false)], args := [d1, d2, d3], vars := [g1, g2, g3, g4, g5, g6, g7, g8] }
  | _ => none }
def FnExactFirstBareWrongFalsely : Prop := fnExactFirstBareRow.holds Tryd.pinned (OpenSpec.ofChange fnExactFirstBareWrong)

/-- 'laws.FnExactHolesToMend': WHATEVER THE INPUT: true; the input reads as it did. -/
def fnExactHolesToMendSpec : ChangeSpec := { name := "fnExactHolesToMend", vars := ["loop.example/g01338/impl.errInvalid", "loop.example/g01338/impl.errLimit", "loop.example/g01338/impl.errRange", "loop.example/g01338/impl.errState", "loop.example/g01338/impl.errSyntax", "loop.example/g01338/impl.errNotFound", "loop.example/g01338/impl.errBudget", "loop.example/g01338/impl.errProof"], fn := fun _ => fun
  | [d1, d2, d3, d4, g1, g2, g3, g4, g5, g6, g7, g8] => { results := [.lit (.bool true)], args := [d1, d2, d3, d4], vars := [g1, g2, g3, g4, g5, g6, g7, g8] }
  | _ => none }
def fnExactHolesToMendRow : OpenClaim := { program := "ytniibbgcdaijfaadoor", sum := "a2c52b4a98a796b228c6407b3a157dfc58218346865557b4641802679423478d", func := "loop.example/g01338/laws.FnExactHolesToMend", spec := "fnExactHolesToMend", inPlace := ["internal/reflectlite.TypeOf"], unfollowed := true, recurses := true, named := ["loop.example/g01338/impl.errInvalid", "loop.example/g01338/impl.errLimit", "loop.example/g01338/impl.errRange", "loop.example/g01338/impl.errState", "loop.example/g01338/impl.errSyntax", "loop.example/g01338/impl.errNotFound", "loop.example/g01338/impl.errBudget", "loop.example/g01338/impl.errProof"], ifaces := true, plainKeys := false, apart := false, laid := [("loop.example/g01338/impl.errInvalid", laid_loop_example_g01338_impl_errInvalid), ("loop.example/g01338/impl.errRange", laid_loop_example_g01338_impl_errRange), ("loop.example/g01338/impl.errLimit", laid_loop_example_g01338_impl_errLimit), ("loop.example/g01338/impl.errState", laid_loop_example_g01338_impl_errState), ("loop.example/g01338/impl.errSyntax", laid_loop_example_g01338_impl_errSyntax), ("loop.example/g01338/impl.errNotFound", laid_loop_example_g01338_impl_errNotFound), ("loop.example/g01338/impl.errBudget", laid_loop_example_g01338_impl_errBudget), ("loop.example/g01338/impl.errProof", laid_loop_example_g01338_impl_errProof)] }
def FnExactHolesToMendSaid : Prop := fnExactHolesToMendRow.holds Tryd.pinned (OpenSpec.ofChange fnExactHolesToMendSpec)

/-- ITS FALSE NEIGHBOUR: 'it returns false'. Refute it at one input. -/
def fnExactHolesToMendWrong : ChangeSpec := { name := "fnExactHolesToMend", vars := ["loop.example/g01338/impl.errInvalid", "loop.example/g01338/impl.errLimit", "loop.example/g01338/impl.errRange", "loop.example/g01338/impl.errState", "loop.example/g01338/impl.errSyntax", "loop.example/g01338/impl.errNotFound", "loop.example/g01338/impl.errBudget", "loop.example/g01338/impl.errProof"], fn := fun _ => fun
  | [d1, d2, d3, d4, g1, g2, g3, g4, g5, g6, g7, g8] => { results := [.lit (.bool false)], args := [d1, d2, d3, d4], vars := [g1, g2, g3, g4, g5, g6, g7, g8] }
  | _ => none }
def FnExactHolesToMendWrongFalsely : Prop := fnExactHolesToMendRow.holds Tryd.pinned (OpenSpec.ofChange fnExactHolesToMendWrong)

/- THE SECOND FORM. 'bulk': how many values and letters a reading holds, each counted each time it is reached (what is shared counts as often as it is met; a slice's spare places count too). A statement '..UptoSaid' is the law's where the arguments, and the package variables that the reading takes, are together of bulk at most 1048576: NARROWER than '..Said'. Prove '..Said' where nothing that the law and all that it calls make is longer than what came in: it says more and counts as full. Else prove '..UptoSaid'. A law counts once. -/
mutual
def uptoBulk {H : Type} : DataW H → Nat
  | .lit (.string bytes) => bytes.length + 1
  | .lit _ => 1
  | .nil => 1
  | .ptr d => uptoBulk d + 1
  | .slice elems spare => uptoBulkAll elems + uptoBulkAll spare + 1
  | .agg parts => uptoBulkAll parts + 1
  | .iface _ d => uptoBulk d + 1
  | .map entries => uptoBulkEntries entries + 1
  | .held _ => 1
def uptoBulkAll {H : Type} : List (DataW H) → Nat
  | [] => 0
  | d :: r => uptoBulk d + uptoBulkAll r
def uptoBulkEntries {H : Type} : List (Lit × DataW H) → Nat
  | [] => 0
  | x :: r => uptoBulkEntry x + uptoBulkEntries r
def uptoBulkEntry {H : Type} : Lit × DataW H → Nat
  | (.string bytes, d) => bytes.length + uptoBulk d + 1
  | (_, d) => uptoBulk d + 1
 end
def uptoSmall : (H : Type) → List (DataW H) → Bool := fun _ ds => decide (uptoBulkAll ds ≤ 1048576)
def OpenSpec.upto (s : _root_.Go.ChangeSpec) : _root_.Go.OpenSpec := { _root_.Go.OpenSpec.ofChange s with cond := some uptoSmall }

/-- 'laws.FnExactCheckNets', WHERE WHAT IT READS IS OF BULK AT MOST 1048576: true; the input reads as it did. -/
def fnExactCheckNetsUptoRow : OpenClaim := { program := "ytniibbgcdaijfaadoor", sum := "a2c52b4a98a796b228c6407b3a157dfc58218346865557b4641802679423478d", func := "loop.example/g01338/laws.FnExactCheckNets", spec := "fnExactCheckNets", inPlace := ["internal/reflectlite.TypeOf"], unfollowed := true, recurses := true, named := ["loop.example/g01338/impl.errInvalid", "loop.example/g01338/impl.errLimit", "loop.example/g01338/impl.errRange", "loop.example/g01338/impl.errState", "loop.example/g01338/impl.errSyntax", "loop.example/g01338/impl.errNotFound", "loop.example/g01338/impl.errBudget", "loop.example/g01338/impl.errProof"], ifaces := true, plainKeys := false, apart := false, laid := [("loop.example/g01338/impl.errInvalid", laid_loop_example_g01338_impl_errInvalid), ("loop.example/g01338/impl.errRange", laid_loop_example_g01338_impl_errRange), ("loop.example/g01338/impl.errLimit", laid_loop_example_g01338_impl_errLimit), ("loop.example/g01338/impl.errState", laid_loop_example_g01338_impl_errState), ("loop.example/g01338/impl.errSyntax", laid_loop_example_g01338_impl_errSyntax), ("loop.example/g01338/impl.errNotFound", laid_loop_example_g01338_impl_errNotFound), ("loop.example/g01338/impl.errBudget", laid_loop_example_g01338_impl_errBudget), ("loop.example/g01338/impl.errProof", laid_loop_example_g01338_impl_errProof)], narrowed := true }
def FnExactCheckNetsUptoSaid : Prop := fnExactCheckNetsUptoRow.holds Tryd.pinned (OpenSpec.upto fnExactCheckNetsSpec)

/-- 'laws.FnExactFirstBare', WHERE WHAT IT READS IS OF BULK AT MOST 1048576: true; the input reads as it did. -/
def fnExactFirstBareUptoRow : OpenClaim := { program := "ytniibbgcdaijfaadoor", sum := "a2c52b4a98a796b228c6407b3a157dfc58218346865557b4641802679423478d", func := "loop.example/g01338/laws.FnExactFirstBare", spec := "fnExactFirstBare", inPlace := ["internal/reflectlite.TypeOf"], unfollowed := true, recurses := true, named := ["loop.example/g01338/impl.errInvalid", "loop.example/g01338/impl.errLimit", "loop.example/g01338/impl.errRange", "loop.example/g01338/impl.errState", "loop.example/g01338/impl.errSyntax", "loop.example/g01338/impl.errNotFound", "loop.example/g01338/impl.errBudget", "loop.example/g01338/impl.errProof"], ifaces := true, plainKeys := false, apart := false, laid := [("loop.example/g01338/impl.errInvalid", laid_loop_example_g01338_impl_errInvalid), ("loop.example/g01338/impl.errRange", laid_loop_example_g01338_impl_errRange), ("loop.example/g01338/impl.errLimit", laid_loop_example_g01338_impl_errLimit), ("loop.example/g01338/impl.errState", laid_loop_example_g01338_impl_errState), ("loop.example/g01338/impl.errSyntax", laid_loop_example_g01338_impl_errSyntax), ("loop.example/g01338/impl.errNotFound", laid_loop_example_g01338_impl_errNotFound), ("loop.example/g01338/impl.errBudget", laid_loop_example_g01338_impl_errBudget), ("loop.example/g01338/impl.errProof", laid_loop_example_g01338_impl_errProof)], narrowed := true }
def FnExactFirstBareUptoSaid : Prop := fnExactFirstBareUptoRow.holds Tryd.pinned (OpenSpec.upto fnExactFirstBareSpec)

/-- 'laws.FnExactHolesToMend', WHERE WHAT IT READS IS OF BULK AT MOST 1048576: true; the input reads as it did. -/
def fnExactHolesToMendUptoRow : OpenClaim := { program := "ytniibbgcdaijfaadoor", sum := "a2c52b4a98a796b228c6407b3a157dfc58218346865557b4641802679423478d", func := "loop.example/g01338/laws.FnExactHolesToMend", spec := "fnExactHolesToMend", inPlace := ["internal/reflectlite.TypeOf"], unfollowed := true, recurses := true, named := ["loop.example/g01338/impl.errInvalid", "loop.example/g01338/impl.errLimit", "loop.example/g01338/impl.errRange", "loop.example/g01338/impl.errState", "loop.example/g01338/impl.errSyntax", "loop.example/g01338/impl.errNotFound", "loop.example/g01338/impl.errBudget", "loop.example/g01338/impl.errProof"], ifaces := true, plainKeys := false, apart := false, laid := [("loop.example/g01338/impl.errInvalid", laid_loop_example_g01338_impl_errInvalid), ("loop.example/g01338/impl.errRange", laid_loop_example_g01338_impl_errRange), ("loop.example/g01338/impl.errLimit", laid_loop_example_g01338_impl_errLimit), ("loop.example/g01338/impl.errState", laid_loop_example_g01338_impl_errState), ("loop.example/g01338/impl.errSyntax", laid_loop_example_g01338_impl_errSyntax), ("loop.example/g01338/impl.errNotFound", laid_loop_example_g01338_impl_errNotFound), ("loop.example/g01338/impl.errBudget", laid_loop_example_g01338_impl_errBudget), ("loop.example/g01338/impl.errProof", laid_loop_example_g01338_impl_errProof)], narrowed := true }
def FnExactHolesToMendUptoSaid : Prop := fnExactHolesToMendUptoRow.holds Tryd.pinned (OpenSpec.upto fnExactHolesToMendSpec)

end Rows
end Go.Proofs.YtniibbgcdaijfaaDoor
