/-
  No cell of these rows narrows 'for every input' (looked for: loops, veiled, ifaces, maps, wideKeys, modest, calm, conditions, laid).
  DERIVED. THE GIVEN ROWS OF THIS SEAT. 4 by the template 'for every input the law returns true; each argument reads behind the call as it read before'; 0 by the template 'total and deterministic' (their statements: YtkbnfillbdjboaaTotals.lean).
  GIVEN WITH THE SEED: the statements are not yours to turn. If you find one false, say at which input.
  Laid BY PROGRAM, IN A SANDBOX (cutbox-rows.mjs): the forced cells as the released guide's own fill.sh prints them over the translation b7a924e236e4396a… (all of the seat's roots in one cut). By AI agents, Wed Nov 11 2026. No macro, syntax, notation, axiom, sorry.
-/
import Derived.Test.YtkbnfillbdjboaaChecked
import GoSem.Claim
import GoSem.ClaimJoined
import GoSem.ClaimMapViews
import Derived.JoinedTies
import Derived.KernelRfl
namespace Go.Proofs.Ytkbnfillbdjboaa
/- THE CELL 'sum', in the pinned program and in every row, IS THE sha256 OF THE DUMP (.gsa) THAT YtkbnfillbdjboaaProg.lean LOADS. Nothing in Lean hashes anything: it is a label: what it is worth is what the hold of that sum in a sandbox is worth. -/
noncomputable def Try.pinned : Pinned := { name := "ytkbnfillbdjboaa", sum := "b7a924e236e4396a7a92f61694ea8d5acb61d9fc40c8d310d2fabc8508cafc3b", checked := Try.checked }
namespace Rows
def none {H : Type} : Left H := { results := [], args := [] }

/-- 'laws.FnExactSpinStep': WHATEVER THE INPUT: true; the input reads as it did. -/
def fnExactSpinStepSpec : ChangeSpec := { name := "fnExactSpinStep", fn := fun _ => fun
  | [d1, d2, d3] => { results := [.lit (.bool true)], args := [d1, d2, d3] }
  | _ => none }
def fnExactSpinStepRow : OpenClaim := { program := "ytkbnfillbdjboaa", sum := "b7a924e236e4396a7a92f61694ea8d5acb61d9fc40c8d310d2fabc8508cafc3b", func := "loop.example/g00481/laws.FnExactSpinStep", spec := "fnExactSpinStep", apart := false }
def FnExactSpinStepSaid : Prop := fnExactSpinStepRow.holds Try.pinned (OpenSpec.ofChange fnExactSpinStepSpec)

/-- ITS FALSE NEIGHBOUR: 'it returns false'. Refute it at one input. -/
def fnExactSpinStepWrong : ChangeSpec := { name := "fnExactSpinStep", fn := fun _ => fun
  | [d1, d2, d3] => { results := [.lit (.bool false)], args := [d1, d2, d3] }
  | _ => none }
def FnExactSpinStepWrongFalsely : Prop := fnExactSpinStepRow.holds Try.pinned (OpenSpec.ofChange fnExactSpinStepWrong)

/-- 'laws.FnExactSpinRun': WHATEVER THE INPUT: true; the input reads as it did. -/
def fnExactSpinRunSpec : ChangeSpec := { name := "fnExactSpinRun", fn := fun _ => fun
  | [d1, d2] => { results := [.lit (.bool true)], args := [d1, d2] }
  | _ => none }
def fnExactSpinRunRow : OpenClaim := { program := "ytkbnfillbdjboaa", sum := "b7a924e236e4396a7a92f61694ea8d5acb61d9fc40c8d310d2fabc8508cafc3b", func := "loop.example/g00481/laws.FnExactSpinRun", spec := "fnExactSpinRun", apart := false }
def FnExactSpinRunSaid : Prop := fnExactSpinRunRow.holds Try.pinned (OpenSpec.ofChange fnExactSpinRunSpec)

/-- ITS FALSE NEIGHBOUR: 'it returns false'. Refute it at one input. -/
def fnExactSpinRunWrong : ChangeSpec := { name := "fnExactSpinRun", fn := fun _ => fun
  | [d1, d2] => { results := [.lit (.bool false)], args := [d1, d2] }
  | _ => none }
def FnExactSpinRunWrongFalsely : Prop := fnExactSpinRunRow.holds Try.pinned (OpenSpec.ofChange fnExactSpinRunWrong)

/-- 'laws.FnExactKernOk': WHATEVER THE INPUT: true; the input reads as it did. -/
def fnExactKernOkSpec : ChangeSpec := { name := "fnExactKernOk", fn := fun _ => fun
  | [d] => { results := [.lit (.bool true)], args := [d] }
  | _ => none }
def fnExactKernOkRow : OpenClaim := { program := "ytkbnfillbdjboaa", sum := "b7a924e236e4396a7a92f61694ea8d5acb61d9fc40c8d310d2fabc8508cafc3b", func := "loop.example/g00481/laws.FnExactKernOk", spec := "fnExactKernOk", apart := false }
def FnExactKernOkSaid : Prop := fnExactKernOkRow.holds Try.pinned (OpenSpec.ofChange fnExactKernOkSpec)

/-- ITS FALSE NEIGHBOUR: 'it returns false'. Refute it at one input. -/
def fnExactKernOkWrong : ChangeSpec := { name := "fnExactKernOk", fn := fun _ => fun
  | [d] => { results := [.lit (.bool false)], args := [d] }
  | _ => none }
def FnExactKernOkWrongFalsely : Prop := fnExactKernOkRow.holds Try.pinned (OpenSpec.ofChange fnExactKernOkWrong)

/-- 'laws.FnExactRomOk': WHATEVER THE INPUT: true; the input reads as it did. -/
def fnExactRomOkSpec : ChangeSpec := { name := "fnExactRomOk", fn := fun _ => fun
  | [d] => { results := [.lit (.bool true)], args := [d] }
  | _ => none }
def fnExactRomOkRow : OpenClaim := { program := "ytkbnfillbdjboaa", sum := "b7a924e236e4396a7a92f61694ea8d5acb61d9fc40c8d310d2fabc8508cafc3b", func := "loop.example/g00481/laws.FnExactRomOk", spec := "fnExactRomOk", apart := false }
def FnExactRomOkSaid : Prop := fnExactRomOkRow.holds Try.pinned (OpenSpec.ofChange fnExactRomOkSpec)

/-- ITS FALSE NEIGHBOUR: 'it returns false'. Refute it at one input. -/
def fnExactRomOkWrong : ChangeSpec := { name := "fnExactRomOk", fn := fun _ => fun
  | [d] => { results := [.lit (.bool false)], args := [d] }
  | _ => none }
def FnExactRomOkWrongFalsely : Prop := fnExactRomOkRow.holds Try.pinned (OpenSpec.ofChange fnExactRomOkWrong)

/- THE SECOND FORM. 'bulk': how many values and letters a reading holds, each counted each time it is reached (what is shared counts as often as it is met; a slice's spare places count too). A statement '..UptoSaid' is the law's where the arguments, and the package variables that the reading takes, are together of bulk at most 1048576: NARROWER than '..Said'. Prove '..Said' where nothing that the law and all that it calls make is longer than what came in: it says more and counts as full. Else prove '..UptoSaid'. A law counts once. -/
mutual
def uptoBulk {H : Type} : DataW H → Nat
  | .lit (.string bytes) => bytes.length + 1
  | .lit _ => 1
  | .nil => 1
  | .ptr d => uptoBulk d + 1
  | .slice elems spare => uptoBulkAll elems + uptoBulkAll spare + 1
  | .agg parts => uptoBulkAll parts + 1
  | .iface _ d => uptoBulk d + 1
  | .map entries => uptoBulkEntries entries + 1
  | .held _ => 1
def uptoBulkAll {H : Type} : List (DataW H) → Nat
  | [] => 0
  | d :: r => uptoBulk d + uptoBulkAll r
def uptoBulkEntries {H : Type} : List (Lit × DataW H) → Nat
  | [] => 0
  | x :: r => uptoBulkEntry x + uptoBulkEntries r
def uptoBulkEntry {H : Type} : Lit × DataW H → Nat
  | (.string bytes, d) => bytes.length + uptoBulk d + 1
  | (_, d) => uptoBulk d + 1
 end
def uptoSmall : (H : Type) → List (DataW H) → Bool := fun _ ds => decide (uptoBulkAll ds ≤ 1048576)
def OpenSpec.upto (s : _root_.Go.ChangeSpec) : _root_.Go.OpenSpec := { _root_.Go.OpenSpec.ofChange s with cond := some uptoSmall }

/-- 'laws.FnExactSpinStep', WHERE WHAT IT READS IS OF BULK AT MOST 1048576: true; the input reads as it did. -/
def fnExactSpinStepUptoRow : OpenClaim := { program := "ytkbnfillbdjboaa", sum := "b7a924e236e4396a7a92f61694ea8d5acb61d9fc40c8d310d2fabc8508cafc3b", func := "loop.example/g00481/laws.FnExactSpinStep", spec := "fnExactSpinStep", apart := false, narrowed := true }
def FnExactSpinStepUptoSaid : Prop := fnExactSpinStepUptoRow.holds Try.pinned (OpenSpec.upto fnExactSpinStepSpec)

/-- 'laws.FnExactSpinRun', WHERE WHAT IT READS IS OF BULK AT MOST 1048576: true; the input reads as it did. -/
def fnExactSpinRunUptoRow : OpenClaim := { program := "ytkbnfillbdjboaa", sum := "b7a924e236e4396a7a92f61694ea8d5acb61d9fc40c8d310d2fabc8508cafc3b", func := "loop.example/g00481/laws.FnExactSpinRun", spec := "fnExactSpinRun", apart := false, narrowed := true }
def FnExactSpinRunUptoSaid : Prop := fnExactSpinRunUptoRow.holds Try.pinned (OpenSpec.upto fnExactSpinRunSpec)

/-- 'laws.FnExactKernOk', WHERE WHAT IT READS IS OF BULK AT MOST 1048576: true; the input reads as it did. -/
def fnExactKernOkUptoRow : OpenClaim := { program := "ytkbnfillbdjboaa", sum := "b7a924e236e4396a7a92f61694ea8d5acb61d9fc40c8d310d2fabc8508cafc3b", func := "loop.example/g00481/laws.FnExactKernOk", spec := "fnExactKernOk", apart := false, narrowed := true }
def FnExactKernOkUptoSaid : Prop := fnExactKernOkUptoRow.holds Try.pinned (OpenSpec.upto fnExactKernOkSpec)

/-- 'laws.FnExactRomOk', WHERE WHAT IT READS IS OF BULK AT MOST 1048576: true; the input reads as it did. -/
def fnExactRomOkUptoRow : OpenClaim := { program := "ytkbnfillbdjboaa", sum := "b7a924e236e4396a7a92f61694ea8d5acb61d9fc40c8d310d2fabc8508cafc3b", func := "loop.example/g00481/laws.FnExactRomOk", spec := "fnExactRomOk", apart := false, narrowed := true }
def FnExactRomOkUptoSaid : Prop := fnExactRomOkUptoRow.holds Try.pinned (OpenSpec.upto fnExactRomOkSpec)

end Rows
end Go.Proofs.Ytkbnfillbdjboaa
