/-
  No cell of these rows narrows 'for every input' (looked for: loops, veiled, ifaces, maps, wideKeys, modest, calm, conditions, laid).
  DERIVED. THE GIVEN ROWS OF THIS SEAT. 5 by the template 'for every input the law returns true; each argument reads behind the call as it read before'; 0 by the template 'total and deterministic' (their statements: YtdeodfjkkdnfnaaTotals.lean).
  GIVEN WITH THE SEED: the statements are not yours to turn. If you find one false, say at which input.
  Laid BY PROGRAM, IN A SANDBOX (cutbox-rows.mjs): the forced cells as the released guide's own fill.sh prints them over the translation 82f80208b6d03e83… (all of the seat's roots in one cut). By AI agents, Wed Nov 11 2026. No macro, syntax, notation, axiom, sorry.
-/
import Derived.Test.YtdeodfjkkdnfnaaChecked
import GoSem.Claim
import GoSem.ClaimJoined
import GoSem.ClaimMapViews
import Derived.JoinedTies
import Derived.KernelRfl
namespace Go.Proofs.Ytdeodfjkkdnfnaa
/- THE CELL 'sum', in the pinned program and in every row, IS THE sha256 OF THE DUMP (.gsa) THAT YtdeodfjkkdnfnaaProg.lean LOADS. Nothing in Lean hashes anything: it is a label: what it is worth is what the hold of that sum in a sandbox is worth. -/
noncomputable def Try.pinned : Pinned := { name := "ytdeodfjkkdnfnaa", sum := "82f80208b6d03e83d63ccafd92630447bd615d8d2d87f050e65a0e8eea40a69e", checked := Try.checked }
namespace Rows
def none {H : Type} : Left H := { results := [], args := [] }

/-- 'laws.FnExactSpinOk': WHATEVER THE INPUT: true; the input reads as it did. -/
def fnExactSpinOkSpec : ChangeSpec := { name := "fnExactSpinOk", fn := fun _ => fun
  | [d] => { results := [.lit (.bool true)], args := [d] }
  | _ => none }
def fnExactSpinOkRow : OpenClaim := { program := "ytdeodfjkkdnfnaa", sum := "82f80208b6d03e83d63ccafd92630447bd615d8d2d87f050e65a0e8eea40a69e", func := "loop.example/g00481/laws.FnExactSpinOk", spec := "fnExactSpinOk", apart := false }
def FnExactSpinOkSaid : Prop := fnExactSpinOkRow.holds Try.pinned (OpenSpec.ofChange fnExactSpinOkSpec)

/-- ITS FALSE NEIGHBOUR: 'it returns false'. Refute it at one input. -/
def fnExactSpinOkWrong : ChangeSpec := { name := "fnExactSpinOk", fn := fun _ => fun
  | [d] => { results := [.lit (.bool false)], args := [d] }
  | _ => none }
def FnExactSpinOkWrongFalsely : Prop := fnExactSpinOkRow.holds Try.pinned (OpenSpec.ofChange fnExactSpinOkWrong)

/-- 'laws.FnExactNormSquare': WHATEVER THE INPUT: true; the input reads as it did. -/
def fnExactNormSquareSpec : ChangeSpec := { name := "fnExactNormSquare", fn := fun _ => fun
  | [d] => { results := [.lit (.bool true)], args := [d] }
  | _ => none }
def fnExactNormSquareRow : OpenClaim := { program := "ytdeodfjkkdnfnaa", sum := "82f80208b6d03e83d63ccafd92630447bd615d8d2d87f050e65a0e8eea40a69e", func := "loop.example/g00481/laws.FnExactNormSquare", spec := "fnExactNormSquare", apart := false }
def FnExactNormSquareSaid : Prop := fnExactNormSquareRow.holds Try.pinned (OpenSpec.ofChange fnExactNormSquareSpec)

/-- ITS FALSE NEIGHBOUR: 'it returns false'. Refute it at one input. -/
def fnExactNormSquareWrong : ChangeSpec := { name := "fnExactNormSquare", fn := fun _ => fun
  | [d] => { results := [.lit (.bool false)], args := [d] }
  | _ => none }
def FnExactNormSquareWrongFalsely : Prop := fnExactNormSquareRow.holds Try.pinned (OpenSpec.ofChange fnExactNormSquareWrong)

/-- 'laws.FnExactCross': WHATEVER THE INPUT: true; the input reads as it did. -/
def fnExactCrossSpec : ChangeSpec := { name := "fnExactCross", fn := fun _ => fun
  | [d1, d2] => { results := [.lit (.bool true)], args := [d1, d2] }
  | _ => none }
def fnExactCrossRow : OpenClaim := { program := "ytdeodfjkkdnfnaa", sum := "82f80208b6d03e83d63ccafd92630447bd615d8d2d87f050e65a0e8eea40a69e", func := "loop.example/g00481/laws.FnExactCross", spec := "fnExactCross", apart := false }
def FnExactCrossSaid : Prop := fnExactCrossRow.holds Try.pinned (OpenSpec.ofChange fnExactCrossSpec)

/-- ITS FALSE NEIGHBOUR: 'it returns false'. Refute it at one input. -/
def fnExactCrossWrong : ChangeSpec := { name := "fnExactCross", fn := fun _ => fun
  | [d1, d2] => { results := [.lit (.bool false)], args := [d1, d2] }
  | _ => none }
def FnExactCrossWrongFalsely : Prop := fnExactCrossRow.holds Try.pinned (OpenSpec.ofChange fnExactCrossWrong)

/-- 'laws.FnExactSpinStep': WHATEVER THE INPUT: true; the input reads as it did. -/
def fnExactSpinStepSpec : ChangeSpec := { name := "fnExactSpinStep", fn := fun _ => fun
  | [d1, d2, d3] => { results := [.lit (.bool true)], args := [d1, d2, d3] }
  | _ => none }
def fnExactSpinStepRow : OpenClaim := { program := "ytdeodfjkkdnfnaa", sum := "82f80208b6d03e83d63ccafd92630447bd615d8d2d87f050e65a0e8eea40a69e", func := "loop.example/g00481/laws.FnExactSpinStep", spec := "fnExactSpinStep", apart := false }
def FnExactSpinStepSaid : Prop := fnExactSpinStepRow.holds Try.pinned (OpenSpec.ofChange fnExactSpinStepSpec)

/-- ITS FALSE NEIGHBOUR: 'it returns false'. Refute it at one input. -/
def fnExactSpinStepWrong : ChangeSpec := { name := "fnExactSpinStep", fn := fun _ => fun
  | [d1, d2, d3] => { results := [.lit (.bool false)], args := [d1, d2, d3] }
  | _ => none }
def FnExactSpinStepWrongFalsely : Prop := fnExactSpinStepRow.holds Try.pinned (OpenSpec.ofChange fnExactSpinStepWrong)

/-- 'laws.FnExactKernOk': WHATEVER THE INPUT: true; the input reads as it did. -/
def fnExactKernOkSpec : ChangeSpec := { name := "fnExactKernOk", fn := fun _ => fun
  | [d] => { results := [.lit (.bool true)], args := [d] }
  | _ => none }
def fnExactKernOkRow : OpenClaim := { program := "ytdeodfjkkdnfnaa", sum := "82f80208b6d03e83d63ccafd92630447bd615d8d2d87f050e65a0e8eea40a69e", func := "loop.example/g00481/laws.FnExactKernOk", spec := "fnExactKernOk", apart := false }
def FnExactKernOkSaid : Prop := fnExactKernOkRow.holds Try.pinned (OpenSpec.ofChange fnExactKernOkSpec)

/-- ITS FALSE NEIGHBOUR: 'it returns false'. Refute it at one input. -/
def fnExactKernOkWrong : ChangeSpec := { name := "fnExactKernOk", fn := fun _ => fun
  | [d] => { results := [.lit (.bool false)], args := [d] }
  | _ => none }
def FnExactKernOkWrongFalsely : Prop := fnExactKernOkRow.holds Try.pinned (OpenSpec.ofChange fnExactKernOkWrong)

/- THE SECOND FORM. 'bulk': how many values and letters a reading holds, each counted each time it is reached (what is shared counts as often as it is met; a slice's spare places count too). A statement '..UptoSaid' is the law's where the arguments, and the package variables that the reading takes, are together of bulk at most 1048576: NARROWER than '..Said'. Prove '..Said' where nothing that the law and all that it calls make is longer than what came in: it says more and counts as full. Else prove '..UptoSaid'. A law counts once. -/
mutual
def uptoBulk {H : Type} : DataW H → Nat
  | .lit (.string bytes) => bytes.length + 1
  | .lit _ => 1
  | .nil => 1
  | .ptr d => uptoBulk d + 1
  | .slice elems spare => uptoBulkAll elems + uptoBulkAll spare + 1
  | .agg parts => uptoBulkAll parts + 1
  | .iface _ d => uptoBulk d + 1
  | .map entries => uptoBulkEntries entries + 1
  | .held _ => 1
def uptoBulkAll {H : Type} : List (DataW H) → Nat
  | [] => 0
  | d :: r => uptoBulk d + uptoBulkAll r
def uptoBulkEntries {H : Type} : List (Lit × DataW H) → Nat
  | [] => 0
  | x :: r => uptoBulkEntry x + uptoBulkEntries r
def uptoBulkEntry {H : Type} : Lit × DataW H → Nat
  | (.string bytes, d) => bytes.length + uptoBulk d + 1
  | (_, d) => uptoBulk d + 1
 end
def uptoSmall : (H : Type) → List (DataW H) → Bool := fun _ ds => decide (uptoBulkAll ds ≤ 1048576)
def OpenSpec.upto (s : _root_.Go.ChangeSpec) : _root_.Go.OpenSpec := { _root_.Go.OpenSpec.ofChange s with cond := some uptoSmall }

/-- 'laws.FnExactSpinOk', WHERE WHAT IT READS IS OF BULK AT MOST 1048576: true; the input reads as it did. -/
def fnExactSpinOkUptoRow : OpenClaim := { program := "ytdeodfjkkdnfnaa", sum := "82f80208b6d03e83d63ccafd92630447bd615d8d2d87f050e65a0e8eea40a69e", func := "loop.example/g00481/laws.FnExactSpinOk", spec := "fnExactSpinOk", apart := false, narrowed := true }
def FnExactSpinOkUptoSaid : Prop := fnExactSpinOkUptoRow.holds Try.pinned (OpenSpec.upto fnExactSpinOkSpec)

/-- 'laws.FnExactNormSquare', WHERE WHAT IT READS IS OF BULK AT MOST 1048576: true; the input reads as it did. -/
def fnExactNormSquareUptoRow : OpenClaim := { program := "ytdeodfjkkdnfnaa", sum := "82f80208b6d03e83d63ccafd92630447bd615d8d2d87f050e65a0e8eea40a69e", func := "loop.example/g00481/laws.FnExactNormSquare", spec := "fnExactNormSquare", apart := false, narrowed := true }
def FnExactNormSquareUptoSaid : Prop := fnExactNormSquareUptoRow.holds Try.pinned (OpenSpec.upto fnExactNormSquareSpec)

/-- 'laws.FnExactCross', WHERE WHAT IT READS IS OF BULK AT MOST 1048576: true; the input reads as it did. -/
def fnExactCrossUptoRow : OpenClaim := { program := "ytdeodfjkkdnfnaa", sum := "82f80208b6d03e83d63ccafd92630447bd615d8d2d87f050e65a0e8eea40a69e", func := "loop.example/g00481/laws.FnExactCross", spec := "fnExactCross", apart := false, narrowed := true }
def FnExactCrossUptoSaid : Prop := fnExactCrossUptoRow.holds Try.pinned (OpenSpec.upto fnExactCrossSpec)

/-- 'laws.FnExactSpinStep', WHERE WHAT IT READS IS OF BULK AT MOST 1048576: true; the input reads as it did. -/
def fnExactSpinStepUptoRow : OpenClaim := { program := "ytdeodfjkkdnfnaa", sum := "82f80208b6d03e83d63ccafd92630447bd615d8d2d87f050e65a0e8eea40a69e", func := "loop.example/g00481/laws.FnExactSpinStep", spec := "fnExactSpinStep", apart := false, narrowed := true }
def FnExactSpinStepUptoSaid : Prop := fnExactSpinStepUptoRow.holds Try.pinned (OpenSpec.upto fnExactSpinStepSpec)

/-- 'laws.FnExactKernOk', WHERE WHAT IT READS IS OF BULK AT MOST 1048576: true; the input reads as it did. -/
def fnExactKernOkUptoRow : OpenClaim := { program := "ytdeodfjkkdnfnaa", sum := "82f80208b6d03e83d63ccafd92630447bd615d8d2d87f050e65a0e8eea40a69e", func := "loop.example/g00481/laws.FnExactKernOk", spec := "fnExactKernOk", apart := false, narrowed := true }
def FnExactKernOkUptoSaid : Prop := fnExactKernOkUptoRow.holds Try.pinned (OpenSpec.upto fnExactKernOkSpec)

end Rows
end Go.Proofs.Ytdeodfjkkdnfnaa
