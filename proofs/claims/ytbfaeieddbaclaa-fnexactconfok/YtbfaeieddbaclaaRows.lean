/-
  No cell of these rows narrows 'for every input' (looked for: loops, veiled, ifaces, maps, wideKeys, modest, calm, conditions, laid).
  DERIVED. THE GIVEN ROWS OF THIS SEAT. 8 by the template 'for every input the law returns true; each argument reads behind the call as it read before'; 0 by the template 'total and deterministic' (their statements: YtbfaeieddbaclaaTotals.lean).
  GIVEN WITH THE SEED: the statements are not yours to turn. If you find one false, say at which input.
  Laid BY PROGRAM, IN A SANDBOX (cutbox-rows.mjs): the forced cells as the released guide's own fill.sh prints them over the translation 3077044d83e20b5e… (all of the seat's roots in one cut). By AI agents, Wed Nov 11 2026. No macro, syntax, notation, axiom, sorry.
-/
import Derived.Test.YtbfaeieddbaclaaChecked
import GoSem.Claim
import GoSem.ClaimJoined
import GoSem.ClaimMapViews
import Derived.JoinedTies
import Derived.KernelRfl
namespace Go.Proofs.Ytbfaeieddbaclaa
/- THE CELL 'sum', in the pinned program and in every row, IS THE sha256 OF THE DUMP (.gsa) THAT YtbfaeieddbaclaaProg.lean LOADS. Nothing in Lean hashes anything: it is a label: what it is worth is what the hold of that sum in a sandbox is worth. -/
noncomputable def Try.pinned : Pinned := { name := "ytbfaeieddbaclaa", sum := "3077044d83e20b5e61af95b824d7c7f1053d5db52ef4f515b154165920205ed4", checked := Try.checked }
namespace Rows
def none {H : Type} : Left H := { results := [], args := [] }

/-- 'laws.FnExactStepsFor': WHATEVER THE INPUT: true; the input reads as it did. -/
def fnExactStepsForSpec : ChangeSpec := { name := "fnExactStepsFor", fn := fun _ => fun
  | [d] => { results := [.lit (.bool true)], args := [d] }
  | _ => none }
def fnExactStepsForRow : OpenClaim := { program := "ytbfaeieddbaclaa", sum := "3077044d83e20b5e61af95b824d7c7f1053d5db52ef4f515b154165920205ed4", func := "loop.example/g00481/laws.FnExactStepsFor", spec := "fnExactStepsFor", apart := false }
def FnExactStepsForSaid : Prop := fnExactStepsForRow.holds Try.pinned (OpenSpec.ofChange fnExactStepsForSpec)

/-- ITS FALSE NEIGHBOUR: 'it returns false'. Refute it at one input. -/
def fnExactStepsForWrong : ChangeSpec := { name := "fnExactStepsFor", fn := fun _ => fun
  | [d] => { results := [.lit (.bool false)], args := [d] }
  | _ => none }
def FnExactStepsForWrongFalsely : Prop := fnExactStepsForRow.holds Try.pinned (OpenSpec.ofChange fnExactStepsForWrong)

/-- 'laws.FnExactInDomain': WHATEVER THE INPUT: true; the input reads as it did. -/
def fnExactInDomainSpec : ChangeSpec := { name := "fnExactInDomain", fn := fun _ => fun
  | [d1, d2, d3, d4, d5] => { results := [.lit (.bool true)], args := [d1, d2, d3, d4, d5] }
  | _ => none }
def fnExactInDomainRow : OpenClaim := { program := "ytbfaeieddbaclaa", sum := "3077044d83e20b5e61af95b824d7c7f1053d5db52ef4f515b154165920205ed4", func := "loop.example/g00481/laws.FnExactInDomain", spec := "fnExactInDomain", apart := false }
def FnExactInDomainSaid : Prop := fnExactInDomainRow.holds Try.pinned (OpenSpec.ofChange fnExactInDomainSpec)

/-- ITS FALSE NEIGHBOUR: 'it returns false'. Refute it at one input. -/
def fnExactInDomainWrong : ChangeSpec := { name := "fnExactInDomain", fn := fun _ => fun
  | [d1, d2, d3, d4, d5] => { results := [.lit (.bool false)], args := [d1, d2, d3, d4, d5] }
  | _ => none }
def FnExactInDomainWrongFalsely : Prop := fnExactInDomainRow.holds Try.pinned (OpenSpec.ofChange fnExactInDomainWrong)

/-- 'laws.FnExactExact': WHATEVER THE INPUT: true; the input reads as it did. -/
def fnExactExactSpec : ChangeSpec := { name := "fnExactExact", fn := fun _ => fun
  | [d1, d2, d3, d4, d5] => { results := [.lit (.bool true)], args := [d1, d2, d3, d4, d5] }
  | _ => none }
def fnExactExactRow : OpenClaim := { program := "ytbfaeieddbaclaa", sum := "3077044d83e20b5e61af95b824d7c7f1053d5db52ef4f515b154165920205ed4", func := "loop.example/g00481/laws.FnExactExact", spec := "fnExactExact", apart := false }
def FnExactExactSaid : Prop := fnExactExactRow.holds Try.pinned (OpenSpec.ofChange fnExactExactSpec)

/-- ITS FALSE NEIGHBOUR: 'it returns false'. Refute it at one input. -/
def fnExactExactWrong : ChangeSpec := { name := "fnExactExact", fn := fun _ => fun
  | [d1, d2, d3, d4, d5] => { results := [.lit (.bool false)], args := [d1, d2, d3, d4, d5] }
  | _ => none }
def FnExactExactWrongFalsely : Prop := fnExactExactRow.holds Try.pinned (OpenSpec.ofChange fnExactExactWrong)

/-- 'laws.FnExactRungs': WHATEVER THE INPUT: true; the input reads as it did. -/
def fnExactRungsSpec : ChangeSpec := { name := "fnExactRungs", fn := fun _ => fun
  | [d] => { results := [.lit (.bool true)], args := [d] }
  | _ => none }
def fnExactRungsRow : OpenClaim := { program := "ytbfaeieddbaclaa", sum := "3077044d83e20b5e61af95b824d7c7f1053d5db52ef4f515b154165920205ed4", func := "loop.example/g00481/laws.FnExactRungs", spec := "fnExactRungs", apart := false }
def FnExactRungsSaid : Prop := fnExactRungsRow.holds Try.pinned (OpenSpec.ofChange fnExactRungsSpec)

/-- ITS FALSE NEIGHBOUR: 'it returns false'. Refute it at one input. -/
def fnExactRungsWrong : ChangeSpec := { name := "fnExactRungs", fn := fun _ => fun
  | [d] => { results := [.lit (.bool false)], args := [d] }
  | _ => none }
def FnExactRungsWrongFalsely : Prop := fnExactRungsRow.holds Try.pinned (OpenSpec.ofChange fnExactRungsWrong)

/-- 'laws.FnExactTakes': WHATEVER THE INPUT: true; the input reads as it did. -/
def fnExactTakesSpec : ChangeSpec := { name := "fnExactTakes", fn := fun _ => fun
  | [d] => { results := [.lit (.bool true)], args := [d] }
  | _ => none }
def fnExactTakesRow : OpenClaim := { program := "ytbfaeieddbaclaa", sum := "3077044d83e20b5e61af95b824d7c7f1053d5db52ef4f515b154165920205ed4", func := "loop.example/g00481/laws.FnExactTakes", spec := "fnExactTakes", apart := false }
def FnExactTakesSaid : Prop := fnExactTakesRow.holds Try.pinned (OpenSpec.ofChange fnExactTakesSpec)

/-- ITS FALSE NEIGHBOUR: 'it returns false'. Refute it at one input. -/
def fnExactTakesWrong : ChangeSpec := { name := "fnExactTakes", fn := fun _ => fun
  | [d] => { results := [.lit (.bool false)], args := [d] }
  | _ => none }
def FnExactTakesWrongFalsely : Prop := fnExactTakesRow.holds Try.pinned (OpenSpec.ofChange fnExactTakesWrong)

/-- 'laws.FnExactFunText': WHATEVER THE INPUT: true; the input reads as it did. -/
def fnExactFunTextSpec : ChangeSpec := { name := "fnExactFunText", fn := fun _ => fun
  | [d] => { results := [.lit (.bool true)], args := [d] }
  | _ => none }
def fnExactFunTextRow : OpenClaim := { program := "ytbfaeieddbaclaa", sum := "3077044d83e20b5e61af95b824d7c7f1053d5db52ef4f515b154165920205ed4", func := "loop.example/g00481/laws.FnExactFunText", spec := "fnExactFunText", apart := false }
def FnExactFunTextSaid : Prop := fnExactFunTextRow.holds Try.pinned (OpenSpec.ofChange fnExactFunTextSpec)

/-- ITS FALSE NEIGHBOUR: 'it returns false'. Refute it at one input. -/
def fnExactFunTextWrong : ChangeSpec := { name := "fnExactFunText", fn := fun _ => fun
  | [d] => { results := [.lit (.bool false)], args := [d] }
  | _ => none }
def FnExactFunTextWrongFalsely : Prop := fnExactFunTextRow.holds Try.pinned (OpenSpec.ofChange fnExactFunTextWrong)

/-- 'laws.FnExactFunOf': WHATEVER THE INPUT: true; the input reads as it did. -/
def fnExactFunOfSpec : ChangeSpec := { name := "fnExactFunOf", fn := fun _ => fun
  | [d] => { results := [.lit (.bool true)], args := [d] }
  | _ => none }
def fnExactFunOfRow : OpenClaim := { program := "ytbfaeieddbaclaa", sum := "3077044d83e20b5e61af95b824d7c7f1053d5db52ef4f515b154165920205ed4", func := "loop.example/g00481/laws.FnExactFunOf", spec := "fnExactFunOf", apart := false }
def FnExactFunOfSaid : Prop := fnExactFunOfRow.holds Try.pinned (OpenSpec.ofChange fnExactFunOfSpec)

/-- ITS FALSE NEIGHBOUR: 'it returns false'. Refute it at one input. -/
def fnExactFunOfWrong : ChangeSpec := { name := "fnExactFunOf", fn := fun _ => fun
  | [d] => { results := [.lit (.bool false)], args := [d] }
  | _ => none }
def FnExactFunOfWrongFalsely : Prop := fnExactFunOfRow.holds Try.pinned (OpenSpec.ofChange fnExactFunOfWrong)

/-- 'laws.FnExactConfOk': WHATEVER THE INPUT: true; the input reads as it did. -/
def fnExactConfOkSpec : ChangeSpec := { name := "fnExactConfOk", fn := fun _ => fun
  | [d] => { results := [.lit (.bool true)], args := [d] }
  | _ => none }
def fnExactConfOkRow : OpenClaim := { program := "ytbfaeieddbaclaa", sum := "3077044d83e20b5e61af95b824d7c7f1053d5db52ef4f515b154165920205ed4", func := "loop.example/g00481/laws.FnExactConfOk", spec := "fnExactConfOk", apart := false }
def FnExactConfOkSaid : Prop := fnExactConfOkRow.holds Try.pinned (OpenSpec.ofChange fnExactConfOkSpec)

/-- ITS FALSE NEIGHBOUR: 'it returns false'. Refute it at one input. -/
def fnExactConfOkWrong : ChangeSpec := { name := "fnExactConfOk", fn := fun _ => fun
  | [d] => { results := [.lit (.bool false)], args := [d] }
  | _ => none }
def FnExactConfOkWrongFalsely : Prop := fnExactConfOkRow.holds Try.pinned (OpenSpec.ofChange fnExactConfOkWrong)

/- THE SECOND FORM. 'bulk': how many values and letters a reading holds, each counted each time it is reached (what is shared counts as often as it is met; a slice's spare places count too). A statement '..UptoSaid' is the law's where the arguments, and the package variables that the reading takes, are together of bulk at most 1048576: NARROWER than '..Said'. Prove '..Said' where nothing that the law and all that it calls make is longer than what came in: it says more and counts as full. Else prove '..UptoSaid'. A law counts once. -/
mutual
def uptoBulk {H : Type} : DataW H → Nat
  | .lit (.string bytes) => bytes.length + 1
  | .lit _ => 1
  | .nil => 1
  | .ptr d => uptoBulk d + 1
  | .slice elems spare => uptoBulkAll elems + uptoBulkAll spare + 1
  | .agg parts => uptoBulkAll parts + 1
  | .iface _ d => uptoBulk d + 1
  | .map entries => uptoBulkEntries entries + 1
  | .held _ => 1
def uptoBulkAll {H : Type} : List (DataW H) → Nat
  | [] => 0
  | d :: r => uptoBulk d + uptoBulkAll r
def uptoBulkEntries {H : Type} : List (Lit × DataW H) → Nat
  | [] => 0
  | x :: r => uptoBulkEntry x + uptoBulkEntries r
def uptoBulkEntry {H : Type} : Lit × DataW H → Nat
  | (.string bytes, d) => bytes.length + uptoBulk d + 1
  | (_, d) => uptoBulk d + 1
 end
def uptoSmall : (H : Type) → List (DataW H) → Bool := fun _ ds => decide (uptoBulkAll ds ≤ 1048576)
def OpenSpec.upto (s : _root_.Go.ChangeSpec) : _root_.Go.OpenSpec := { _root_.Go.OpenSpec.ofChange s with cond := some uptoSmall }

/-- 'laws.FnExactStepsFor', WHERE WHAT IT READS IS OF BULK AT MOST 1048576: true; the input reads as it did. -/
def fnExactStepsForUptoRow : OpenClaim := { program := "ytbfaeieddbaclaa", sum := "3077044d83e20b5e61af95b824d7c7f1053d5db52ef4f515b154165920205ed4", func := "loop.example/g00481/laws.FnExactStepsFor", spec := "fnExactStepsFor", apart := false, narrowed := true }
def FnExactStepsForUptoSaid : Prop := fnExactStepsForUptoRow.holds Try.pinned (OpenSpec.upto fnExactStepsForSpec)

/-- 'laws.FnExactInDomain', WHERE WHAT IT READS IS OF BULK AT MOST 1048576: true; the input reads as it did. -/
def fnExactInDomainUptoRow : OpenClaim := { program := "ytbfaeieddbaclaa", sum := "3077044d83e20b5e61af95b824d7c7f1053d5db52ef4f515b154165920205ed4", func := "loop.example/g00481/laws.FnExactInDomain", spec := "fnExactInDomain", apart := false, narrowed := true }
def FnExactInDomainUptoSaid : Prop := fnExactInDomainUptoRow.holds Try.pinned (OpenSpec.upto fnExactInDomainSpec)

/-- 'laws.FnExactExact', WHERE WHAT IT READS IS OF BULK AT MOST 1048576: true; the input reads as it did. -/
def fnExactExactUptoRow : OpenClaim := { program := "ytbfaeieddbaclaa", sum := "3077044d83e20b5e61af95b824d7c7f1053d5db52ef4f515b154165920205ed4", func := "loop.example/g00481/laws.FnExactExact", spec := "fnExactExact", apart := false, narrowed := true }
def FnExactExactUptoSaid : Prop := fnExactExactUptoRow.holds Try.pinned (OpenSpec.upto fnExactExactSpec)

/-- 'laws.FnExactRungs', WHERE WHAT IT READS IS OF BULK AT MOST 1048576: true; the input reads as it did. -/
def fnExactRungsUptoRow : OpenClaim := { program := "ytbfaeieddbaclaa", sum := "3077044d83e20b5e61af95b824d7c7f1053d5db52ef4f515b154165920205ed4", func := "loop.example/g00481/laws.FnExactRungs", spec := "fnExactRungs", apart := false, narrowed := true }
def FnExactRungsUptoSaid : Prop := fnExactRungsUptoRow.holds Try.pinned (OpenSpec.upto fnExactRungsSpec)

/-- 'laws.FnExactTakes', WHERE WHAT IT READS IS OF BULK AT MOST 1048576: true; the input reads as it did. -/
def fnExactTakesUptoRow : OpenClaim := { program := "ytbfaeieddbaclaa", sum := "3077044d83e20b5e61af95b824d7c7f1053d5db52ef4f515b154165920205ed4", func := "loop.example/g00481/laws.FnExactTakes", spec := "fnExactTakes", apart := false, narrowed := true }
def FnExactTakesUptoSaid : Prop := fnExactTakesUptoRow.holds Try.pinned (OpenSpec.upto fnExactTakesSpec)

/-- 'laws.FnExactFunText', WHERE WHAT IT READS IS OF BULK AT MOST 1048576: true; the input reads as it did. -/
def fnExactFunTextUptoRow : OpenClaim := { program := "ytbfaeieddbaclaa", sum := "3077044d83e20b5e61af95b824d7c7f1053d5db52ef4f515b154165920205ed4", func := "loop.example/g00481/laws.FnExactFunText", spec := "fnExactFunText", apart := false, narrowed := true }
def FnExactFunTextUptoSaid : Prop := fnExactFunTextUptoRow.holds Try.pinned (OpenSpec.upto fnExactFunTextSpec)

/-- 'laws.FnExactFunOf', WHERE WHAT IT READS IS OF BULK AT MOST 1048576: true; the input reads as it did. -/
def fnExactFunOfUptoRow : OpenClaim := { program := "ytbfaeieddbaclaa", sum := "3077044d83e20b5e61af95b824d7c7f1053d5db52ef4f515b154165920205ed4", func := "loop.example/g00481/laws.FnExactFunOf", spec := "fnExactFunOf", apart := false, narrowed := true }
def FnExactFunOfUptoSaid : Prop := fnExactFunOfUptoRow.holds Try.pinned (OpenSpec.upto fnExactFunOfSpec)

/-- 'laws.FnExactConfOk', WHERE WHAT IT READS IS OF BULK AT MOST 1048576: true; the input reads as it did. -/
def fnExactConfOkUptoRow : OpenClaim := { program := "ytbfaeieddbaclaa", sum := "3077044d83e20b5e61af95b824d7c7f1053d5db52ef4f515b154165920205ed4", func := "loop.example/g00481/laws.FnExactConfOk", spec := "fnExactConfOk", apart := false, narrowed := true }
def FnExactConfOkUptoSaid : Prop := fnExactConfOkUptoRow.holds Try.pinned (OpenSpec.upto fnExactConfOkSpec)

end Rows
end Go.Proofs.Ytbfaeieddbaclaa
