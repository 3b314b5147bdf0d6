/-
  No cell of these rows narrows 'for every input' (looked for: loops, veiled, ifaces, maps, wideKeys, modest, calm, conditions, laid).
  DERIVED. THE GIVEN ROWS OF THIS SEAT. 8 by the template 'for every input the law returns true; each argument reads behind the call as it read before'; 0 by the template 'total and deterministic' (their statements: YtiecjafghdjnmaaTotals.lean).
  GIVEN WITH THE SEED: the statements are not yours to turn. If you find one false, say at which input.
  Laid BY PROGRAM, IN A SANDBOX (cutbox-rows.mjs): the forced cells as the released guide's own fill.sh prints them over the translation b692e3296ccbb1c7… (all of the seat's roots in one cut). By AI agents, Wed Nov 11 2026. No macro, syntax, notation, axiom, sorry.
-/
import Derived.Test.YtiecjafghdjnmaaChecked
import GoSem.Claim
import GoSem.ClaimJoined
import GoSem.ClaimMapViews
import Derived.JoinedTies
import Derived.KernelRfl
namespace Go.Proofs.Ytiecjafghdjnmaa
/- THE CELL 'sum', in the pinned program and in every row, IS THE sha256 OF THE DUMP (.gsa) THAT YtiecjafghdjnmaaProg.lean LOADS. Nothing in Lean hashes anything: it is a label: what it is worth is what the hold of that sum in a sandbox is worth. -/
noncomputable def Try.pinned : Pinned := { name := "ytiecjafghdjnmaa", sum := "b692e3296ccbb1c7f256320d5f6a7f1462dbc36aded872897801b652f3a6783d", checked := Try.checked }
namespace Rows
def none {H : Type} : Left H := { results := [], args := [] }

/-- 'laws.FnExactNatSub': WHATEVER THE INPUT: true; the input reads as it did. -/
def fnExactNatSubSpec : ChangeSpec := { name := "fnExactNatSub", fn := fun _ => fun
  | [d1, d2] => { results := [.lit (.bool true)], args := [d1, d2] }
  | _ => none }
def fnExactNatSubRow : OpenClaim := { program := "ytiecjafghdjnmaa", sum := "b692e3296ccbb1c7f256320d5f6a7f1462dbc36aded872897801b652f3a6783d", func := "loop.example/g00481/laws.FnExactNatSub", spec := "fnExactNatSub", apart := false }
def FnExactNatSubSaid : Prop := fnExactNatSubRow.holds Try.pinned (OpenSpec.ofChange fnExactNatSubSpec)

/-- ITS FALSE NEIGHBOUR: 'it returns false'. Refute it at one input. -/
def fnExactNatSubWrong : ChangeSpec := { name := "fnExactNatSub", fn := fun _ => fun
  | [d1, d2] => { results := [.lit (.bool false)], args := [d1, d2] }
  | _ => none }
def FnExactNatSubWrongFalsely : Prop := fnExactNatSubRow.holds Try.pinned (OpenSpec.ofChange fnExactNatSubWrong)

/-- 'laws.FnExactNatMul': WHATEVER THE INPUT: true; the input reads as it did. -/
def fnExactNatMulSpec : ChangeSpec := { name := "fnExactNatMul", fn := fun _ => fun
  | [d1, d2] => { results := [.lit (.bool true)], args := [d1, d2] }
  | _ => none }
def fnExactNatMulRow : OpenClaim := { program := "ytiecjafghdjnmaa", sum := "b692e3296ccbb1c7f256320d5f6a7f1462dbc36aded872897801b652f3a6783d", func := "loop.example/g00481/laws.FnExactNatMul", spec := "fnExactNatMul", apart := false }
def FnExactNatMulSaid : Prop := fnExactNatMulRow.holds Try.pinned (OpenSpec.ofChange fnExactNatMulSpec)

/-- ITS FALSE NEIGHBOUR: 'it returns false'. Refute it at one input. -/
def fnExactNatMulWrong : ChangeSpec := { name := "fnExactNatMul", fn := fun _ => fun
  | [d1, d2] => { results := [.lit (.bool false)], args := [d1, d2] }
  | _ => none }
def FnExactNatMulWrongFalsely : Prop := fnExactNatMulRow.holds Try.pinned (OpenSpec.ofChange fnExactNatMulWrong)

/-- 'laws.FnExactNatShl': WHATEVER THE INPUT: true; the input reads as it did. -/
def fnExactNatShlSpec : ChangeSpec := { name := "fnExactNatShl", fn := fun _ => fun
  | [d1, d2] => { results := [.lit (.bool true)], args := [d1, d2] }
  | _ => none }
def fnExactNatShlRow : OpenClaim := { program := "ytiecjafghdjnmaa", sum := "b692e3296ccbb1c7f256320d5f6a7f1462dbc36aded872897801b652f3a6783d", func := "loop.example/g00481/laws.FnExactNatShl", spec := "fnExactNatShl", apart := false }
def FnExactNatShlSaid : Prop := fnExactNatShlRow.holds Try.pinned (OpenSpec.ofChange fnExactNatShlSpec)

/-- ITS FALSE NEIGHBOUR: 'it returns false'. Refute it at one input. -/
def fnExactNatShlWrong : ChangeSpec := { name := "fnExactNatShl", fn := fun _ => fun
  | [d1, d2] => { results := [.lit (.bool false)], args := [d1, d2] }
  | _ => none }
def FnExactNatShlWrongFalsely : Prop := fnExactNatShlRow.holds Try.pinned (OpenSpec.ofChange fnExactNatShlWrong)

/-- 'laws.FnExactNatShr': WHATEVER THE INPUT: true; the input reads as it did. -/
def fnExactNatShrSpec : ChangeSpec := { name := "fnExactNatShr", fn := fun _ => fun
  | [d1, d2] => { results := [.lit (.bool true)], args := [d1, d2] }
  | _ => none }
def fnExactNatShrRow : OpenClaim := { program := "ytiecjafghdjnmaa", sum := "b692e3296ccbb1c7f256320d5f6a7f1462dbc36aded872897801b652f3a6783d", func := "loop.example/g00481/laws.FnExactNatShr", spec := "fnExactNatShr", apart := false }
def FnExactNatShrSaid : Prop := fnExactNatShrRow.holds Try.pinned (OpenSpec.ofChange fnExactNatShrSpec)

/-- ITS FALSE NEIGHBOUR: 'it returns false'. Refute it at one input. -/
def fnExactNatShrWrong : ChangeSpec := { name := "fnExactNatShr", fn := fun _ => fun
  | [d1, d2] => { results := [.lit (.bool false)], args := [d1, d2] }
  | _ => none }
def FnExactNatShrWrongFalsely : Prop := fnExactNatShrRow.holds Try.pinned (OpenSpec.ofChange fnExactNatShrWrong)

/-- 'laws.FnExactNatDiv': WHATEVER THE INPUT: true; the input reads as it did. -/
def fnExactNatDivSpec : ChangeSpec := { name := "fnExactNatDiv", fn := fun _ => fun
  | [d1, d2] => { results := [.lit (.bool true)], args := [d1, d2] }
  | _ => none }
def fnExactNatDivRow : OpenClaim := { program := "ytiecjafghdjnmaa", sum := "b692e3296ccbb1c7f256320d5f6a7f1462dbc36aded872897801b652f3a6783d", func := "loop.example/g00481/laws.FnExactNatDiv", spec := "fnExactNatDiv", apart := false }
def FnExactNatDivSaid : Prop := fnExactNatDivRow.holds Try.pinned (OpenSpec.ofChange fnExactNatDivSpec)

/-- ITS FALSE NEIGHBOUR: 'it returns false'. Refute it at one input. -/
def fnExactNatDivWrong : ChangeSpec := { name := "fnExactNatDiv", fn := fun _ => fun
  | [d1, d2] => { results := [.lit (.bool false)], args := [d1, d2] }
  | _ => none }
def FnExactNatDivWrongFalsely : Prop := fnExactNatDivRow.holds Try.pinned (OpenSpec.ofChange fnExactNatDivWrong)

/-- 'laws.FnExactNatRoot': WHATEVER THE INPUT: true; the input reads as it did. -/
def fnExactNatRootSpec : ChangeSpec := { name := "fnExactNatRoot", fn := fun _ => fun
  | [d] => { results := [.lit (.bool true)], args := [d] }
  | _ => none }
def fnExactNatRootRow : OpenClaim := { program := "ytiecjafghdjnmaa", sum := "b692e3296ccbb1c7f256320d5f6a7f1462dbc36aded872897801b652f3a6783d", func := "loop.example/g00481/laws.FnExactNatRoot", spec := "fnExactNatRoot", apart := false }
def FnExactNatRootSaid : Prop := fnExactNatRootRow.holds Try.pinned (OpenSpec.ofChange fnExactNatRootSpec)

/-- ITS FALSE NEIGHBOUR: 'it returns false'. Refute it at one input. -/
def fnExactNatRootWrong : ChangeSpec := { name := "fnExactNatRoot", fn := fun _ => fun
  | [d] => { results := [.lit (.bool false)], args := [d] }
  | _ => none }
def FnExactNatRootWrongFalsely : Prop := fnExactNatRootRow.holds Try.pinned (OpenSpec.ofChange fnExactNatRootWrong)

/-- 'laws.FnExactNatPow': WHATEVER THE INPUT: true; the input reads as it did. -/
def fnExactNatPowSpec : ChangeSpec := { name := "fnExactNatPow", fn := fun _ => fun
  | [d1, d2] => { results := [.lit (.bool true)], args := [d1, d2] }
  | _ => none }
def fnExactNatPowRow : OpenClaim := { program := "ytiecjafghdjnmaa", sum := "b692e3296ccbb1c7f256320d5f6a7f1462dbc36aded872897801b652f3a6783d", func := "loop.example/g00481/laws.FnExactNatPow", spec := "fnExactNatPow", apart := false }
def FnExactNatPowSaid : Prop := fnExactNatPowRow.holds Try.pinned (OpenSpec.ofChange fnExactNatPowSpec)

/-- ITS FALSE NEIGHBOUR: 'it returns false'. Refute it at one input. -/
def fnExactNatPowWrong : ChangeSpec := { name := "fnExactNatPow", fn := fun _ => fun
  | [d1, d2] => { results := [.lit (.bool false)], args := [d1, d2] }
  | _ => none }
def FnExactNatPowWrongFalsely : Prop := fnExactNatPowRow.holds Try.pinned (OpenSpec.ofChange fnExactNatPowWrong)

/-- 'laws.FnExactNatFrom': WHATEVER THE INPUT: true; the input reads as it did. -/
def fnExactNatFromSpec : ChangeSpec := { name := "fnExactNatFrom", fn := fun _ => fun
  | [d] => { results := [.lit (.bool true)], args := [d] }
  | _ => none }
def fnExactNatFromRow : OpenClaim := { program := "ytiecjafghdjnmaa", sum := "b692e3296ccbb1c7f256320d5f6a7f1462dbc36aded872897801b652f3a6783d", func := "loop.example/g00481/laws.FnExactNatFrom", spec := "fnExactNatFrom", apart := false }
def FnExactNatFromSaid : Prop := fnExactNatFromRow.holds Try.pinned (OpenSpec.ofChange fnExactNatFromSpec)

/-- ITS FALSE NEIGHBOUR: 'it returns false'. Refute it at one input. -/
def fnExactNatFromWrong : ChangeSpec := { name := "fnExactNatFrom", fn := fun _ => fun
  | [d] => { results := [.lit (.bool false)], args := [d] }
  | _ => none }
def FnExactNatFromWrongFalsely : Prop := fnExactNatFromRow.holds Try.pinned (OpenSpec.ofChange fnExactNatFromWrong)

/- THE SECOND FORM. 'bulk': how many values and letters a reading holds, each counted each time it is reached (what is shared counts as often as it is met; a slice's spare places count too). A statement '..UptoSaid' is the law's where the arguments, and the package variables that the reading takes, are together of bulk at most 1048576: NARROWER than '..Said'. Prove '..Said' where nothing that the law and all that it calls make is longer than what came in: it says more and counts as full. Else prove '..UptoSaid'. A law counts once. -/
mutual
def uptoBulk {H : Type} : DataW H → Nat
  | .lit (.string bytes) => bytes.length + 1
  | .lit _ => 1
  | .nil => 1
  | .ptr d => uptoBulk d + 1
  | .slice elems spare => uptoBulkAll elems + uptoBulkAll spare + 1
  | .agg parts => uptoBulkAll parts + 1
  | .iface _ d => uptoBulk d + 1
  | .map entries => uptoBulkEntries entries + 1
  | .held _ => 1
def uptoBulkAll {H : Type} : List (DataW H) → Nat
  | [] => 0
  | d :: r => uptoBulk d + uptoBulkAll r
def uptoBulkEntries {H : Type} : List (Lit × DataW H) → Nat
  | [] => 0
  | x :: r => uptoBulkEntry x + uptoBulkEntries r
def uptoBulkEntry {H : Type} : Lit × DataW H → Nat
  | (.string bytes, d) => bytes.length + uptoBulk d + 1
  | (_, d) => uptoBulk d + 1
 end
def uptoSmall : (H : Type) → List (DataW H) → Bool := fun _ ds => decide (uptoBulkAll ds ≤ 1048576)
def OpenSpec.upto (s : _root_.Go.ChangeSpec) : _root_.Go.OpenSpec := { _root_.Go.OpenSpec.ofChange s with cond := some uptoSmall }

/-- 'laws.FnExactNatSub', WHERE WHAT IT READS IS OF BULK AT MOST 1048576: true; the input reads as it did. -/
def fnExactNatSubUptoRow : OpenClaim := { program := "ytiecjafghdjnmaa", sum := "b692e3296ccbb1c7f256320d5f6a7f1462dbc36aded872897801b652f3a6783d", func := "loop.example/g00481/laws.FnExactNatSub", spec := "fnExactNatSub", apart := false, narrowed := true }
def FnExactNatSubUptoSaid : Prop := fnExactNatSubUptoRow.holds Try.pinned (OpenSpec.upto fnExactNatSubSpec)

/-- 'laws.FnExactNatMul', WHERE WHAT IT READS IS OF BULK AT MOST 1048576: true; the input reads as it did. -/
def fnExactNatMulUptoRow : OpenClaim := { program := "ytiecjafghdjnmaa", sum := "b692e3296ccbb1c7f256320d5f6a7f1462dbc36aded872897801b652f3a6783d", func := "loop.example/g00481/laws.FnExactNatMul", spec := "fnExactNatMul", apart := false, narrowed := true }
def FnExactNatMulUptoSaid : Prop := fnExactNatMulUptoRow.holds Try.pinned (OpenSpec.upto fnExactNatMulSpec)

/-- 'laws.FnExactNatShl', WHERE WHAT IT READS IS OF BULK AT MOST 1048576: true; the input reads as it did. -/
def fnExactNatShlUptoRow : OpenClaim := { program := "ytiecjafghdjnmaa", sum := "b692e3296ccbb1c7f256320d5f6a7f1462dbc36aded872897801b652f3a6783d", func := "loop.example/g00481/laws.FnExactNatShl", spec := "fnExactNatShl", apart := false, narrowed := true }
def FnExactNatShlUptoSaid : Prop := fnExactNatShlUptoRow.holds Try.pinned (OpenSpec.upto fnExactNatShlSpec)

/-- 'laws.FnExactNatShr', WHERE WHAT IT READS IS OF BULK AT MOST 1048576: true; the input reads as it did. -/
def fnExactNatShrUptoRow : OpenClaim := { program := "ytiecjafghdjnmaa", sum := "b692e3296ccbb1c7f256320d5f6a7f1462dbc36aded872897801b652f3a6783d", func := "loop.example/g00481/laws.FnExactNatShr", spec := "fnExactNatShr", apart := false, narrowed := true }
def FnExactNatShrUptoSaid : Prop := fnExactNatShrUptoRow.holds Try.pinned (OpenSpec.upto fnExactNatShrSpec)

/-- 'laws.FnExactNatDiv', WHERE WHAT IT READS IS OF BULK AT MOST 1048576: true; the input reads as it did. -/
def fnExactNatDivUptoRow : OpenClaim := { program := "ytiecjafghdjnmaa", sum := "b692e3296ccbb1c7f256320d5f6a7f1462dbc36aded872897801b652f3a6783d", func := "loop.example/g00481/laws.FnExactNatDiv", spec := "fnExactNatDiv", apart := false, narrowed := true }
def FnExactNatDivUptoSaid : Prop := fnExactNatDivUptoRow.holds Try.pinned (OpenSpec.upto fnExactNatDivSpec)

/-- 'laws.FnExactNatRoot', WHERE WHAT IT READS IS OF BULK AT MOST 1048576: true; the input reads as it did. -/
def fnExactNatRootUptoRow : OpenClaim := { program := "ytiecjafghdjnmaa", sum := "b692e3296ccbb1c7f256320d5f6a7f1462dbc36aded872897801b652f3a6783d", func := "loop.example/g00481/laws.FnExactNatRoot", spec := "fnExactNatRoot", apart := false, narrowed := true }
def FnExactNatRootUptoSaid : Prop := fnExactNatRootUptoRow.holds Try.pinned (OpenSpec.upto fnExactNatRootSpec)

/-- 'laws.FnExactNatPow', WHERE WHAT IT READS IS OF BULK AT MOST 1048576: true; the input reads as it did. -/
def fnExactNatPowUptoRow : OpenClaim := { program := "ytiecjafghdjnmaa", sum := "b692e3296ccbb1c7f256320d5f6a7f1462dbc36aded872897801b652f3a6783d", func := "loop.example/g00481/laws.FnExactNatPow", spec := "fnExactNatPow", apart := false, narrowed := true }
def FnExactNatPowUptoSaid : Prop := fnExactNatPowUptoRow.holds Try.pinned (OpenSpec.upto fnExactNatPowSpec)

/-- 'laws.FnExactNatFrom', WHERE WHAT IT READS IS OF BULK AT MOST 1048576: true; the input reads as it did. -/
def fnExactNatFromUptoRow : OpenClaim := { program := "ytiecjafghdjnmaa", sum := "b692e3296ccbb1c7f256320d5f6a7f1462dbc36aded872897801b652f3a6783d", func := "loop.example/g00481/laws.FnExactNatFrom", spec := "fnExactNatFrom", apart := false, narrowed := true }
def FnExactNatFromUptoSaid : Prop := fnExactNatFromUptoRow.holds Try.pinned (OpenSpec.upto fnExactNatFromSpec)

end Rows
end Go.Proofs.Ytiecjafghdjnmaa
