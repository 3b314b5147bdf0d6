/-
  No cell of these rows narrows 'for every input' (looked for: loops, veiled, ifaces, maps, wideKeys, modest, calm, conditions, laid).
  DERIVED. THE GIVEN ROWS OF THIS SEAT. 8 by the template 'for every input the law returns true; each argument reads behind the call as it read before'; 0 by the template 'total and deterministic' (their statements: YtmbmnfphgcjhdaaTotals.lean).
  GIVEN WITH THE SEED: the statements are not yours to turn. If you find one false, say at which input.
  Laid BY PROGRAM, IN A SANDBOX (cutbox-rows.mjs): the forced cells as the released guide's own fill.sh prints them over the translation 16cee9a8883d5829… (all of the seat's roots in one cut). By AI agents, Wed Nov 11 2026. No macro, syntax, notation, axiom, sorry.
-/
import Derived.Test.YtmbmnfphgcjhdaaChecked
import GoSem.Claim
import GoSem.ClaimJoined
import GoSem.ClaimMapViews
import Derived.JoinedTies
import Derived.KernelRfl
namespace Go.Proofs.Ytmbmnfphgcjhdaa
/- THE CELL 'sum', in the pinned program and in every row, IS THE sha256 OF THE DUMP (.gsa) THAT YtmbmnfphgcjhdaaProg.lean LOADS. Nothing in Lean hashes anything: it is a label: what it is worth is what the hold of that sum in a sandbox is worth. -/
noncomputable def Try.pinned : Pinned := { name := "ytmbmnfphgcjhdaa", sum := "16cee9a8883d58296830b607a8fbfd76f34035aebaf839077d0677dea073bc92", checked := Try.checked }
namespace Rows
def none {H : Type} : Left H := { results := [], args := [] }

/-- 'laws.FnExactIvOf': WHATEVER THE INPUT: true; the input reads as it did. -/
def fnExactIvOfSpec : ChangeSpec := { name := "fnExactIvOf", fn := fun _ => fun
  | [d] => { results := [.lit (.bool true)], args := [d] }
  | _ => none }
def fnExactIvOfRow : OpenClaim := { program := "ytmbmnfphgcjhdaa", sum := "16cee9a8883d58296830b607a8fbfd76f34035aebaf839077d0677dea073bc92", func := "loop.example/g00481/laws.FnExactIvOf", spec := "fnExactIvOf", apart := false }
def FnExactIvOfSaid : Prop := fnExactIvOfRow.holds Try.pinned (OpenSpec.ofChange fnExactIvOfSpec)

/-- ITS FALSE NEIGHBOUR: 'it returns false'. Refute it at one input. -/
def fnExactIvOfWrong : ChangeSpec := { name := "fnExactIvOf", fn := fun _ => fun
  | [d] => { results := [.lit (.bool false)], args := [d] }
  | _ => none }
def FnExactIvOfWrongFalsely : Prop := fnExactIvOfRow.holds Try.pinned (OpenSpec.ofChange fnExactIvOfWrong)

/-- 'laws.FnExactIvAdd': WHATEVER THE INPUT: true; the input reads as it did. -/
def fnExactIvAddSpec : ChangeSpec := { name := "fnExactIvAdd", fn := fun _ => fun
  | [d1, d2] => { results := [.lit (.bool true)], args := [d1, d2] }
  | _ => none }
def fnExactIvAddRow : OpenClaim := { program := "ytmbmnfphgcjhdaa", sum := "16cee9a8883d58296830b607a8fbfd76f34035aebaf839077d0677dea073bc92", func := "loop.example/g00481/laws.FnExactIvAdd", spec := "fnExactIvAdd", unfollowed := true, recurses := true, apart := false }
def FnExactIvAddSaid : Prop := fnExactIvAddRow.holds Try.pinned (OpenSpec.ofChange fnExactIvAddSpec)

/-- ITS FALSE NEIGHBOUR: 'it returns false'. Refute it at one input. -/
def fnExactIvAddWrong : ChangeSpec := { name := "fnExactIvAdd", fn := fun _ => fun
  | [d1, d2] => { results := [.lit (.bool false)], args := [d1, d2] }
  | _ => none }
def FnExactIvAddWrongFalsely : Prop := fnExactIvAddRow.holds Try.pinned (OpenSpec.ofChange fnExactIvAddWrong)

/-- 'laws.FnExactIvSub': WHATEVER THE INPUT: true; the input reads as it did. -/
def fnExactIvSubSpec : ChangeSpec := { name := "fnExactIvSub", fn := fun _ => fun
  | [d1, d2] => { results := [.lit (.bool true)], args := [d1, d2] }
  | _ => none }
def fnExactIvSubRow : OpenClaim := { program := "ytmbmnfphgcjhdaa", sum := "16cee9a8883d58296830b607a8fbfd76f34035aebaf839077d0677dea073bc92", func := "loop.example/g00481/laws.FnExactIvSub", spec := "fnExactIvSub", unfollowed := true, recurses := true, apart := false }
def FnExactIvSubSaid : Prop := fnExactIvSubRow.holds Try.pinned (OpenSpec.ofChange fnExactIvSubSpec)

/-- ITS FALSE NEIGHBOUR: 'it returns false'. Refute it at one input. -/
def fnExactIvSubWrong : ChangeSpec := { name := "fnExactIvSub", fn := fun _ => fun
  | [d1, d2] => { results := [.lit (.bool false)], args := [d1, d2] }
  | _ => none }
def FnExactIvSubWrongFalsely : Prop := fnExactIvSubRow.holds Try.pinned (OpenSpec.ofChange fnExactIvSubWrong)

/-- 'laws.FnExactIvNeg': WHATEVER THE INPUT: true; the input reads as it did. -/
def fnExactIvNegSpec : ChangeSpec := { name := "fnExactIvNeg", fn := fun _ => fun
  | [d] => { results := [.lit (.bool true)], args := [d] }
  | _ => none }
def fnExactIvNegRow : OpenClaim := { program := "ytmbmnfphgcjhdaa", sum := "16cee9a8883d58296830b607a8fbfd76f34035aebaf839077d0677dea073bc92", func := "loop.example/g00481/laws.FnExactIvNeg", spec := "fnExactIvNeg", unfollowed := true, recurses := true, apart := false }
def FnExactIvNegSaid : Prop := fnExactIvNegRow.holds Try.pinned (OpenSpec.ofChange fnExactIvNegSpec)

/-- ITS FALSE NEIGHBOUR: 'it returns false'. Refute it at one input. -/
def fnExactIvNegWrong : ChangeSpec := { name := "fnExactIvNeg", fn := fun _ => fun
  | [d] => { results := [.lit (.bool false)], args := [d] }
  | _ => none }
def FnExactIvNegWrongFalsely : Prop := fnExactIvNegRow.holds Try.pinned (OpenSpec.ofChange fnExactIvNegWrong)

/-- 'laws.FnExactIvWide': WHATEVER THE INPUT: true; the input reads as it did. -/
def fnExactIvWideSpec : ChangeSpec := { name := "fnExactIvWide", fn := fun _ => fun
  | [d1, d2] => { results := [.lit (.bool true)], args := [d1, d2] }
  | _ => none }
def fnExactIvWideRow : OpenClaim := { program := "ytmbmnfphgcjhdaa", sum := "16cee9a8883d58296830b607a8fbfd76f34035aebaf839077d0677dea073bc92", func := "loop.example/g00481/laws.FnExactIvWide", spec := "fnExactIvWide", unfollowed := true, recurses := true, apart := false }
def FnExactIvWideSaid : Prop := fnExactIvWideRow.holds Try.pinned (OpenSpec.ofChange fnExactIvWideSpec)

/-- ITS FALSE NEIGHBOUR: 'it returns false'. Refute it at one input. -/
def fnExactIvWideWrong : ChangeSpec := { name := "fnExactIvWide", fn := fun _ => fun
  | [d1, d2] => { results := [.lit (.bool false)], args := [d1, d2] }
  | _ => none }
def FnExactIvWideWrongFalsely : Prop := fnExactIvWideRow.holds Try.pinned (OpenSpec.ofChange fnExactIvWideWrong)

/-- 'laws.FnExactTight': WHATEVER THE INPUT: true; the input reads as it did. -/
def fnExactTightSpec : ChangeSpec := { name := "fnExactTight", fn := fun _ => fun
  | [d1, d2] => { results := [.lit (.bool true)], args := [d1, d2] }
  | _ => none }
def fnExactTightRow : OpenClaim := { program := "ytmbmnfphgcjhdaa", sum := "16cee9a8883d58296830b607a8fbfd76f34035aebaf839077d0677dea073bc92", func := "loop.example/g00481/laws.FnExactTight", spec := "fnExactTight", unfollowed := true, recurses := true, apart := false }
def FnExactTightSaid : Prop := fnExactTightRow.holds Try.pinned (OpenSpec.ofChange fnExactTightSpec)

/-- ITS FALSE NEIGHBOUR: 'it returns false'. Refute it at one input. -/
def fnExactTightWrong : ChangeSpec := { name := "fnExactTight", fn := fun _ => fun
  | [d1, d2] => { results := [.lit (.bool false)], args := [d1, d2] }
  | _ => none }
def FnExactTightWrongFalsely : Prop := fnExactTightRow.holds Try.pinned (OpenSpec.ofChange fnExactTightWrong)

/-- 'laws.FnExactSpinOk': WHATEVER THE INPUT: true; the input reads as it did. -/
def fnExactSpinOkSpec : ChangeSpec := { name := "fnExactSpinOk", fn := fun _ => fun
  | [d] => { results := [.lit (.bool true)], args := [d] }
  | _ => none }
def fnExactSpinOkRow : OpenClaim := { program := "ytmbmnfphgcjhdaa", sum := "16cee9a8883d58296830b607a8fbfd76f34035aebaf839077d0677dea073bc92", func := "loop.example/g00481/laws.FnExactSpinOk", spec := "fnExactSpinOk", apart := false }
def FnExactSpinOkSaid : Prop := fnExactSpinOkRow.holds Try.pinned (OpenSpec.ofChange fnExactSpinOkSpec)

/-- ITS FALSE NEIGHBOUR: 'it returns false'. Refute it at one input. -/
def fnExactSpinOkWrong : ChangeSpec := { name := "fnExactSpinOk", fn := fun _ => fun
  | [d] => { results := [.lit (.bool false)], args := [d] }
  | _ => none }
def FnExactSpinOkWrongFalsely : Prop := fnExactSpinOkRow.holds Try.pinned (OpenSpec.ofChange fnExactSpinOkWrong)

/-- 'laws.FnExactKernOk': WHATEVER THE INPUT: true; the input reads as it did. -/
def fnExactKernOkSpec : ChangeSpec := { name := "fnExactKernOk", fn := fun _ => fun
  | [d] => { results := [.lit (.bool true)], args := [d] }
  | _ => none }
def fnExactKernOkRow : OpenClaim := { program := "ytmbmnfphgcjhdaa", sum := "16cee9a8883d58296830b607a8fbfd76f34035aebaf839077d0677dea073bc92", func := "loop.example/g00481/laws.FnExactKernOk", spec := "fnExactKernOk", apart := false }
def FnExactKernOkSaid : Prop := fnExactKernOkRow.holds Try.pinned (OpenSpec.ofChange fnExactKernOkSpec)

/-- ITS FALSE NEIGHBOUR: 'it returns false'. Refute it at one input. -/
def fnExactKernOkWrong : ChangeSpec := { name := "fnExactKernOk", fn := fun _ => fun
  | [d] => { results := [.lit (.bool false)], args := [d] }
  | _ => none }
def FnExactKernOkWrongFalsely : Prop := fnExactKernOkRow.holds Try.pinned (OpenSpec.ofChange fnExactKernOkWrong)

/- THE SECOND FORM. 'bulk': how many values and letters a reading holds, each counted each time it is reached (what is shared counts as often as it is met; a slice's spare places count too). A statement '..UptoSaid' is the law's where the arguments, and the package variables that the reading takes, are together of bulk at most 1048576: NARROWER than '..Said'. Prove '..Said' where nothing that the law and all that it calls make is longer than what came in: it says more and counts as full. Else prove '..UptoSaid'. A law counts once. -/
mutual
def uptoBulk {H : Type} : DataW H → Nat
  | .lit (.string bytes) => bytes.length + 1
  | .lit _ => 1
  | .nil => 1
  | .ptr d => uptoBulk d + 1
  | .slice elems spare => uptoBulkAll elems + uptoBulkAll spare + 1
  | .agg parts => uptoBulkAll parts + 1
  | .iface _ d => uptoBulk d + 1
  | .map entries => uptoBulkEntries entries + 1
  | .held _ => 1
def uptoBulkAll {H : Type} : List (DataW H) → Nat
  | [] => 0
  | d :: r => uptoBulk d + uptoBulkAll r
def uptoBulkEntries {H : Type} : List (Lit × DataW H) → Nat
  | [] => 0
  | x :: r => uptoBulkEntry x + uptoBulkEntries r
def uptoBulkEntry {H : Type} : Lit × DataW H → Nat
  | (.string bytes, d) => bytes.length + uptoBulk d + 1
  | (_, d) => uptoBulk d + 1
 end
def uptoSmall : (H : Type) → List (DataW H) → Bool := fun _ ds => decide (uptoBulkAll ds ≤ 1048576)
def OpenSpec.upto (s : _root_.Go.ChangeSpec) : _root_.Go.OpenSpec := { _root_.Go.OpenSpec.ofChange s with cond := some uptoSmall }

/-- 'laws.FnExactIvOf', WHERE WHAT IT READS IS OF BULK AT MOST 1048576: true; the input reads as it did. -/
def fnExactIvOfUptoRow : OpenClaim := { program := "ytmbmnfphgcjhdaa", sum := "16cee9a8883d58296830b607a8fbfd76f34035aebaf839077d0677dea073bc92", func := "loop.example/g00481/laws.FnExactIvOf", spec := "fnExactIvOf", apart := false, narrowed := true }
def FnExactIvOfUptoSaid : Prop := fnExactIvOfUptoRow.holds Try.pinned (OpenSpec.upto fnExactIvOfSpec)

/-- 'laws.FnExactIvAdd', WHERE WHAT IT READS IS OF BULK AT MOST 1048576: true; the input reads as it did. -/
def fnExactIvAddUptoRow : OpenClaim := { program := "ytmbmnfphgcjhdaa", sum := "16cee9a8883d58296830b607a8fbfd76f34035aebaf839077d0677dea073bc92", func := "loop.example/g00481/laws.FnExactIvAdd", spec := "fnExactIvAdd", unfollowed := true, recurses := true, apart := false, narrowed := true }
def FnExactIvAddUptoSaid : Prop := fnExactIvAddUptoRow.holds Try.pinned (OpenSpec.upto fnExactIvAddSpec)

/-- 'laws.FnExactIvSub', WHERE WHAT IT READS IS OF BULK AT MOST 1048576: true; the input reads as it did. -/
def fnExactIvSubUptoRow : OpenClaim := { program := "ytmbmnfphgcjhdaa", sum := "16cee9a8883d58296830b607a8fbfd76f34035aebaf839077d0677dea073bc92", func := "loop.example/g00481/laws.FnExactIvSub", spec := "fnExactIvSub", unfollowed := true, recurses := true, apart := false, narrowed := true }
def FnExactIvSubUptoSaid : Prop := fnExactIvSubUptoRow.holds Try.pinned (OpenSpec.upto fnExactIvSubSpec)

/-- 'laws.FnExactIvNeg', WHERE WHAT IT READS IS OF BULK AT MOST 1048576: true; the input reads as it did. -/
def fnExactIvNegUptoRow : OpenClaim := { program := "ytmbmnfphgcjhdaa", sum := "16cee9a8883d58296830b607a8fbfd76f34035aebaf839077d0677dea073bc92", func := "loop.example/g00481/laws.FnExactIvNeg", spec := "fnExactIvNeg", unfollowed := true, recurses := true, apart := false, narrowed := true }
def FnExactIvNegUptoSaid : Prop := fnExactIvNegUptoRow.holds Try.pinned (OpenSpec.upto fnExactIvNegSpec)

/-- 'laws.FnExactIvWide', WHERE WHAT IT READS IS OF BULK AT MOST 1048576: true; the input reads as it did. -/
def fnExactIvWideUptoRow : OpenClaim := { program := "ytmbmnfphgcjhdaa", sum := "16cee9a8883d58296830b607a8fbfd76f34035aebaf839077d0677dea073bc92", func := "loop.example/g00481/laws.FnExactIvWide", spec := "fnExactIvWide", unfollowed := true, recurses := true, apart := false, narrowed := true }
def FnExactIvWideUptoSaid : Prop := fnExactIvWideUptoRow.holds Try.pinned (OpenSpec.upto fnExactIvWideSpec)

/-- 'laws.FnExactTight', WHERE WHAT IT READS IS OF BULK AT MOST 1048576: true; the input reads as it did. -/
def fnExactTightUptoRow : OpenClaim := { program := "ytmbmnfphgcjhdaa", sum := "16cee9a8883d58296830b607a8fbfd76f34035aebaf839077d0677dea073bc92", func := "loop.example/g00481/laws.FnExactTight", spec := "fnExactTight", unfollowed := true, recurses := true, apart := false, narrowed := true }
def FnExactTightUptoSaid : Prop := fnExactTightUptoRow.holds Try.pinned (OpenSpec.upto fnExactTightSpec)

/-- 'laws.FnExactSpinOk', WHERE WHAT IT READS IS OF BULK AT MOST 1048576: true; the input reads as it did. -/
def fnExactSpinOkUptoRow : OpenClaim := { program := "ytmbmnfphgcjhdaa", sum := "16cee9a8883d58296830b607a8fbfd76f34035aebaf839077d0677dea073bc92", func := "loop.example/g00481/laws.FnExactSpinOk", spec := "fnExactSpinOk", apart := false, narrowed := true }
def FnExactSpinOkUptoSaid : Prop := fnExactSpinOkUptoRow.holds Try.pinned (OpenSpec.upto fnExactSpinOkSpec)

/-- 'laws.FnExactKernOk', WHERE WHAT IT READS IS OF BULK AT MOST 1048576: true; the input reads as it did. -/
def fnExactKernOkUptoRow : OpenClaim := { program := "ytmbmnfphgcjhdaa", sum := "16cee9a8883d58296830b607a8fbfd76f34035aebaf839077d0677dea073bc92", func := "loop.example/g00481/laws.FnExactKernOk", spec := "fnExactKernOk", apart := false, narrowed := true }
def FnExactKernOkUptoSaid : Prop := fnExactKernOkUptoRow.holds Try.pinned (OpenSpec.upto fnExactKernOkSpec)

end Rows
end Go.Proofs.Ytmbmnfphgcjhdaa
