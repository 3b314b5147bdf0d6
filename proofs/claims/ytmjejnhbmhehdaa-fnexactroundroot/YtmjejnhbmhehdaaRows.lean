/-
  No cell of these rows narrows 'for every input' (looked for: loops, veiled, ifaces, maps, wideKeys, modest, calm, conditions, laid).
  DERIVED. THE GIVEN ROWS OF THIS SEAT. 9 by the template 'for every input the law returns true; each argument reads behind the call as it read before'; 0 by the template 'total and deterministic' (their statements: YtmjejnhbmhehdaaTotals.lean).
  GIVEN WITH THE SEED: the statements are not yours to turn. If you find one false, say at which input.
  Laid BY PROGRAM, IN A SANDBOX (cutbox-rows.mjs): the forced cells as the released guide's own fill.sh prints them over the translation ed595d2605198f1b… (all of the seat's roots in one cut). By AI agents, Wed Nov 11 2026. No macro, syntax, notation, axiom, sorry.
-/
import Derived.Test.YtmjejnhbmhehdaaChecked
import GoSem.Claim
import GoSem.ClaimJoined
import GoSem.ClaimMapViews
import Derived.JoinedTies
import Derived.KernelRfl
namespace Go.Proofs.Ytmjejnhbmhehdaa
/- THE CELL 'sum', in the pinned program and in every row, IS THE sha256 OF THE DUMP (.gsa) THAT YtmjejnhbmhehdaaProg.lean LOADS. Nothing in Lean hashes anything: it is a label: what it is worth is what the hold of that sum in a sandbox is worth. -/
noncomputable def Try.pinned : Pinned := { name := "ytmjejnhbmhehdaa", sum := "ed595d2605198f1b2bfabc518f49e0a58710b32ad31e5cd01eb2fef80459a6f4", checked := Try.checked }
namespace Rows
def none {H : Type} : Left H := { results := [], args := [] }

/-- 'laws.FnExactWholeOf': WHATEVER THE INPUT: true; the input reads as it did. -/
def fnExactWholeOfSpec : ChangeSpec := { name := "fnExactWholeOf", fn := fun _ => fun
  | [d] => { results := [.lit (.bool true)], args := [d] }
  | _ => none }
def fnExactWholeOfRow : OpenClaim := { program := "ytmjejnhbmhehdaa", sum := "ed595d2605198f1b2bfabc518f49e0a58710b32ad31e5cd01eb2fef80459a6f4", func := "loop.example/g00481/laws.FnExactWholeOf", spec := "fnExactWholeOf", apart := false }
def FnExactWholeOfSaid : Prop := fnExactWholeOfRow.holds Try.pinned (OpenSpec.ofChange fnExactWholeOfSpec)

/-- ITS FALSE NEIGHBOUR: 'it returns false'. Refute it at one input. -/
def fnExactWholeOfWrong : ChangeSpec := { name := "fnExactWholeOf", fn := fun _ => fun
  | [d] => { results := [.lit (.bool false)], args := [d] }
  | _ => none }
def FnExactWholeOfWrongFalsely : Prop := fnExactWholeOfRow.holds Try.pinned (OpenSpec.ofChange fnExactWholeOfWrong)

/-- 'laws.FnExactWholeNeg': WHATEVER THE INPUT: true; the input reads as it did. -/
def fnExactWholeNegSpec : ChangeSpec := { name := "fnExactWholeNeg", fn := fun _ => fun
  | [d] => { results := [.lit (.bool true)], args := [d] }
  | _ => none }
def fnExactWholeNegRow : OpenClaim := { program := "ytmjejnhbmhehdaa", sum := "ed595d2605198f1b2bfabc518f49e0a58710b32ad31e5cd01eb2fef80459a6f4", func := "loop.example/g00481/laws.FnExactWholeNeg", spec := "fnExactWholeNeg", apart := false }
def FnExactWholeNegSaid : Prop := fnExactWholeNegRow.holds Try.pinned (OpenSpec.ofChange fnExactWholeNegSpec)

/-- ITS FALSE NEIGHBOUR: 'it returns false'. Refute it at one input. -/
def fnExactWholeNegWrong : ChangeSpec := { name := "fnExactWholeNeg", fn := fun _ => fun
  | [d] => { results := [.lit (.bool false)], args := [d] }
  | _ => none }
def FnExactWholeNegWrongFalsely : Prop := fnExactWholeNegRow.holds Try.pinned (OpenSpec.ofChange fnExactWholeNegWrong)

/-- 'laws.FnExactWholeAdd': WHATEVER THE INPUT: true; the input reads as it did. -/
def fnExactWholeAddSpec : ChangeSpec := { name := "fnExactWholeAdd", fn := fun _ => fun
  | [d1, d2] => { results := [.lit (.bool true)], args := [d1, d2] }
  | _ => none }
def fnExactWholeAddRow : OpenClaim := { program := "ytmjejnhbmhehdaa", sum := "ed595d2605198f1b2bfabc518f49e0a58710b32ad31e5cd01eb2fef80459a6f4", func := "loop.example/g00481/laws.FnExactWholeAdd", spec := "fnExactWholeAdd", apart := false }
def FnExactWholeAddSaid : Prop := fnExactWholeAddRow.holds Try.pinned (OpenSpec.ofChange fnExactWholeAddSpec)

/-- ITS FALSE NEIGHBOUR: 'it returns false'. Refute it at one input. -/
def fnExactWholeAddWrong : ChangeSpec := { name := "fnExactWholeAdd", fn := fun _ => fun
  | [d1, d2] => { results := [.lit (.bool false)], args := [d1, d2] }
  | _ => none }
def FnExactWholeAddWrongFalsely : Prop := fnExactWholeAddRow.holds Try.pinned (OpenSpec.ofChange fnExactWholeAddWrong)

/-- 'laws.FnExactWholeSub': WHATEVER THE INPUT: true; the input reads as it did. -/
def fnExactWholeSubSpec : ChangeSpec := { name := "fnExactWholeSub", fn := fun _ => fun
  | [d1, d2] => { results := [.lit (.bool true)], args := [d1, d2] }
  | _ => none }
def fnExactWholeSubRow : OpenClaim := { program := "ytmjejnhbmhehdaa", sum := "ed595d2605198f1b2bfabc518f49e0a58710b32ad31e5cd01eb2fef80459a6f4", func := "loop.example/g00481/laws.FnExactWholeSub", spec := "fnExactWholeSub", apart := false }
def FnExactWholeSubSaid : Prop := fnExactWholeSubRow.holds Try.pinned (OpenSpec.ofChange fnExactWholeSubSpec)

/-- ITS FALSE NEIGHBOUR: 'it returns false'. Refute it at one input. -/
def fnExactWholeSubWrong : ChangeSpec := { name := "fnExactWholeSub", fn := fun _ => fun
  | [d1, d2] => { results := [.lit (.bool false)], args := [d1, d2] }
  | _ => none }
def FnExactWholeSubWrongFalsely : Prop := fnExactWholeSubRow.holds Try.pinned (OpenSpec.ofChange fnExactWholeSubWrong)

/-- 'laws.FnExactWholeMul': WHATEVER THE INPUT: true; the input reads as it did. -/
def fnExactWholeMulSpec : ChangeSpec := { name := "fnExactWholeMul", fn := fun _ => fun
  | [d1, d2] => { results := [.lit (.bool true)], args := [d1, d2] }
  | _ => none }
def fnExactWholeMulRow : OpenClaim := { program := "ytmjejnhbmhehdaa", sum := "ed595d2605198f1b2bfabc518f49e0a58710b32ad31e5cd01eb2fef80459a6f4", func := "loop.example/g00481/laws.FnExactWholeMul", spec := "fnExactWholeMul", apart := false }
def FnExactWholeMulSaid : Prop := fnExactWholeMulRow.holds Try.pinned (OpenSpec.ofChange fnExactWholeMulSpec)

/-- ITS FALSE NEIGHBOUR: 'it returns false'. Refute it at one input. -/
def fnExactWholeMulWrong : ChangeSpec := { name := "fnExactWholeMul", fn := fun _ => fun
  | [d1, d2] => { results := [.lit (.bool false)], args := [d1, d2] }
  | _ => none }
def FnExactWholeMulWrongFalsely : Prop := fnExactWholeMulRow.holds Try.pinned (OpenSpec.ofChange fnExactWholeMulWrong)

/-- 'laws.FnExactWholeShift': WHATEVER THE INPUT: true; the input reads as it did. -/
def fnExactWholeShiftSpec : ChangeSpec := { name := "fnExactWholeShift", fn := fun _ => fun
  | [d1, d2] => { results := [.lit (.bool true)], args := [d1, d2] }
  | _ => none }
def fnExactWholeShiftRow : OpenClaim := { program := "ytmjejnhbmhehdaa", sum := "ed595d2605198f1b2bfabc518f49e0a58710b32ad31e5cd01eb2fef80459a6f4", func := "loop.example/g00481/laws.FnExactWholeShift", spec := "fnExactWholeShift", apart := false }
def FnExactWholeShiftSaid : Prop := fnExactWholeShiftRow.holds Try.pinned (OpenSpec.ofChange fnExactWholeShiftSpec)

/-- ITS FALSE NEIGHBOUR: 'it returns false'. Refute it at one input. -/
def fnExactWholeShiftWrong : ChangeSpec := { name := "fnExactWholeShift", fn := fun _ => fun
  | [d1, d2] => { results := [.lit (.bool false)], args := [d1, d2] }
  | _ => none }
def FnExactWholeShiftWrongFalsely : Prop := fnExactWholeShiftRow.holds Try.pinned (OpenSpec.ofChange fnExactWholeShiftWrong)

/-- 'laws.FnExactRoundFrac': WHATEVER THE INPUT: true; the input reads as it did. -/
def fnExactRoundFracSpec : ChangeSpec := { name := "fnExactRoundFrac", fn := fun _ => fun
  | [d1, d2, d3] => { results := [.lit (.bool true)], args := [d1, d2, d3] }
  | _ => none }
def fnExactRoundFracRow : OpenClaim := { program := "ytmjejnhbmhehdaa", sum := "ed595d2605198f1b2bfabc518f49e0a58710b32ad31e5cd01eb2fef80459a6f4", func := "loop.example/g00481/laws.FnExactRoundFrac", spec := "fnExactRoundFrac", apart := false }
def FnExactRoundFracSaid : Prop := fnExactRoundFracRow.holds Try.pinned (OpenSpec.ofChange fnExactRoundFracSpec)

/-- ITS FALSE NEIGHBOUR: 'it returns false'. Refute it at one input. -/
def fnExactRoundFracWrong : ChangeSpec := { name := "fnExactRoundFrac", fn := fun _ => fun
  | [d1, d2, d3] => { results := [.lit (.bool false)], args := [d1, d2, d3] }
  | _ => none }
def FnExactRoundFracWrongFalsely : Prop := fnExactRoundFracRow.holds Try.pinned (OpenSpec.ofChange fnExactRoundFracWrong)

/-- 'laws.FnExactRoundAt': WHATEVER THE INPUT: true; the input reads as it did. -/
def fnExactRoundAtSpec : ChangeSpec := { name := "fnExactRoundAt", fn := fun _ => fun
  | [d1, d2, d3] => { results := [.lit (.bool true)], args := [d1, d2, d3] }
  | _ => none }
def fnExactRoundAtRow : OpenClaim := { program := "ytmjejnhbmhehdaa", sum := "ed595d2605198f1b2bfabc518f49e0a58710b32ad31e5cd01eb2fef80459a6f4", func := "loop.example/g00481/laws.FnExactRoundAt", spec := "fnExactRoundAt", apart := false }
def FnExactRoundAtSaid : Prop := fnExactRoundAtRow.holds Try.pinned (OpenSpec.ofChange fnExactRoundAtSpec)

/-- ITS FALSE NEIGHBOUR: 'it returns false'. Refute it at one input. -/
def fnExactRoundAtWrong : ChangeSpec := { name := "fnExactRoundAt", fn := fun _ => fun
  | [d1, d2, d3] => { results := [.lit (.bool false)], args := [d1, d2, d3] }
  | _ => none }
def FnExactRoundAtWrongFalsely : Prop := fnExactRoundAtRow.holds Try.pinned (OpenSpec.ofChange fnExactRoundAtWrong)

/-- 'laws.FnExactRoundRoot': WHATEVER THE INPUT: true; the input reads as it did. -/
def fnExactRoundRootSpec : ChangeSpec := { name := "fnExactRoundRoot", fn := fun _ => fun
  | [d1, d2, d3] => { results := [.lit (.bool true)], args := [d1, d2, d3] }
  | _ => none }
def fnExactRoundRootRow : OpenClaim := { program := "ytmjejnhbmhehdaa", sum := "ed595d2605198f1b2bfabc518f49e0a58710b32ad31e5cd01eb2fef80459a6f4", func := "loop.example/g00481/laws.FnExactRoundRoot", spec := "fnExactRoundRoot", apart := false }
def FnExactRoundRootSaid : Prop := fnExactRoundRootRow.holds Try.pinned (OpenSpec.ofChange fnExactRoundRootSpec)

/-- ITS FALSE NEIGHBOUR: 'it returns false'. Refute it at one input. -/
def fnExactRoundRootWrong : ChangeSpec := { name := "fnExactRoundRoot", fn := fun _ => fun
  | [d1, d2, d3] => { results := [.lit (.bool false)], args := [d1, d2, d3] }
  | _ => none }
def FnExactRoundRootWrongFalsely : Prop := fnExactRoundRootRow.holds Try.pinned (OpenSpec.ofChange fnExactRoundRootWrong)

/- THE SECOND FORM. 'bulk': how many values and letters a reading holds, each counted each time it is reached (what is shared counts as often as it is met; a slice's spare places count too). A statement '..UptoSaid' is the law's where the arguments, and the package variables that the reading takes, are together of bulk at most 1048576: NARROWER than '..Said'. Prove '..Said' where nothing that the law and all that it calls make is longer than what came in: it says more and counts as full. Else prove '..UptoSaid'. A law counts once. -/
mutual
def uptoBulk {H : Type} : DataW H → Nat
  | .lit (.string bytes) => bytes.length + 1
  | .lit _ => 1
  | .nil => 1
  | .ptr d => uptoBulk d + 1
  | .slice elems spare => uptoBulkAll elems + uptoBulkAll spare + 1
  | .agg parts => uptoBulkAll parts + 1
  | .iface _ d => uptoBulk d + 1
  | .map entries => uptoBulkEntries entries + 1
  | .held _ => 1
def uptoBulkAll {H : Type} : List (DataW H) → Nat
  | [] => 0
  | d :: r => uptoBulk d + uptoBulkAll r
def uptoBulkEntries {H : Type} : List (Lit × DataW H) → Nat
  | [] => 0
  | x :: r => uptoBulkEntry x + uptoBulkEntries r
def uptoBulkEntry {H : Type} : Lit × DataW H → Nat
  | (.string bytes, d) => bytes.length + uptoBulk d + 1
  | (_, d) => uptoBulk d + 1
 end
def uptoSmall : (H : Type) → List (DataW H) → Bool := fun _ ds => decide (uptoBulkAll ds ≤ 1048576)
def OpenSpec.upto (s : _root_.Go.ChangeSpec) : _root_.Go.OpenSpec := { _root_.Go.OpenSpec.ofChange s with cond := some uptoSmall }

/-- 'laws.FnExactWholeOf', WHERE WHAT IT READS IS OF BULK AT MOST 1048576: true; the input reads as it did. -/
def fnExactWholeOfUptoRow : OpenClaim := { program := "ytmjejnhbmhehdaa", sum := "ed595d2605198f1b2bfabc518f49e0a58710b32ad31e5cd01eb2fef80459a6f4", func := "loop.example/g00481/laws.FnExactWholeOf", spec := "fnExactWholeOf", apart := false, narrowed := true }
def FnExactWholeOfUptoSaid : Prop := fnExactWholeOfUptoRow.holds Try.pinned (OpenSpec.upto fnExactWholeOfSpec)

/-- 'laws.FnExactWholeNeg', WHERE WHAT IT READS IS OF BULK AT MOST 1048576: true; the input reads as it did. -/
def fnExactWholeNegUptoRow : OpenClaim := { program := "ytmjejnhbmhehdaa", sum := "ed595d2605198f1b2bfabc518f49e0a58710b32ad31e5cd01eb2fef80459a6f4", func := "loop.example/g00481/laws.FnExactWholeNeg", spec := "fnExactWholeNeg", apart := false, narrowed := true }
def FnExactWholeNegUptoSaid : Prop := fnExactWholeNegUptoRow.holds Try.pinned (OpenSpec.upto fnExactWholeNegSpec)

/-- 'laws.FnExactWholeAdd', WHERE WHAT IT READS IS OF BULK AT MOST 1048576: true; the input reads as it did. -/
def fnExactWholeAddUptoRow : OpenClaim := { program := "ytmjejnhbmhehdaa", sum := "ed595d2605198f1b2bfabc518f49e0a58710b32ad31e5cd01eb2fef80459a6f4", func := "loop.example/g00481/laws.FnExactWholeAdd", spec := "fnExactWholeAdd", apart := false, narrowed := true }
def FnExactWholeAddUptoSaid : Prop := fnExactWholeAddUptoRow.holds Try.pinned (OpenSpec.upto fnExactWholeAddSpec)

/-- 'laws.FnExactWholeSub', WHERE WHAT IT READS IS OF BULK AT MOST 1048576: true; the input reads as it did. -/
def fnExactWholeSubUptoRow : OpenClaim := { program := "ytmjejnhbmhehdaa", sum := "ed595d2605198f1b2bfabc518f49e0a58710b32ad31e5cd01eb2fef80459a6f4", func := "loop.example/g00481/laws.FnExactWholeSub", spec := "fnExactWholeSub", apart := false, narrowed := true }
def FnExactWholeSubUptoSaid : Prop := fnExactWholeSubUptoRow.holds Try.pinned (OpenSpec.upto fnExactWholeSubSpec)

/-- 'laws.FnExactWholeMul', WHERE WHAT IT READS IS OF BULK AT MOST 1048576: true; the input reads as it did. -/
def fnExactWholeMulUptoRow : OpenClaim := { program := "ytmjejnhbmhehdaa", sum := "ed595d2605198f1b2bfabc518f49e0a58710b32ad31e5cd01eb2fef80459a6f4", func := "loop.example/g00481/laws.FnExactWholeMul", spec := "fnExactWholeMul", apart := false, narrowed := true }
def FnExactWholeMulUptoSaid : Prop := fnExactWholeMulUptoRow.holds Try.pinned (OpenSpec.upto fnExactWholeMulSpec)

/-- 'laws.FnExactWholeShift', WHERE WHAT IT READS IS OF BULK AT MOST 1048576: true; the input reads as it did. -/
def fnExactWholeShiftUptoRow : OpenClaim := { program := "ytmjejnhbmhehdaa", sum := "ed595d2605198f1b2bfabc518f49e0a58710b32ad31e5cd01eb2fef80459a6f4", func := "loop.example/g00481/laws.FnExactWholeShift", spec := "fnExactWholeShift", apart := false, narrowed := true }
def FnExactWholeShiftUptoSaid : Prop := fnExactWholeShiftUptoRow.holds Try.pinned (OpenSpec.upto fnExactWholeShiftSpec)

/-- 'laws.FnExactRoundFrac', WHERE WHAT IT READS IS OF BULK AT MOST 1048576: true; the input reads as it did. -/
def fnExactRoundFracUptoRow : OpenClaim := { program := "ytmjejnhbmhehdaa", sum := "ed595d2605198f1b2bfabc518f49e0a58710b32ad31e5cd01eb2fef80459a6f4", func := "loop.example/g00481/laws.FnExactRoundFrac", spec := "fnExactRoundFrac", apart := false, narrowed := true }
def FnExactRoundFracUptoSaid : Prop := fnExactRoundFracUptoRow.holds Try.pinned (OpenSpec.upto fnExactRoundFracSpec)

/-- 'laws.FnExactRoundAt', WHERE WHAT IT READS IS OF BULK AT MOST 1048576: true; the input reads as it did. -/
def fnExactRoundAtUptoRow : OpenClaim := { program := "ytmjejnhbmhehdaa", sum := "ed595d2605198f1b2bfabc518f49e0a58710b32ad31e5cd01eb2fef80459a6f4", func := "loop.example/g00481/laws.FnExactRoundAt", spec := "fnExactRoundAt", apart := false, narrowed := true }
def FnExactRoundAtUptoSaid : Prop := fnExactRoundAtUptoRow.holds Try.pinned (OpenSpec.upto fnExactRoundAtSpec)

/-- 'laws.FnExactRoundRoot', WHERE WHAT IT READS IS OF BULK AT MOST 1048576: true; the input reads as it did. -/
def fnExactRoundRootUptoRow : OpenClaim := { program := "ytmjejnhbmhehdaa", sum := "ed595d2605198f1b2bfabc518f49e0a58710b32ad31e5cd01eb2fef80459a6f4", func := "loop.example/g00481/laws.FnExactRoundRoot", spec := "fnExactRoundRoot", apart := false, narrowed := true }
def FnExactRoundRootUptoSaid : Prop := fnExactRoundRootUptoRow.holds Try.pinned (OpenSpec.upto fnExactRoundRootSpec)

end Rows
end Go.Proofs.Ytmjejnhbmhehdaa
