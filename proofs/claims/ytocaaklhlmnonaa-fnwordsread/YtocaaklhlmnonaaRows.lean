/-
  No cell of these rows narrows 'for every input' (looked for: loops, veiled, ifaces, maps, wideKeys, modest, calm, conditions, laid).
  DERIVED. THE GIVEN ROWS OF THIS SEAT. 11 by the template 'for every input the law returns true; each argument reads behind the call as it read before'; 0 by the template 'total and deterministic' (their statements: YtocaaklhlmnonaaTotals.lean).
  GIVEN WITH THE SEED: the statements are not yours to turn. If you find one false, say at which input.
  Laid BY PROGRAM, IN A SANDBOX (cutbox-rows.mjs): the forced cells as the released guide's own fill.sh prints them over the translation ee517b9775fde45d… (all of the seat's roots in one cut). By AI agents, Wed Nov 11 2026. No macro, syntax, notation, axiom, sorry.
-/
import Derived.Test.YtocaaklhlmnonaaChecked
import GoSem.Claim
import GoSem.ClaimJoined
import GoSem.ClaimMapViews
import Derived.JoinedTies
import Derived.KernelRfl
namespace Go.Proofs.Ytocaaklhlmnonaa
/- THE CELL 'sum', in the pinned program and in every row, IS THE sha256 OF THE DUMP (.gsa) THAT YtocaaklhlmnonaaProg.lean LOADS. Nothing in Lean hashes anything: it is a label: what it is worth is what the hold of that sum in a sandbox is worth. -/
noncomputable def Try.pinned : Pinned := { name := "ytocaaklhlmnonaa", sum := "ee517b9775fde45d054da43e146f8e7a9d353fe86ddabcb78fe97205ab0f4a54", checked := Try.checked }
namespace Rows
def none {H : Type} : Left H := { results := [], args := [] }

/-- 'laws.FnExactStatusText': WHATEVER THE INPUT: true; the input reads as it did. -/
def fnExactStatusTextSpec : ChangeSpec := { name := "fnExactStatusText", fn := fun _ => fun
  | [d] => { results := [.lit (.bool true)], args := [d] }
  | _ => none }
def fnExactStatusTextRow : OpenClaim := { program := "ytocaaklhlmnonaa", sum := "ee517b9775fde45d054da43e146f8e7a9d353fe86ddabcb78fe97205ab0f4a54", func := "loop.example/g00481/laws.FnExactStatusText", spec := "fnExactStatusText", apart := false }
def FnExactStatusTextSaid : Prop := fnExactStatusTextRow.holds Try.pinned (OpenSpec.ofChange fnExactStatusTextSpec)

/-- ITS FALSE NEIGHBOUR: 'it returns false'. Refute it at one input. -/
def fnExactStatusTextWrong : ChangeSpec := { name := "fnExactStatusText", fn := fun _ => fun
  | [d] => { results := [.lit (.bool false)], args := [d] }
  | _ => none }
def FnExactStatusTextWrongFalsely : Prop := fnExactStatusTextRow.holds Try.pinned (OpenSpec.ofChange fnExactStatusTextWrong)

/-- 'laws.FnExactAdler': WHATEVER THE INPUT: true; the input reads as it did. -/
def fnExactAdlerSpec : ChangeSpec := { name := "fnExactAdler", fn := fun _ => fun
  | [d] => { results := [.lit (.bool true)], args := [d] }
  | _ => none }
def fnExactAdlerRow : OpenClaim := { program := "ytocaaklhlmnonaa", sum := "ee517b9775fde45d054da43e146f8e7a9d353fe86ddabcb78fe97205ab0f4a54", func := "loop.example/g00481/laws.FnExactAdler", spec := "fnExactAdler", apart := false }
def FnExactAdlerSaid : Prop := fnExactAdlerRow.holds Try.pinned (OpenSpec.ofChange fnExactAdlerSpec)

/-- ITS FALSE NEIGHBOUR: 'it returns false'. Refute it at one input. -/
def fnExactAdlerWrong : ChangeSpec := { name := "fnExactAdler", fn := fun _ => fun
  | [d] => { results := [.lit (.bool false)], args := [d] }
  | _ => none }
def FnExactAdlerWrongFalsely : Prop := fnExactAdlerRow.holds Try.pinned (OpenSpec.ofChange fnExactAdlerWrong)

/-- 'laws.FnExactModeOf': WHATEVER THE INPUT: true; the input reads as it did. -/
def fnExactModeOfSpec : ChangeSpec := { name := "fnExactModeOf", fn := fun _ => fun
  | [d] => { results := [.lit (.bool true)], args := [d] }
  | _ => none }
def fnExactModeOfRow : OpenClaim := { program := "ytocaaklhlmnonaa", sum := "ee517b9775fde45d054da43e146f8e7a9d353fe86ddabcb78fe97205ab0f4a54", func := "loop.example/g00481/laws.FnExactModeOf", spec := "fnExactModeOf", apart := false }
def FnExactModeOfSaid : Prop := fnExactModeOfRow.holds Try.pinned (OpenSpec.ofChange fnExactModeOfSpec)

/-- ITS FALSE NEIGHBOUR: 'it returns false'. Refute it at one input. -/
def fnExactModeOfWrong : ChangeSpec := { name := "fnExactModeOf", fn := fun _ => fun
  | [d] => { results := [.lit (.bool false)], args := [d] }
  | _ => none }
def FnExactModeOfWrongFalsely : Prop := fnExactModeOfRow.holds Try.pinned (OpenSpec.ofChange fnExactModeOfWrong)

/-- 'laws.FnExactPolicyOf': WHATEVER THE INPUT: true; the input reads as it did. -/
def fnExactPolicyOfSpec : ChangeSpec := { name := "fnExactPolicyOf", fn := fun _ => fun
  | [d] => { results := [.lit (.bool true)], args := [d] }
  | _ => none }
def fnExactPolicyOfRow : OpenClaim := { program := "ytocaaklhlmnonaa", sum := "ee517b9775fde45d054da43e146f8e7a9d353fe86ddabcb78fe97205ab0f4a54", func := "loop.example/g00481/laws.FnExactPolicyOf", spec := "fnExactPolicyOf", apart := false }
def FnExactPolicyOfSaid : Prop := fnExactPolicyOfRow.holds Try.pinned (OpenSpec.ofChange fnExactPolicyOfSpec)

/-- ITS FALSE NEIGHBOUR: 'it returns false'. Refute it at one input. -/
def fnExactPolicyOfWrong : ChangeSpec := { name := "fnExactPolicyOf", fn := fun _ => fun
  | [d] => { results := [.lit (.bool false)], args := [d] }
  | _ => none }
def FnExactPolicyOfWrongFalsely : Prop := fnExactPolicyOfRow.holds Try.pinned (OpenSpec.ofChange fnExactPolicyOfWrong)

/-- 'laws.FnExactAnswerSame': WHATEVER THE INPUT: true; the input reads as it did. -/
def fnExactAnswerSameSpec : ChangeSpec := { name := "fnExactAnswerSame", fn := fun _ => fun
  | [d1, d2] => { results := [.lit (.bool true)], args := [d1, d2] }
  | _ => none }
def fnExactAnswerSameRow : OpenClaim := { program := "ytocaaklhlmnonaa", sum := "ee517b9775fde45d054da43e146f8e7a9d353fe86ddabcb78fe97205ab0f4a54", func := "loop.example/g00481/laws.FnExactAnswerSame", spec := "fnExactAnswerSame", apart := false }
def FnExactAnswerSameSaid : Prop := fnExactAnswerSameRow.holds Try.pinned (OpenSpec.ofChange fnExactAnswerSameSpec)

/-- ITS FALSE NEIGHBOUR: 'it returns false'. Refute it at one input. -/
def fnExactAnswerSameWrong : ChangeSpec := { name := "fnExactAnswerSame", fn := fun _ => fun
  | [d1, d2] => { results := [.lit (.bool false)], args := [d1, d2] }
  | _ => none }
def FnExactAnswerSameWrongFalsely : Prop := fnExactAnswerSameRow.holds Try.pinned (OpenSpec.ofChange fnExactAnswerSameWrong)

/-- 'laws.FnExactEngineOk': WHATEVER THE INPUT: true; the input reads as it did. -/
def fnExactEngineOkSpec : ChangeSpec := { name := "fnExactEngineOk", fn := fun _ => fun
  | [d] => { results := [.lit (.bool true)], args := [d] }
  | _ => none }
def fnExactEngineOkRow : OpenClaim := { program := "ytocaaklhlmnonaa", sum := "ee517b9775fde45d054da43e146f8e7a9d353fe86ddabcb78fe97205ab0f4a54", func := "loop.example/g00481/laws.FnExactEngineOk", spec := "fnExactEngineOk", apart := false }
def FnExactEngineOkSaid : Prop := fnExactEngineOkRow.holds Try.pinned (OpenSpec.ofChange fnExactEngineOkSpec)

/-- ITS FALSE NEIGHBOUR: 'it returns false'. Refute it at one input. -/
def fnExactEngineOkWrong : ChangeSpec := { name := "fnExactEngineOk", fn := fun _ => fun
  | [d] => { results := [.lit (.bool false)], args := [d] }
  | _ => none }
def FnExactEngineOkWrongFalsely : Prop := fnExactEngineOkRow.holds Try.pinned (OpenSpec.ofChange fnExactEngineOkWrong)

/-- 'laws.FnExactRomSame': WHATEVER THE INPUT: true; the input reads as it did. -/
def fnExactRomSameSpec : ChangeSpec := { name := "fnExactRomSame", fn := fun _ => fun
  | [d1, d2] => { results := [.lit (.bool true)], args := [d1, d2] }
  | _ => none }
def fnExactRomSameRow : OpenClaim := { program := "ytocaaklhlmnonaa", sum := "ee517b9775fde45d054da43e146f8e7a9d353fe86ddabcb78fe97205ab0f4a54", func := "loop.example/g00481/laws.FnExactRomSame", spec := "fnExactRomSame", unfollowed := true, recurses := true, apart := false }
def FnExactRomSameSaid : Prop := fnExactRomSameRow.holds Try.pinned (OpenSpec.ofChange fnExactRomSameSpec)

/-- ITS FALSE NEIGHBOUR: 'it returns false'. Refute it at one input. -/
def fnExactRomSameWrong : ChangeSpec := { name := "fnExactRomSame", fn := fun _ => fun
  | [d1, d2] => { results := [.lit (.bool false)], args := [d1, d2] }
  | _ => none }
def FnExactRomSameWrongFalsely : Prop := fnExactRomSameRow.holds Try.pinned (OpenSpec.ofChange fnExactRomSameWrong)

/-- 'laws.FnExactFunOf': WHATEVER THE INPUT: true; the input reads as it did. -/
def fnExactFunOfSpec : ChangeSpec := { name := "fnExactFunOf", fn := fun _ => fun
  | [d] => { results := [.lit (.bool true)], args := [d] }
  | _ => none }
def fnExactFunOfRow : OpenClaim := { program := "ytocaaklhlmnonaa", sum := "ee517b9775fde45d054da43e146f8e7a9d353fe86ddabcb78fe97205ab0f4a54", func := "loop.example/g00481/laws.FnExactFunOf", spec := "fnExactFunOf", apart := false }
def FnExactFunOfSaid : Prop := fnExactFunOfRow.holds Try.pinned (OpenSpec.ofChange fnExactFunOfSpec)

/-- ITS FALSE NEIGHBOUR: 'it returns false'. Refute it at one input. -/
def fnExactFunOfWrong : ChangeSpec := { name := "fnExactFunOf", fn := fun _ => fun
  | [d] => { results := [.lit (.bool false)], args := [d] }
  | _ => none }
def FnExactFunOfWrongFalsely : Prop := fnExactFunOfRow.holds Try.pinned (OpenSpec.ofChange fnExactFunOfWrong)

/-- 'laws.FnExactFunText': WHATEVER THE INPUT: true; the input reads as it did. -/
def fnExactFunTextSpec : ChangeSpec := { name := "fnExactFunText", fn := fun _ => fun
  | [d] => { results := [.lit (.bool true)], args := [d] }
  | _ => none }
def fnExactFunTextRow : OpenClaim := { program := "ytocaaklhlmnonaa", sum := "ee517b9775fde45d054da43e146f8e7a9d353fe86ddabcb78fe97205ab0f4a54", func := "loop.example/g00481/laws.FnExactFunText", spec := "fnExactFunText", apart := false }
def FnExactFunTextSaid : Prop := fnExactFunTextRow.holds Try.pinned (OpenSpec.ofChange fnExactFunTextSpec)

/-- ITS FALSE NEIGHBOUR: 'it returns false'. Refute it at one input. -/
def fnExactFunTextWrong : ChangeSpec := { name := "fnExactFunText", fn := fun _ => fun
  | [d] => { results := [.lit (.bool false)], args := [d] }
  | _ => none }
def FnExactFunTextWrongFalsely : Prop := fnExactFunTextRow.holds Try.pinned (OpenSpec.ofChange fnExactFunTextWrong)

/-- 'laws.FnExactTakes': WHATEVER THE INPUT: true; the input reads as it did. -/
def fnExactTakesSpec : ChangeSpec := { name := "fnExactTakes", fn := fun _ => fun
  | [d] => { results := [.lit (.bool true)], args := [d] }
  | _ => none }
def fnExactTakesRow : OpenClaim := { program := "ytocaaklhlmnonaa", sum := "ee517b9775fde45d054da43e146f8e7a9d353fe86ddabcb78fe97205ab0f4a54", func := "loop.example/g00481/laws.FnExactTakes", spec := "fnExactTakes", apart := false }
def FnExactTakesSaid : Prop := fnExactTakesRow.holds Try.pinned (OpenSpec.ofChange fnExactTakesSpec)

/-- ITS FALSE NEIGHBOUR: 'it returns false'. Refute it at one input. -/
def fnExactTakesWrong : ChangeSpec := { name := "fnExactTakes", fn := fun _ => fun
  | [d] => { results := [.lit (.bool false)], args := [d] }
  | _ => none }
def FnExactTakesWrongFalsely : Prop := fnExactTakesRow.holds Try.pinned (OpenSpec.ofChange fnExactTakesWrong)

/-- 'laws.FnWordsRead': WHATEVER THE INPUT: true; the input reads as it did. -/
def fnWordsReadSpec : ChangeSpec := { name := "fnWordsRead", fn := fun _ => fun
  | [d] => { results := [.lit (.bool true)], args := [d] }
  | _ => none }
def fnWordsReadRow : OpenClaim := { program := "ytocaaklhlmnonaa", sum := "ee517b9775fde45d054da43e146f8e7a9d353fe86ddabcb78fe97205ab0f4a54", func := "loop.example/g00481/laws.FnWordsRead", spec := "fnWordsRead", apart := false }
def FnWordsReadSaid : Prop := fnWordsReadRow.holds Try.pinned (OpenSpec.ofChange fnWordsReadSpec)

/-- ITS FALSE NEIGHBOUR: 'it returns false'. Refute it at one input. -/
def fnWordsReadWrong : ChangeSpec := { name := "fnWordsRead", fn := fun _ => fun
  | [d] => { results := [.lit (.bool false)], args := [d] }
  | _ => none }
def FnWordsReadWrongFalsely : Prop := fnWordsReadRow.holds Try.pinned (OpenSpec.ofChange fnWordsReadWrong)

/- THE SECOND FORM. 'bulk': how many values and letters a reading holds, each counted each time it is reached (what is shared counts as often as it is met; a slice's spare places count too). A statement '..UptoSaid' is the law's where the arguments, and the package variables that the reading takes, are together of bulk at most 1048576: NARROWER than '..Said'. Prove '..Said' where nothing that the law and all that it calls make is longer than what came in: it says more and counts as full. Else prove '..UptoSaid'. A law counts once. -/
mutual
def uptoBulk {H : Type} : DataW H → Nat
  | .lit (.string bytes) => bytes.length + 1
  | .lit _ => 1
  | .nil => 1
  | .ptr d => uptoBulk d + 1
  | .slice elems spare => uptoBulkAll elems + uptoBulkAll spare + 1
  | .agg parts => uptoBulkAll parts + 1
  | .iface _ d => uptoBulk d + 1
  | .map entries => uptoBulkEntries entries + 1
  | .held _ => 1
def uptoBulkAll {H : Type} : List (DataW H) → Nat
  | [] => 0
  | d :: r => uptoBulk d + uptoBulkAll r
def uptoBulkEntries {H : Type} : List (Lit × DataW H) → Nat
  | [] => 0
  | x :: r => uptoBulkEntry x + uptoBulkEntries r
def uptoBulkEntry {H : Type} : Lit × DataW H → Nat
  | (.string bytes, d) => bytes.length + uptoBulk d + 1
  | (_, d) => uptoBulk d + 1
 end
def uptoSmall : (H : Type) → List (DataW H) → Bool := fun _ ds => decide (uptoBulkAll ds ≤ 1048576)
def OpenSpec.upto (s : _root_.Go.ChangeSpec) : _root_.Go.OpenSpec := { _root_.Go.OpenSpec.ofChange s with cond := some uptoSmall }

/-- 'laws.FnExactStatusText', WHERE WHAT IT READS IS OF BULK AT MOST 1048576: true; the input reads as it did. -/
def fnExactStatusTextUptoRow : OpenClaim := { program := "ytocaaklhlmnonaa", sum := "ee517b9775fde45d054da43e146f8e7a9d353fe86ddabcb78fe97205ab0f4a54", func := "loop.example/g00481/laws.FnExactStatusText", spec := "fnExactStatusText", apart := false, narrowed := true }
def FnExactStatusTextUptoSaid : Prop := fnExactStatusTextUptoRow.holds Try.pinned (OpenSpec.upto fnExactStatusTextSpec)

/-- 'laws.FnExactAdler', WHERE WHAT IT READS IS OF BULK AT MOST 1048576: true; the input reads as it did. -/
def fnExactAdlerUptoRow : OpenClaim := { program := "ytocaaklhlmnonaa", sum := "ee517b9775fde45d054da43e146f8e7a9d353fe86ddabcb78fe97205ab0f4a54", func := "loop.example/g00481/laws.FnExactAdler", spec := "fnExactAdler", apart := false, narrowed := true }
def FnExactAdlerUptoSaid : Prop := fnExactAdlerUptoRow.holds Try.pinned (OpenSpec.upto fnExactAdlerSpec)

/-- 'laws.FnExactModeOf', WHERE WHAT IT READS IS OF BULK AT MOST 1048576: true; the input reads as it did. -/
def fnExactModeOfUptoRow : OpenClaim := { program := "ytocaaklhlmnonaa", sum := "ee517b9775fde45d054da43e146f8e7a9d353fe86ddabcb78fe97205ab0f4a54", func := "loop.example/g00481/laws.FnExactModeOf", spec := "fnExactModeOf", apart := false, narrowed := true }
def FnExactModeOfUptoSaid : Prop := fnExactModeOfUptoRow.holds Try.pinned (OpenSpec.upto fnExactModeOfSpec)

/-- 'laws.FnExactPolicyOf', WHERE WHAT IT READS IS OF BULK AT MOST 1048576: true; the input reads as it did. -/
def fnExactPolicyOfUptoRow : OpenClaim := { program := "ytocaaklhlmnonaa", sum := "ee517b9775fde45d054da43e146f8e7a9d353fe86ddabcb78fe97205ab0f4a54", func := "loop.example/g00481/laws.FnExactPolicyOf", spec := "fnExactPolicyOf", apart := false, narrowed := true }
def FnExactPolicyOfUptoSaid : Prop := fnExactPolicyOfUptoRow.holds Try.pinned (OpenSpec.upto fnExactPolicyOfSpec)

/-- 'laws.FnExactAnswerSame', WHERE WHAT IT READS IS OF BULK AT MOST 1048576: true; the input reads as it did. -/
def fnExactAnswerSameUptoRow : OpenClaim := { program := "ytocaaklhlmnonaa", sum := "ee517b9775fde45d054da43e146f8e7a9d353fe86ddabcb78fe97205ab0f4a54", func := "loop.example/g00481/laws.FnExactAnswerSame", spec := "fnExactAnswerSame", apart := false, narrowed := true }
def FnExactAnswerSameUptoSaid : Prop := fnExactAnswerSameUptoRow.holds Try.pinned (OpenSpec.upto fnExactAnswerSameSpec)

/-- 'laws.FnExactEngineOk', WHERE WHAT IT READS IS OF BULK AT MOST 1048576: true; the input reads as it did. -/
def fnExactEngineOkUptoRow : OpenClaim := { program := "ytocaaklhlmnonaa", sum := "ee517b9775fde45d054da43e146f8e7a9d353fe86ddabcb78fe97205ab0f4a54", func := "loop.example/g00481/laws.FnExactEngineOk", spec := "fnExactEngineOk", apart := false, narrowed := true }
def FnExactEngineOkUptoSaid : Prop := fnExactEngineOkUptoRow.holds Try.pinned (OpenSpec.upto fnExactEngineOkSpec)

/-- 'laws.FnExactRomSame', WHERE WHAT IT READS IS OF BULK AT MOST 1048576: true; the input reads as it did. -/
def fnExactRomSameUptoRow : OpenClaim := { program := "ytocaaklhlmnonaa", sum := "ee517b9775fde45d054da43e146f8e7a9d353fe86ddabcb78fe97205ab0f4a54", func := "loop.example/g00481/laws.FnExactRomSame", spec := "fnExactRomSame", unfollowed := true, recurses := true, apart := false, narrowed := true }
def FnExactRomSameUptoSaid : Prop := fnExactRomSameUptoRow.holds Try.pinned (OpenSpec.upto fnExactRomSameSpec)

/-- 'laws.FnExactFunOf', WHERE WHAT IT READS IS OF BULK AT MOST 1048576: true; the input reads as it did. -/
def fnExactFunOfUptoRow : OpenClaim := { program := "ytocaaklhlmnonaa", sum := "ee517b9775fde45d054da43e146f8e7a9d353fe86ddabcb78fe97205ab0f4a54", func := "loop.example/g00481/laws.FnExactFunOf", spec := "fnExactFunOf", apart := false, narrowed := true }
def FnExactFunOfUptoSaid : Prop := fnExactFunOfUptoRow.holds Try.pinned (OpenSpec.upto fnExactFunOfSpec)

/-- 'laws.FnExactFunText', WHERE WHAT IT READS IS OF BULK AT MOST 1048576: true; the input reads as it did. -/
def fnExactFunTextUptoRow : OpenClaim := { program := "ytocaaklhlmnonaa", sum := "ee517b9775fde45d054da43e146f8e7a9d353fe86ddabcb78fe97205ab0f4a54", func := "loop.example/g00481/laws.FnExactFunText", spec := "fnExactFunText", apart := false, narrowed := true }
def FnExactFunTextUptoSaid : Prop := fnExactFunTextUptoRow.holds Try.pinned (OpenSpec.upto fnExactFunTextSpec)

/-- 'laws.FnExactTakes', WHERE WHAT IT READS IS OF BULK AT MOST 1048576: true; the input reads as it did. -/
def fnExactTakesUptoRow : OpenClaim := { program := "ytocaaklhlmnonaa", sum := "ee517b9775fde45d054da43e146f8e7a9d353fe86ddabcb78fe97205ab0f4a54", func := "loop.example/g00481/laws.FnExactTakes", spec := "fnExactTakes", apart := false, narrowed := true }
def FnExactTakesUptoSaid : Prop := fnExactTakesUptoRow.holds Try.pinned (OpenSpec.upto fnExactTakesSpec)

/-- 'laws.FnWordsRead', WHERE WHAT IT READS IS OF BULK AT MOST 1048576: true; the input reads as it did. -/
def fnWordsReadUptoRow : OpenClaim := { program := "ytocaaklhlmnonaa", sum := "ee517b9775fde45d054da43e146f8e7a9d353fe86ddabcb78fe97205ab0f4a54", func := "loop.example/g00481/laws.FnWordsRead", spec := "fnWordsRead", apart := false, narrowed := true }
def FnWordsReadUptoSaid : Prop := fnWordsReadUptoRow.holds Try.pinned (OpenSpec.upto fnWordsReadSpec)

end Rows
end Go.Proofs.Ytocaaklhlmnonaa
