/-
  No cell of these rows narrows 'for every input' (looked for: loops, veiled, ifaces, maps, wideKeys, modest, calm, conditions, laid).
  DERIVED. THE GIVEN ROWS OF THIS SEAT. 9 by the template 'for every input the law returns true; each argument reads behind the call as it read before'; 0 by the template 'total and deterministic' (their statements: YtpmolhpllfognaaTotals.lean).
  GIVEN WITH THE SEED: the statements are not yours to turn. If you find one false, say at which input.
  Laid BY PROGRAM, IN A SANDBOX (cutbox-rows.mjs): the forced cells as the released guide's own fill.sh prints them over the translation d69fa5b30a99d7da… (all of the seat's roots in one cut). By AI agents, Wed Nov 11 2026. No macro, syntax, notation, axiom, sorry.
-/
import Derived.Test.YtpmolhpllfognaaChecked
import GoSem.Claim
import GoSem.ClaimJoined
import GoSem.ClaimMapViews
import Derived.JoinedTies
import Derived.KernelRfl
namespace Go.Proofs.Ytpmolhpllfognaa
/- THE CELL 'sum', in the pinned program and in every row, IS THE sha256 OF THE DUMP (.gsa) THAT YtpmolhpllfognaaProg.lean LOADS. Nothing in Lean hashes anything: it is a label: what it is worth is what the hold of that sum in a sandbox is worth. -/
noncomputable def Try.pinned : Pinned := { name := "ytpmolhpllfognaa", sum := "d69fa5b30a99d7da33217f1571cfa7d5d42b79c0b293083ec5cdfc01f03f856d", checked := Try.checked }
namespace Rows
def none {H : Type} : Left H := { results := [], args := [] }

/-- 'laws.FnExactIvOk': WHATEVER THE INPUT: true; the input reads as it did. -/
def fnExactIvOkSpec : ChangeSpec := { name := "fnExactIvOk", fn := fun _ => fun
  | [d] => { results := [.lit (.bool true)], args := [d] }
  | _ => none }
def fnExactIvOkRow : OpenClaim := { program := "ytpmolhpllfognaa", sum := "d69fa5b30a99d7da33217f1571cfa7d5d42b79c0b293083ec5cdfc01f03f856d", func := "loop.example/g00481/laws.FnExactIvOk", spec := "fnExactIvOk", unfollowed := true, recurses := true, apart := false }
def FnExactIvOkSaid : Prop := fnExactIvOkRow.holds Try.pinned (OpenSpec.ofChange fnExactIvOkSpec)

/-- ITS FALSE NEIGHBOUR: 'it returns false'. Refute it at one input. -/
def fnExactIvOkWrong : ChangeSpec := { name := "fnExactIvOk", fn := fun _ => fun
  | [d] => { results := [.lit (.bool false)], args := [d] }
  | _ => none }
def FnExactIvOkWrongFalsely : Prop := fnExactIvOkRow.holds Try.pinned (OpenSpec.ofChange fnExactIvOkWrong)

/-- 'laws.FnExactIvOf': WHATEVER THE INPUT: true; the input reads as it did. -/
def fnExactIvOfSpec : ChangeSpec := { name := "fnExactIvOf", fn := fun _ => fun
  | [d] => { results := [.lit (.bool true)], args := [d] }
  | _ => none }
def fnExactIvOfRow : OpenClaim := { program := "ytpmolhpllfognaa", sum := "d69fa5b30a99d7da33217f1571cfa7d5d42b79c0b293083ec5cdfc01f03f856d", func := "loop.example/g00481/laws.FnExactIvOf", spec := "fnExactIvOf", apart := false }
def FnExactIvOfSaid : Prop := fnExactIvOfRow.holds Try.pinned (OpenSpec.ofChange fnExactIvOfSpec)

/-- ITS FALSE NEIGHBOUR: 'it returns false'. Refute it at one input. -/
def fnExactIvOfWrong : ChangeSpec := { name := "fnExactIvOf", fn := fun _ => fun
  | [d] => { results := [.lit (.bool false)], args := [d] }
  | _ => none }
def FnExactIvOfWrongFalsely : Prop := fnExactIvOfRow.holds Try.pinned (OpenSpec.ofChange fnExactIvOfWrong)

/-- 'laws.FnExactIvAdd': WHATEVER THE INPUT: true; the input reads as it did. -/
def fnExactIvAddSpec : ChangeSpec := { name := "fnExactIvAdd", fn := fun _ => fun
  | [d1, d2] => { results := [.lit (.bool true)], args := [d1, d2] }
  | _ => none }
def fnExactIvAddRow : OpenClaim := { program := "ytpmolhpllfognaa", sum := "d69fa5b30a99d7da33217f1571cfa7d5d42b79c0b293083ec5cdfc01f03f856d", func := "loop.example/g00481/laws.FnExactIvAdd", spec := "fnExactIvAdd", unfollowed := true, recurses := true, apart := false }
def FnExactIvAddSaid : Prop := fnExactIvAddRow.holds Try.pinned (OpenSpec.ofChange fnExactIvAddSpec)

/-- ITS FALSE NEIGHBOUR: 'it returns false'. Refute it at one input. -/
def fnExactIvAddWrong : ChangeSpec := { name := "fnExactIvAdd", fn := fun _ => fun
  | [d1, d2] => { results := [.lit (.bool false)], args := [d1, d2] }
  | _ => none }
def FnExactIvAddWrongFalsely : Prop := fnExactIvAddRow.holds Try.pinned (OpenSpec.ofChange fnExactIvAddWrong)

/-- 'laws.FnExactIvSub': WHATEVER THE INPUT: true; the input reads as it did. -/
def fnExactIvSubSpec : ChangeSpec := { name := "fnExactIvSub", fn := fun _ => fun
  | [d1, d2] => { results := [.lit (.bool true)], args := [d1, d2] }
  | _ => none }
def fnExactIvSubRow : OpenClaim := { program := "ytpmolhpllfognaa", sum := "d69fa5b30a99d7da33217f1571cfa7d5d42b79c0b293083ec5cdfc01f03f856d", func := "loop.example/g00481/laws.FnExactIvSub", spec := "fnExactIvSub", unfollowed := true, recurses := true, apart := false }
def FnExactIvSubSaid : Prop := fnExactIvSubRow.holds Try.pinned (OpenSpec.ofChange fnExactIvSubSpec)

/-- ITS FALSE NEIGHBOUR: 'it returns false'. Refute it at one input. -/
def fnExactIvSubWrong : ChangeSpec := { name := "fnExactIvSub", fn := fun _ => fun
  | [d1, d2] => { results := [.lit (.bool false)], args := [d1, d2] }
  | _ => none }
def FnExactIvSubWrongFalsely : Prop := fnExactIvSubRow.holds Try.pinned (OpenSpec.ofChange fnExactIvSubWrong)

/-- 'laws.FnExactIvNeg': WHATEVER THE INPUT: true; the input reads as it did. -/
def fnExactIvNegSpec : ChangeSpec := { name := "fnExactIvNeg", fn := fun _ => fun
  | [d] => { results := [.lit (.bool true)], args := [d] }
  | _ => none }
def fnExactIvNegRow : OpenClaim := { program := "ytpmolhpllfognaa", sum := "d69fa5b30a99d7da33217f1571cfa7d5d42b79c0b293083ec5cdfc01f03f856d", func := "loop.example/g00481/laws.FnExactIvNeg", spec := "fnExactIvNeg", unfollowed := true, recurses := true, apart := false }
def FnExactIvNegSaid : Prop := fnExactIvNegRow.holds Try.pinned (OpenSpec.ofChange fnExactIvNegSpec)

/-- ITS FALSE NEIGHBOUR: 'it returns false'. Refute it at one input. -/
def fnExactIvNegWrong : ChangeSpec := { name := "fnExactIvNeg", fn := fun _ => fun
  | [d] => { results := [.lit (.bool false)], args := [d] }
  | _ => none }
def FnExactIvNegWrongFalsely : Prop := fnExactIvNegRow.holds Try.pinned (OpenSpec.ofChange fnExactIvNegWrong)

/-- 'laws.FnExactIvMeet': WHATEVER THE INPUT: true; the input reads as it did. -/
def fnExactIvMeetSpec : ChangeSpec := { name := "fnExactIvMeet", fn := fun _ => fun
  | [d1, d2] => { results := [.lit (.bool true)], args := [d1, d2] }
  | _ => none }
def fnExactIvMeetRow : OpenClaim := { program := "ytpmolhpllfognaa", sum := "d69fa5b30a99d7da33217f1571cfa7d5d42b79c0b293083ec5cdfc01f03f856d", func := "loop.example/g00481/laws.FnExactIvMeet", spec := "fnExactIvMeet", unfollowed := true, recurses := true, apart := false }
def FnExactIvMeetSaid : Prop := fnExactIvMeetRow.holds Try.pinned (OpenSpec.ofChange fnExactIvMeetSpec)

/-- ITS FALSE NEIGHBOUR: 'it returns false'. Refute it at one input. -/
def fnExactIvMeetWrong : ChangeSpec := { name := "fnExactIvMeet", fn := fun _ => fun
  | [d1, d2] => { results := [.lit (.bool false)], args := [d1, d2] }
  | _ => none }
def FnExactIvMeetWrongFalsely : Prop := fnExactIvMeetRow.holds Try.pinned (OpenSpec.ofChange fnExactIvMeetWrong)

/-- 'laws.FnExactIvIn': WHATEVER THE INPUT: true; the input reads as it did. -/
def fnExactIvInSpec : ChangeSpec := { name := "fnExactIvIn", fn := fun _ => fun
  | [d1, d2] => { results := [.lit (.bool true)], args := [d1, d2] }
  | _ => none }
def fnExactIvInRow : OpenClaim := { program := "ytpmolhpllfognaa", sum := "d69fa5b30a99d7da33217f1571cfa7d5d42b79c0b293083ec5cdfc01f03f856d", func := "loop.example/g00481/laws.FnExactIvIn", spec := "fnExactIvIn", unfollowed := true, recurses := true, apart := false }
def FnExactIvInSaid : Prop := fnExactIvInRow.holds Try.pinned (OpenSpec.ofChange fnExactIvInSpec)

/-- ITS FALSE NEIGHBOUR: 'it returns false'. Refute it at one input. -/
def fnExactIvInWrong : ChangeSpec := { name := "fnExactIvIn", fn := fun _ => fun
  | [d1, d2] => { results := [.lit (.bool false)], args := [d1, d2] }
  | _ => none }
def FnExactIvInWrongFalsely : Prop := fnExactIvInRow.holds Try.pinned (OpenSpec.ofChange fnExactIvInWrong)

/-- 'laws.FnExactIvWide': WHATEVER THE INPUT: true; the input reads as it did. -/
def fnExactIvWideSpec : ChangeSpec := { name := "fnExactIvWide", fn := fun _ => fun
  | [d1, d2] => { results := [.lit (.bool true)], args := [d1, d2] }
  | _ => none }
def fnExactIvWideRow : OpenClaim := { program := "ytpmolhpllfognaa", sum := "d69fa5b30a99d7da33217f1571cfa7d5d42b79c0b293083ec5cdfc01f03f856d", func := "loop.example/g00481/laws.FnExactIvWide", spec := "fnExactIvWide", unfollowed := true, recurses := true, apart := false }
def FnExactIvWideSaid : Prop := fnExactIvWideRow.holds Try.pinned (OpenSpec.ofChange fnExactIvWideSpec)

/-- ITS FALSE NEIGHBOUR: 'it returns false'. Refute it at one input. -/
def fnExactIvWideWrong : ChangeSpec := { name := "fnExactIvWide", fn := fun _ => fun
  | [d1, d2] => { results := [.lit (.bool false)], args := [d1, d2] }
  | _ => none }
def FnExactIvWideWrongFalsely : Prop := fnExactIvWideRow.holds Try.pinned (OpenSpec.ofChange fnExactIvWideWrong)

/-- 'laws.FnExactIvWidth': WHATEVER THE INPUT: true; the input reads as it did. -/
def fnExactIvWidthSpec : ChangeSpec := { name := "fnExactIvWidth", fn := fun _ => fun
  | [d] => { results := [.lit (.bool true)], args := [d] }
  | _ => none }
def fnExactIvWidthRow : OpenClaim := { program := "ytpmolhpllfognaa", sum := "d69fa5b30a99d7da33217f1571cfa7d5d42b79c0b293083ec5cdfc01f03f856d", func := "loop.example/g00481/laws.FnExactIvWidth", spec := "fnExactIvWidth", unfollowed := true, recurses := true, apart := false }
def FnExactIvWidthSaid : Prop := fnExactIvWidthRow.holds Try.pinned (OpenSpec.ofChange fnExactIvWidthSpec)

/-- ITS FALSE NEIGHBOUR: 'it returns false'. Refute it at one input. -/
def fnExactIvWidthWrong : ChangeSpec := { name := "fnExactIvWidth", fn := fun _ => fun
  | [d] => { results := [.lit (.bool false)], args := [d] }
  | _ => none }
def FnExactIvWidthWrongFalsely : Prop := fnExactIvWidthRow.holds Try.pinned (OpenSpec.ofChange fnExactIvWidthWrong)

/- THE SECOND FORM. 'bulk': how many values and letters a reading holds, each counted each time it is reached (what is shared counts as often as it is met; a slice's spare places count too). A statement '..UptoSaid' is the law's where the arguments, and the package variables that the reading takes, are together of bulk at most 1048576: NARROWER than '..Said'. Prove '..Said' where nothing that the law and all that it calls make is longer than what came in: it says more and counts as full. Else prove '..UptoSaid'. A law counts once. -/
mutual
def uptoBulk {H : Type} : DataW H → Nat
  | .lit (.string bytes) => bytes.length + 1
  | .lit _ => 1
  | .nil => 1
  | .ptr d => uptoBulk d + 1
  | .slice elems spare => uptoBulkAll elems + uptoBulkAll spare + 1
  | .agg parts => uptoBulkAll parts + 1
  | .iface _ d => uptoBulk d + 1
  | .map entries => uptoBulkEntries entries + 1
  | .held _ => 1
def uptoBulkAll {H : Type} : List (DataW H) → Nat
  | [] => 0
  | d :: r => uptoBulk d + uptoBulkAll r
def uptoBulkEntries {H : Type} : List (Lit × DataW H) → Nat
  | [] => 0
  | x :: r => uptoBulkEntry x + uptoBulkEntries r
def uptoBulkEntry {H : Type} : Lit × DataW H → Nat
  | (.string bytes, d) => bytes.length + uptoBulk d + 1
  | (_, d) => uptoBulk d + 1
 end
def uptoSmall : (H : Type) → List (DataW H) → Bool := fun _ ds => decide (uptoBulkAll ds ≤ 1048576)
def OpenSpec.upto (s : _root_.Go.ChangeSpec) : _root_.Go.OpenSpec := { _root_.Go.OpenSpec.ofChange s with cond := some uptoSmall }

/-- 'laws.FnExactIvOk', WHERE WHAT IT READS IS OF BULK AT MOST 1048576: true; the input reads as it did. -/
def fnExactIvOkUptoRow : OpenClaim := { program := "ytpmolhpllfognaa", sum := "d69fa5b30a99d7da33217f1571cfa7d5d42b79c0b293083ec5cdfc01f03f856d", func := "loop.example/g00481/laws.FnExactIvOk", spec := "fnExactIvOk", unfollowed := true, recurses := true, apart := false, narrowed := true }
def FnExactIvOkUptoSaid : Prop := fnExactIvOkUptoRow.holds Try.pinned (OpenSpec.upto fnExactIvOkSpec)

/-- 'laws.FnExactIvOf', WHERE WHAT IT READS IS OF BULK AT MOST 1048576: true; the input reads as it did. -/
def fnExactIvOfUptoRow : OpenClaim := { program := "ytpmolhpllfognaa", sum := "d69fa5b30a99d7da33217f1571cfa7d5d42b79c0b293083ec5cdfc01f03f856d", func := "loop.example/g00481/laws.FnExactIvOf", spec := "fnExactIvOf", apart := false, narrowed := true }
def FnExactIvOfUptoSaid : Prop := fnExactIvOfUptoRow.holds Try.pinned (OpenSpec.upto fnExactIvOfSpec)

/-- 'laws.FnExactIvAdd', WHERE WHAT IT READS IS OF BULK AT MOST 1048576: true; the input reads as it did. -/
def fnExactIvAddUptoRow : OpenClaim := { program := "ytpmolhpllfognaa", sum := "d69fa5b30a99d7da33217f1571cfa7d5d42b79c0b293083ec5cdfc01f03f856d", func := "loop.example/g00481/laws.FnExactIvAdd", spec := "fnExactIvAdd", unfollowed := true, recurses := true, apart := false, narrowed := true }
def FnExactIvAddUptoSaid : Prop := fnExactIvAddUptoRow.holds Try.pinned (OpenSpec.upto fnExactIvAddSpec)

/-- 'laws.FnExactIvSub', WHERE WHAT IT READS IS OF BULK AT MOST 1048576: true; the input reads as it did. -/
def fnExactIvSubUptoRow : OpenClaim := { program := "ytpmolhpllfognaa", sum := "d69fa5b30a99d7da33217f1571cfa7d5d42b79c0b293083ec5cdfc01f03f856d", func := "loop.example/g00481/laws.FnExactIvSub", spec := "fnExactIvSub", unfollowed := true, recurses := true, apart := false, narrowed := true }
def FnExactIvSubUptoSaid : Prop := fnExactIvSubUptoRow.holds Try.pinned (OpenSpec.upto fnExactIvSubSpec)

/-- 'laws.FnExactIvNeg', WHERE WHAT IT READS IS OF BULK AT MOST 1048576: true; the input reads as it did. -/
def fnExactIvNegUptoRow : OpenClaim := { program := "ytpmolhpllfognaa", sum := "d69fa5b30a99d7da33217f1571cfa7d5d42b79c0b293083ec5cdfc01f03f856d", func := "loop.example/g00481/laws.FnExactIvNeg", spec := "fnExactIvNeg", unfollowed := true, recurses := true, apart := false, narrowed := true }
def FnExactIvNegUptoSaid : Prop := fnExactIvNegUptoRow.holds Try.pinned (OpenSpec.upto fnExactIvNegSpec)

/-- 'laws.FnExactIvMeet', WHERE WHAT IT READS IS OF BULK AT MOST 1048576: true; the input reads as it did. -/
def fnExactIvMeetUptoRow : OpenClaim := { program := "ytpmolhpllfognaa", sum := "d69fa5b30a99d7da33217f1571cfa7d5d42b79c0b293083ec5cdfc01f03f856d", func := "loop.example/g00481/laws.FnExactIvMeet", spec := "fnExactIvMeet", unfollowed := true, recurses := true, apart := false, narrowed := true }
def FnExactIvMeetUptoSaid : Prop := fnExactIvMeetUptoRow.holds Try.pinned (OpenSpec.upto fnExactIvMeetSpec)

/-- 'laws.FnExactIvIn', WHERE WHAT IT READS IS OF BULK AT MOST 1048576: true; the input reads as it did. -/
def fnExactIvInUptoRow : OpenClaim := { program := "ytpmolhpllfognaa", sum := "d69fa5b30a99d7da33217f1571cfa7d5d42b79c0b293083ec5cdfc01f03f856d", func := "loop.example/g00481/laws.FnExactIvIn", spec := "fnExactIvIn", unfollowed := true, recurses := true, apart := false, narrowed := true }
def FnExactIvInUptoSaid : Prop := fnExactIvInUptoRow.holds Try.pinned (OpenSpec.upto fnExactIvInSpec)

/-- 'laws.FnExactIvWide', WHERE WHAT IT READS IS OF BULK AT MOST 1048576: true; the input reads as it did. -/
def fnExactIvWideUptoRow : OpenClaim := { program := "ytpmolhpllfognaa", sum := "d69fa5b30a99d7da33217f1571cfa7d5d42b79c0b293083ec5cdfc01f03f856d", func := "loop.example/g00481/laws.FnExactIvWide", spec := "fnExactIvWide", unfollowed := true, recurses := true, apart := false, narrowed := true }
def FnExactIvWideUptoSaid : Prop := fnExactIvWideUptoRow.holds Try.pinned (OpenSpec.upto fnExactIvWideSpec)

/-- 'laws.FnExactIvWidth', WHERE WHAT IT READS IS OF BULK AT MOST 1048576: true; the input reads as it did. -/
def fnExactIvWidthUptoRow : OpenClaim := { program := "ytpmolhpllfognaa", sum := "d69fa5b30a99d7da33217f1571cfa7d5d42b79c0b293083ec5cdfc01f03f856d", func := "loop.example/g00481/laws.FnExactIvWidth", spec := "fnExactIvWidth", unfollowed := true, recurses := true, apart := false, narrowed := true }
def FnExactIvWidthUptoSaid : Prop := fnExactIvWidthUptoRow.holds Try.pinned (OpenSpec.upto fnExactIvWidthSpec)

end Rows
end Go.Proofs.Ytpmolhpllfognaa
