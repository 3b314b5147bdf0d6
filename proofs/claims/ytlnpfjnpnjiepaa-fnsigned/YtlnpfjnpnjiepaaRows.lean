/-
  No cell of these rows narrows 'for every input' (looked for: loops, veiled, ifaces, maps, wideKeys, modest, calm, conditions, laid).
  DERIVED. THE GIVEN ROWS OF THIS SEAT. 6 by the template 'for every input the law returns true; each argument reads behind the call as it read before'; 0 by the template 'total and deterministic' (their statements: YtlnpfjnpnjiepaaTotals.lean).
  GIVEN WITH THE SEED: the statements are not yours to turn. If you find one false, say at which input.
  Laid BY PROGRAM, IN A SANDBOX (cutbox-rows.mjs): the forced cells as the released guide's own fill.sh prints them over the translation 4d16c078699529ed… (all of the seat's roots in one cut). By AI agents, Wed Nov 11 2026. No macro, syntax, notation, axiom, sorry.
-/
import Derived.Test.YtlnpfjnpnjiepaaChecked
import GoSem.Claim
import GoSem.ClaimJoined
import GoSem.ClaimMapViews
import Derived.JoinedTies
import Derived.KernelRfl
namespace Go.Proofs.Ytlnpfjnpnjiepaa
/- THE CELL 'sum', in the pinned program and in every row, IS THE sha256 OF THE DUMP (.gsa) THAT YtlnpfjnpnjiepaaProg.lean LOADS. Nothing in Lean hashes anything: it is a label: what it is worth is what the hold of that sum in a sandbox is worth. -/
noncomputable def Try.pinned : Pinned := { name := "ytlnpfjnpnjiepaa", sum := "4d16c078699529edfea09eb35e219b4e26569209cee87477190c2ae5c1a17d2e", checked := Try.checked }
namespace Rows
def none {H : Type} : Left H := { results := [], args := [] }

/-- 'laws.FnSigned': WHATEVER THE INPUT: true; the input reads as it did. -/
def fnSignedSpec : ChangeSpec := { name := "fnSigned", fn := fun _ => fun
  | [d] => { results := [.lit (.bool true)], args := [d] }
  | _ => none }
def fnSignedRow : OpenClaim := { program := "ytlnpfjnpnjiepaa", sum := "4d16c078699529edfea09eb35e219b4e26569209cee87477190c2ae5c1a17d2e", func := "loop.example/g00481/laws.FnSigned", spec := "fnSigned", apart := false }
def FnSignedSaid : Prop := fnSignedRow.holds Try.pinned (OpenSpec.ofChange fnSignedSpec)

/-- ITS FALSE NEIGHBOUR: 'it returns false'. Refute it at one input. -/
def fnSignedWrong : ChangeSpec := { name := "fnSigned", fn := fun _ => fun
  | [d] => { results := [.lit (.bool false)], args := [d] }
  | _ => none }
def FnSignedWrongFalsely : Prop := fnSignedRow.holds Try.pinned (OpenSpec.ofChange fnSignedWrong)

/-- 'laws.FnWholeShift': WHATEVER THE INPUT: true; the input reads as it did. -/
def fnWholeShiftSpec : ChangeSpec := { name := "fnWholeShift", fn := fun _ => fun
  | [d] => { results := [.lit (.bool true)], args := [d] }
  | _ => none }
def fnWholeShiftRow : OpenClaim := { program := "ytlnpfjnpnjiepaa", sum := "4d16c078699529edfea09eb35e219b4e26569209cee87477190c2ae5c1a17d2e", func := "loop.example/g00481/laws.FnWholeShift", spec := "fnWholeShift", apart := false }
def FnWholeShiftSaid : Prop := fnWholeShiftRow.holds Try.pinned (OpenSpec.ofChange fnWholeShiftSpec)

/-- ITS FALSE NEIGHBOUR: 'it returns false'. Refute it at one input. -/
def fnWholeShiftWrong : ChangeSpec := { name := "fnWholeShift", fn := fun _ => fun
  | [d] => { results := [.lit (.bool false)], args := [d] }
  | _ => none }
def FnWholeShiftWrongFalsely : Prop := fnWholeShiftRow.holds Try.pinned (OpenSpec.ofChange fnWholeShiftWrong)

/-- 'laws.FnRounded': WHATEVER THE INPUT: true; the input reads as it did. -/
def fnRoundedSpec : ChangeSpec := { name := "fnRounded", fn := fun _ => fun
  | [d] => { results := [.lit (.bool true)], args := [d] }
  | _ => none }
def fnRoundedRow : OpenClaim := { program := "ytlnpfjnpnjiepaa", sum := "4d16c078699529edfea09eb35e219b4e26569209cee87477190c2ae5c1a17d2e", func := "loop.example/g00481/laws.FnRounded", spec := "fnRounded", apart := false }
def FnRoundedSaid : Prop := fnRoundedRow.holds Try.pinned (OpenSpec.ofChange fnRoundedSpec)

/-- ITS FALSE NEIGHBOUR: 'it returns false'. Refute it at one input. -/
def fnRoundedWrong : ChangeSpec := { name := "fnRounded", fn := fun _ => fun
  | [d] => { results := [.lit (.bool false)], args := [d] }
  | _ => none }
def FnRoundedWrongFalsely : Prop := fnRoundedRow.holds Try.pinned (OpenSpec.ofChange fnRoundedWrong)

/-- 'laws.FnTurned': WHATEVER THE INPUT: true; the input reads as it did. -/
def fnTurnedSpec : ChangeSpec := { name := "fnTurned", fn := fun _ => fun
  | [d] => { results := [.lit (.bool true)], args := [d] }
  | _ => none }
def fnTurnedRow : OpenClaim := { program := "ytlnpfjnpnjiepaa", sum := "4d16c078699529edfea09eb35e219b4e26569209cee87477190c2ae5c1a17d2e", func := "loop.example/g00481/laws.FnTurned", spec := "fnTurned", apart := false }
def FnTurnedSaid : Prop := fnTurnedRow.holds Try.pinned (OpenSpec.ofChange fnTurnedSpec)

/-- ITS FALSE NEIGHBOUR: 'it returns false'. Refute it at one input. -/
def fnTurnedWrong : ChangeSpec := { name := "fnTurned", fn := fun _ => fun
  | [d] => { results := [.lit (.bool false)], args := [d] }
  | _ => none }
def FnTurnedWrongFalsely : Prop := fnTurnedRow.holds Try.pinned (OpenSpec.ofChange fnTurnedWrong)

/-- 'laws.FnRising': WHATEVER THE INPUT: true; the input reads as it did. -/
def fnRisingSpec : ChangeSpec := { name := "fnRising", fn := fun _ => fun
  | [d] => { results := [.lit (.bool true)], args := [d] }
  | _ => none }
def fnRisingRow : OpenClaim := { program := "ytlnpfjnpnjiepaa", sum := "4d16c078699529edfea09eb35e219b4e26569209cee87477190c2ae5c1a17d2e", func := "loop.example/g00481/laws.FnRising", spec := "fnRising", apart := false }
def FnRisingSaid : Prop := fnRisingRow.holds Try.pinned (OpenSpec.ofChange fnRisingSpec)

/-- ITS FALSE NEIGHBOUR: 'it returns false'. Refute it at one input. -/
def fnRisingWrong : ChangeSpec := { name := "fnRising", fn := fun _ => fun
  | [d] => { results := [.lit (.bool false)], args := [d] }
  | _ => none }
def FnRisingWrongFalsely : Prop := fnRisingRow.holds Try.pinned (OpenSpec.ofChange fnRisingWrong)

/-- 'laws.FnRootRounded': WHATEVER THE INPUT: true; the input reads as it did. -/
def fnRootRoundedSpec : ChangeSpec := { name := "fnRootRounded", fn := fun _ => fun
  | [d] => { results := [.lit (.bool true)], args := [d] }
  | _ => none }
def fnRootRoundedRow : OpenClaim := { program := "ytlnpfjnpnjiepaa", sum := "4d16c078699529edfea09eb35e219b4e26569209cee87477190c2ae5c1a17d2e", func := "loop.example/g00481/laws.FnRootRounded", spec := "fnRootRounded", apart := false }
def FnRootRoundedSaid : Prop := fnRootRoundedRow.holds Try.pinned (OpenSpec.ofChange fnRootRoundedSpec)

/-- ITS FALSE NEIGHBOUR: 'it returns false'. Refute it at one input. -/
def fnRootRoundedWrong : ChangeSpec := { name := "fnRootRounded", fn := fun _ => fun
  | [d] => { results := [.lit (.bool false)], args := [d] }
  | _ => none }
def FnRootRoundedWrongFalsely : Prop := fnRootRoundedRow.holds Try.pinned (OpenSpec.ofChange fnRootRoundedWrong)

/- THE SECOND FORM. 'bulk': how many values and letters a reading holds, each counted each time it is reached (what is shared counts as often as it is met; a slice's spare places count too). A statement '..UptoSaid' is the law's where the arguments, and the package variables that the reading takes, are together of bulk at most 1048576: NARROWER than '..Said'. Prove '..Said' where nothing that the law and all that it calls make is longer than what came in: it says more and counts as full. Else prove '..UptoSaid'. A law counts once. -/
mutual
def uptoBulk {H : Type} : DataW H → Nat
  | .lit (.string bytes) => bytes.length + 1
  | .lit _ => 1
  | .nil => 1
  | .ptr d => uptoBulk d + 1
  | .slice elems spare => uptoBulkAll elems + uptoBulkAll spare + 1
  | .agg parts => uptoBulkAll parts + 1
  | .iface _ d => uptoBulk d + 1
  | .map entries => uptoBulkEntries entries + 1
  | .held _ => 1
def uptoBulkAll {H : Type} : List (DataW H) → Nat
  | [] => 0
  | d :: r => uptoBulk d + uptoBulkAll r
def uptoBulkEntries {H : Type} : List (Lit × DataW H) → Nat
  | [] => 0
  | x :: r => uptoBulkEntry x + uptoBulkEntries r
def uptoBulkEntry {H : Type} : Lit × DataW H → Nat
  | (.string bytes, d) => bytes.length + uptoBulk d + 1
  | (_, d) => uptoBulk d + 1
 end
def uptoSmall : (H : Type) → List (DataW H) → Bool := fun _ ds => decide (uptoBulkAll ds ≤ 1048576)
def OpenSpec.upto (s : _root_.Go.ChangeSpec) : _root_.Go.OpenSpec := { _root_.Go.OpenSpec.ofChange s with cond := some uptoSmall }

/-- 'laws.FnSigned', WHERE WHAT IT READS IS OF BULK AT MOST 1048576: true; the input reads as it did. -/
def fnSignedUptoRow : OpenClaim := { program := "ytlnpfjnpnjiepaa", sum := "4d16c078699529edfea09eb35e219b4e26569209cee87477190c2ae5c1a17d2e", func := "loop.example/g00481/laws.FnSigned", spec := "fnSigned", apart := false, narrowed := true }
def FnSignedUptoSaid : Prop := fnSignedUptoRow.holds Try.pinned (OpenSpec.upto fnSignedSpec)

/-- 'laws.FnWholeShift', WHERE WHAT IT READS IS OF BULK AT MOST 1048576: true; the input reads as it did. -/
def fnWholeShiftUptoRow : OpenClaim := { program := "ytlnpfjnpnjiepaa", sum := "4d16c078699529edfea09eb35e219b4e26569209cee87477190c2ae5c1a17d2e", func := "loop.example/g00481/laws.FnWholeShift", spec := "fnWholeShift", apart := false, narrowed := true }
def FnWholeShiftUptoSaid : Prop := fnWholeShiftUptoRow.holds Try.pinned (OpenSpec.upto fnWholeShiftSpec)

/-- 'laws.FnRounded', WHERE WHAT IT READS IS OF BULK AT MOST 1048576: true; the input reads as it did. -/
def fnRoundedUptoRow : OpenClaim := { program := "ytlnpfjnpnjiepaa", sum := "4d16c078699529edfea09eb35e219b4e26569209cee87477190c2ae5c1a17d2e", func := "loop.example/g00481/laws.FnRounded", spec := "fnRounded", apart := false, narrowed := true }
def FnRoundedUptoSaid : Prop := fnRoundedUptoRow.holds Try.pinned (OpenSpec.upto fnRoundedSpec)

/-- 'laws.FnTurned', WHERE WHAT IT READS IS OF BULK AT MOST 1048576: true; the input reads as it did. -/
def fnTurnedUptoRow : OpenClaim := { program := "ytlnpfjnpnjiepaa", sum := "4d16c078699529edfea09eb35e219b4e26569209cee87477190c2ae5c1a17d2e", func := "loop.example/g00481/laws.FnTurned", spec := "fnTurned", apart := false, narrowed := true }
def FnTurnedUptoSaid : Prop := fnTurnedUptoRow.holds Try.pinned (OpenSpec.upto fnTurnedSpec)

/-- 'laws.FnRising', WHERE WHAT IT READS IS OF BULK AT MOST 1048576: true; the input reads as it did. -/
def fnRisingUptoRow : OpenClaim := { program := "ytlnpfjnpnjiepaa", sum := "4d16c078699529edfea09eb35e219b4e26569209cee87477190c2ae5c1a17d2e", func := "loop.example/g00481/laws.FnRising", spec := "fnRising", apart := false, narrowed := true }
def FnRisingUptoSaid : Prop := fnRisingUptoRow.holds Try.pinned (OpenSpec.upto fnRisingSpec)

/-- 'laws.FnRootRounded', WHERE WHAT IT READS IS OF BULK AT MOST 1048576: true; the input reads as it did. -/
def fnRootRoundedUptoRow : OpenClaim := { program := "ytlnpfjnpnjiepaa", sum := "4d16c078699529edfea09eb35e219b4e26569209cee87477190c2ae5c1a17d2e", func := "loop.example/g00481/laws.FnRootRounded", spec := "fnRootRounded", apart := false, narrowed := true }
def FnRootRoundedUptoSaid : Prop := fnRootRoundedUptoRow.holds Try.pinned (OpenSpec.upto fnRootRoundedSpec)

end Rows
end Go.Proofs.Ytlnpfjnpnjiepaa
