/-
  No cell of these rows narrows 'for every input' (looked for: loops, veiled, ifaces, maps, wideKeys, modest, calm, conditions, laid).
  DERIVED. THE GIVEN ROWS OF THIS SEAT. 3 by the template 'for every input the law returns true; each argument reads behind the call as it read before'; 0 by the template 'total and deterministic' (their statements: YtmbopjjpepbgkaaTotals.lean).
  GIVEN WITH THE SEED: the statements are not yours to turn. If you find one false, say at which input.
  Laid BY PROGRAM, IN A SANDBOX (cutbox-rows.mjs): the forced cells as the released guide's own fill.sh prints them over the translation 8811d33c7b929009… (all of the seat's roots in one cut). By AI agents, Wed Nov 11 2026. No macro, syntax, notation, axiom, sorry.
-/
import Derived.Test.YtmbopjjpepbgkaaChecked
import GoSem.Claim
import GoSem.ClaimJoined
import GoSem.ClaimMapViews
import Derived.JoinedTies
import Derived.KernelRfl
namespace Go.Proofs.Ytmbopjjpepbgkaa
/- THE CELL 'sum', in the pinned program and in every row, IS THE sha256 OF THE DUMP (.gsa) THAT YtmbopjjpepbgkaaProg.lean LOADS. Nothing in Lean hashes anything: it is a label: what it is worth is what the hold of that sum in a sandbox is worth. -/
noncomputable def Try.pinned : Pinned := { name := "ytmbopjjpepbgkaa", sum := "8811d33c7b929009b683ed7d881a6cc7f725ba4aad9480b5ee5128f038d3becc", checked := Try.checked }
namespace Rows
def none {H : Type} : Left H := { results := [], args := [] }

/-- 'laws.FnExactGainSquare': WHATEVER THE INPUT: true; the input reads as it did. -/
def fnExactGainSquareSpec : ChangeSpec := { name := "fnExactGainSquare", fn := fun _ => fun
  | [d1, d2] => { results := [.lit (.bool true)], args := [d1, d2] }
  | _ => none }
def fnExactGainSquareRow : OpenClaim := { program := "ytmbopjjpepbgkaa", sum := "8811d33c7b929009b683ed7d881a6cc7f725ba4aad9480b5ee5128f038d3becc", func := "loop.example/g00481/laws.FnExactGainSquare", spec := "fnExactGainSquare", unfollowed := true, recurses := true, apart := false }
def FnExactGainSquareSaid : Prop := fnExactGainSquareRow.holds Try.pinned (OpenSpec.ofChange fnExactGainSquareSpec)

/-- ITS FALSE NEIGHBOUR: 'it returns false'. Refute it at one input. -/
def fnExactGainSquareWrong : ChangeSpec := { name := "fnExactGainSquare", fn := fun _ => fun
  | [d1, d2] => { results := [.lit (.bool false)], args := [d1, d2] }
  | _ => none }
def FnExactGainSquareWrongFalsely : Prop := fnExactGainSquareRow.holds Try.pinned (OpenSpec.ofChange fnExactGainSquareWrong)

/-- 'laws.FnExactGain': WHATEVER THE INPUT: true; the input reads as it did. -/
def fnExactGainSpec : ChangeSpec := { name := "fnExactGain", fn := fun _ => fun
  | [d1, d2] => { results := [.lit (.bool true)], args := [d1, d2] }
  | _ => none }
def fnExactGainRow : OpenClaim := { program := "ytmbopjjpepbgkaa", sum := "8811d33c7b929009b683ed7d881a6cc7f725ba4aad9480b5ee5128f038d3becc", func := "loop.example/g00481/laws.FnExactGain", spec := "fnExactGain", unfollowed := true, recurses := true, apart := false }
def FnExactGainSaid : Prop := fnExactGainRow.holds Try.pinned (OpenSpec.ofChange fnExactGainSpec)

/-- ITS FALSE NEIGHBOUR: 'it returns false'. Refute it at one input. -/
def fnExactGainWrong : ChangeSpec := { name := "fnExactGain", fn := fun _ => fun
  | [d1, d2] => { results := [.lit (.bool false)], args := [d1, d2] }
  | _ => none }
def FnExactGainWrongFalsely : Prop := fnExactGainRow.holds Try.pinned (OpenSpec.ofChange fnExactGainWrong)

/-- 'laws.FnExactRoundRoot': WHATEVER THE INPUT: true; the input reads as it did. -/
def fnExactRoundRootSpec : ChangeSpec := { name := "fnExactRoundRoot", fn := fun _ => fun
  | [d1, d2, d3] => { results := [.lit (.bool true)], args := [d1, d2, d3] }
  | _ => none }
def fnExactRoundRootRow : OpenClaim := { program := "ytmbopjjpepbgkaa", sum := "8811d33c7b929009b683ed7d881a6cc7f725ba4aad9480b5ee5128f038d3becc", func := "loop.example/g00481/laws.FnExactRoundRoot", spec := "fnExactRoundRoot", apart := false }
def FnExactRoundRootSaid : Prop := fnExactRoundRootRow.holds Try.pinned (OpenSpec.ofChange fnExactRoundRootSpec)

/-- ITS FALSE NEIGHBOUR: 'it returns false'. Refute it at one input. -/
def fnExactRoundRootWrong : ChangeSpec := { name := "fnExactRoundRoot", fn := fun _ => fun
  | [d1, d2, d3] => { results := [.lit (.bool false)], args := [d1, d2, d3] }
  | _ => none }
def FnExactRoundRootWrongFalsely : Prop := fnExactRoundRootRow.holds Try.pinned (OpenSpec.ofChange fnExactRoundRootWrong)

/- THE SECOND FORM. 'bulk': how many values and letters a reading holds, each counted each time it is reached (what is shared counts as often as it is met; a slice's spare places count too). A statement '..UptoSaid' is the law's where the arguments, and the package variables that the reading takes, are together of bulk at most 1048576: NARROWER than '..Said'. Prove '..Said' where nothing that the law and all that it calls make is longer than what came in: it says more and counts as full. Else prove '..UptoSaid'. A law counts once. -/
mutual
def uptoBulk {H : Type} : DataW H → Nat
  | .lit (.string bytes) => bytes.length + 1
  | .lit _ => 1
  | .nil => 1
  | .ptr d => uptoBulk d + 1
  | .slice elems spare => uptoBulkAll elems + uptoBulkAll spare + 1
  | .agg parts => uptoBulkAll parts + 1
  | .iface _ d => uptoBulk d + 1
  | .map entries => uptoBulkEntries entries + 1
  | .held _ => 1
def uptoBulkAll {H : Type} : List (DataW H) → Nat
  | [] => 0
  | d :: r => uptoBulk d + uptoBulkAll r
def uptoBulkEntries {H : Type} : List (Lit × DataW H) → Nat
  | [] => 0
  | x :: r => uptoBulkEntry x + uptoBulkEntries r
def uptoBulkEntry {H : Type} : Lit × DataW H → Nat
  | (.string bytes, d) => bytes.length + uptoBulk d + 1
  | (_, d) => uptoBulk d + 1
 end
def uptoSmall : (H : Type) → List (DataW H) → Bool := fun _ ds => decide (uptoBulkAll ds ≤ 1048576)
def OpenSpec.upto (s : _root_.Go.ChangeSpec) : _root_.Go.OpenSpec := { _root_.Go.OpenSpec.ofChange s with cond := some uptoSmall }

/-- 'laws.FnExactGainSquare', WHERE WHAT IT READS IS OF BULK AT MOST 1048576: true; the input reads as it did. -/
def fnExactGainSquareUptoRow : OpenClaim := { program := "ytmbopjjpepbgkaa", sum := "8811d33c7b929009b683ed7d881a6cc7f725ba4aad9480b5ee5128f038d3becc", func := "loop.example/g00481/laws.FnExactGainSquare", spec := "fnExactGainSquare", unfollowed := true, recurses := true, apart := false, narrowed := true }
def FnExactGainSquareUptoSaid : Prop := fnExactGainSquareUptoRow.holds Try.pinned (OpenSpec.upto fnExactGainSquareSpec)

/-- 'laws.FnExactGain', WHERE WHAT IT READS IS OF BULK AT MOST 1048576: true; the input reads as it did. -/
def fnExactGainUptoRow : OpenClaim := { program := "ytmbopjjpepbgkaa", sum := "8811d33c7b929009b683ed7d881a6cc7f725ba4aad9480b5ee5128f038d3becc", func := "loop.example/g00481/laws.FnExactGain", spec := "fnExactGain", unfollowed := true, recurses := true, apart := false, narrowed := true }
def FnExactGainUptoSaid : Prop := fnExactGainUptoRow.holds Try.pinned (OpenSpec.upto fnExactGainSpec)

/-- 'laws.FnExactRoundRoot', WHERE WHAT IT READS IS OF BULK AT MOST 1048576: true; the input reads as it did. -/
def fnExactRoundRootUptoRow : OpenClaim := { program := "ytmbopjjpepbgkaa", sum := "8811d33c7b929009b683ed7d881a6cc7f725ba4aad9480b5ee5128f038d3becc", func := "loop.example/g00481/laws.FnExactRoundRoot", spec := "fnExactRoundRoot", apart := false, narrowed := true }
def FnExactRoundRootUptoSaid : Prop := fnExactRoundRootUptoRow.holds Try.pinned (OpenSpec.upto fnExactRoundRootSpec)

end Rows
end Go.Proofs.Ytmbopjjpepbgkaa
