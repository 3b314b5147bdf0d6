/-
  No cell of these rows narrows 'for every input' (looked for: loops, veiled, ifaces, maps, wideKeys, modest, calm, conditions, laid).
  DERIVED. THE GIVEN ROWS OF THIS SEAT. 3 by the template 'for every input the law returns true; each argument reads behind the call as it read before'; 0 by the template 'total and deterministic' (their statements: YtlpfjpbnedankaaTotals.lean).
  GIVEN WITH THE SEED: the statements are not yours to turn. If you find one false, say at which input.
  Laid BY PROGRAM, IN A SANDBOX (cutbox-rows.mjs): the forced cells as the released guide's own fill.sh prints them over the translation 164a3482a79f38d9… (all of the seat's roots in one cut). By AI agents, Wed Nov 11 2026. No macro, syntax, notation, axiom, sorry.
-/
import Derived.Test.YtlpfjpbnedankaaChecked
import GoSem.Claim
import GoSem.ClaimJoined
import GoSem.ClaimMapViews
import Derived.JoinedTies
import Derived.KernelRfl
namespace Go.Proofs.Ytlpfjpbnedankaa
/- THE CELL 'sum', in the pinned program and in every row, IS THE sha256 OF THE DUMP (.gsa) THAT YtlpfjpbnedankaaProg.lean LOADS. Nothing in Lean hashes anything: it is a label: what it is worth is what the hold of that sum in a sandbox is worth. -/
noncomputable def Try.pinned : Pinned := { name := "ytlpfjpbnedankaa", sum := "164a3482a79f38d9d0603faf861b002fcab2a4d014bfdb6f12f41a9456933376", checked := Try.checked }
namespace Rows
def none {H : Type} : Left H := { results := [], args := [] }

/-- 'laws.FnGain': WHATEVER THE INPUT: true; the input reads as it did. -/
def fnGainSpec : ChangeSpec := { name := "fnGain", fn := fun _ => fun
  | [d] => { results := [.lit (.bool true)], args := [d] }
  | _ => none }
def fnGainRow : OpenClaim := { program := "ytlpfjpbnedankaa", sum := "164a3482a79f38d9d0603faf861b002fcab2a4d014bfdb6f12f41a9456933376", func := "loop.example/g00481/laws.FnGain", spec := "fnGain", unfollowed := true, recurses := true, apart := false }
def FnGainSaid : Prop := fnGainRow.holds Try.pinned (OpenSpec.ofChange fnGainSpec)

/-- ITS FALSE NEIGHBOUR: 'it returns false'. Refute it at one input. -/
def fnGainWrong : ChangeSpec := { name := "fnGain", fn := fun _ => fun
  | [d] => { results := [.lit (.bool false)], args := [d] }
  | _ => none }
def FnGainWrongFalsely : Prop := fnGainRow.holds Try.pinned (OpenSpec.ofChange fnGainWrong)

/-- 'laws.FnSpun': WHATEVER THE INPUT: true; the input reads as it did. -/
def fnSpunSpec : ChangeSpec := { name := "fnSpun", fn := fun _ => fun
  | [d] => { results := [.lit (.bool true)], args := [d] }
  | _ => none }
def fnSpunRow : OpenClaim := { program := "ytlpfjpbnedankaa", sum := "164a3482a79f38d9d0603faf861b002fcab2a4d014bfdb6f12f41a9456933376", func := "loop.example/g00481/laws.FnSpun", spec := "fnSpun", apart := false }
def FnSpunSaid : Prop := fnSpunRow.holds Try.pinned (OpenSpec.ofChange fnSpunSpec)

/-- ITS FALSE NEIGHBOUR: 'it returns false'. Refute it at one input. -/
def fnSpunWrong : ChangeSpec := { name := "fnSpun", fn := fun _ => fun
  | [d] => { results := [.lit (.bool false)], args := [d] }
  | _ => none }
def FnSpunWrongFalsely : Prop := fnSpunRow.holds Try.pinned (OpenSpec.ofChange fnSpunWrong)

/-- 'laws.FnSpinOrder': WHATEVER THE INPUT: true; the input reads as it did. -/
def fnSpinOrderSpec : ChangeSpec := { name := "fnSpinOrder", fn := fun _ => fun
  | [d] => { results := [.lit (.bool true)], args := [d] }
  | _ => none }
def fnSpinOrderRow : OpenClaim := { program := "ytlpfjpbnedankaa", sum := "164a3482a79f38d9d0603faf861b002fcab2a4d014bfdb6f12f41a9456933376", func := "loop.example/g00481/laws.FnSpinOrder", spec := "fnSpinOrder", apart := false }
def FnSpinOrderSaid : Prop := fnSpinOrderRow.holds Try.pinned (OpenSpec.ofChange fnSpinOrderSpec)

/-- ITS FALSE NEIGHBOUR: 'it returns false'. Refute it at one input. -/
def fnSpinOrderWrong : ChangeSpec := { name := "fnSpinOrder", fn := fun _ => fun
  | [d] => { results := [.lit (.bool false)], args := [d] }
  | _ => none }
def FnSpinOrderWrongFalsely : Prop := fnSpinOrderRow.holds Try.pinned (OpenSpec.ofChange fnSpinOrderWrong)

/- THE SECOND FORM. 'bulk': how many values and letters a reading holds, each counted each time it is reached (what is shared counts as often as it is met; a slice's spare places count too). A statement '..UptoSaid' is the law's where the arguments, and the package variables that the reading takes, are together of bulk at most 1048576: NARROWER than '..Said'. Prove '..Said' where nothing that the law and all that it calls make is longer than what came in: it says more and counts as full. Else prove '..UptoSaid'. A law counts once. -/
mutual
def uptoBulk {H : Type} : DataW H → Nat
  | .lit (.string bytes) => bytes.length + 1
  | .lit _ => 1
  | .nil => 1
  | .ptr d => uptoBulk d + 1
  | .slice elems spare => uptoBulkAll elems + uptoBulkAll spare + 1
  | .agg parts => uptoBulkAll parts + 1
  | .iface _ d => uptoBulk d + 1
  | .map entries => uptoBulkEntries entries + 1
  | .held _ => 1
def uptoBulkAll {H : Type} : List (DataW H) → Nat
  | [] => 0
  | d :: r => uptoBulk d + uptoBulkAll r
def uptoBulkEntries {H : Type} : List (Lit × DataW H) → Nat
  | [] => 0
  | x :: r => uptoBulkEntry x + uptoBulkEntries r
def uptoBulkEntry {H : Type} : Lit × DataW H → Nat
  | (.string bytes, d) => bytes.length + uptoBulk d + 1
  | (_, d) => uptoBulk d + 1
 end
def uptoSmall : (H : Type) → List (DataW H) → Bool := fun _ ds => decide (uptoBulkAll ds ≤ 1048576)
def OpenSpec.upto (s : _root_.Go.ChangeSpec) : _root_.Go.OpenSpec := { _root_.Go.OpenSpec.ofChange s with cond := some uptoSmall }

/-- 'laws.FnGain', WHERE WHAT IT READS IS OF BULK AT MOST 1048576: true; the input reads as it did. -/
def fnGainUptoRow : OpenClaim := { program := "ytlpfjpbnedankaa", sum := "164a3482a79f38d9d0603faf861b002fcab2a4d014bfdb6f12f41a9456933376", func := "loop.example/g00481/laws.FnGain", spec := "fnGain", unfollowed := true, recurses := true, apart := false, narrowed := true }
def FnGainUptoSaid : Prop := fnGainUptoRow.holds Try.pinned (OpenSpec.upto fnGainSpec)

/-- 'laws.FnSpun', WHERE WHAT IT READS IS OF BULK AT MOST 1048576: true; the input reads as it did. -/
def fnSpunUptoRow : OpenClaim := { program := "ytlpfjpbnedankaa", sum := "164a3482a79f38d9d0603faf861b002fcab2a4d014bfdb6f12f41a9456933376", func := "loop.example/g00481/laws.FnSpun", spec := "fnSpun", apart := false, narrowed := true }
def FnSpunUptoSaid : Prop := fnSpunUptoRow.holds Try.pinned (OpenSpec.upto fnSpunSpec)

/-- 'laws.FnSpinOrder', WHERE WHAT IT READS IS OF BULK AT MOST 1048576: true; the input reads as it did. -/
def fnSpinOrderUptoRow : OpenClaim := { program := "ytlpfjpbnedankaa", sum := "164a3482a79f38d9d0603faf861b002fcab2a4d014bfdb6f12f41a9456933376", func := "loop.example/g00481/laws.FnSpinOrder", spec := "fnSpinOrder", apart := false, narrowed := true }
def FnSpinOrderUptoSaid : Prop := fnSpinOrderUptoRow.holds Try.pinned (OpenSpec.upto fnSpinOrderSpec)

end Rows
end Go.Proofs.Ytlpfjpbnedankaa
