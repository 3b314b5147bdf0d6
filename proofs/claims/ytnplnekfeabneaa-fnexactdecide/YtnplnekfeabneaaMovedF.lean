/- The program's movedSpan again, by a contract that tells its answer's blocks as new. -/
import Derived.Test.YtnplnekfeabneaaMovedS
namespace Go.Proofs.Ytnplnekfeabneaa
open Go.RowKit
set_option linter.unusedSimpArgs false

/-- A new span whose ends are these two. -/
def spanF (x y : Int) (w : World) (e : Ending) (w' : World) : Prop := ∃ c d : Nat, e = .returned (.agg #[.pointer (some ⟨c, 0, none⟩), .pointer (some ⟨d, 0, none⟩)]) ∧ SG w' c x ∧ SG w' d y ∧ Below w.heap.size w w' ∧ w.heap.size ≤ c ∧ w.heap.size ≤ d

end Go.Proofs.Ytnplnekfeabneaa
