/- The program's spans made of spans: alone, addSpans, subSpans, negSpan, widerSpan, each by its contract. -/
import Derived.Test.YtjelmbkngjlefaaSgPM
import Derived.Test.YtjelmbkngjlefaaSTB
import Derived.Test.YtjelmbkngjlefaaSWhole
namespace Go.Proofs.Ytjelmbkngjlefaa
open Go.RowKit
set_option linter.unusedSimpArgs false

/-- A span whose ends are these two. -/
def spanE (x y : Int) (w : World) (e : Ending) (w' : World) : Prop := ∃ c d : Nat, e = .returned (.agg #[.pointer (some ⟨c, 0, none⟩), .pointer (some ⟨d, 0, none⟩)]) ∧ SG w' c x ∧ SG w' d y ∧ Below w.heap.size w w'

end Go.Proofs.Ytjelmbkngjlefaa
