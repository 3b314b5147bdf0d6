/- The program's ivFrom, by its contract. -/
import Derived.Test.YtnplnekfeabneaaSTB
import Derived.Test.YtnplnekfeabneaaSWhole
namespace Go.Proofs.Ytnplnekfeabneaa
open Go.RowKit
set_option linter.unusedSimpArgs false

/-- What fits is answered, else nothing and no. -/
def fitV (x y : Int) : Vh × Bool := if (fitW x).2 = true ∧ (fitW y).2 = true then (((fitW x).1, (fitW y).1), true) else (((false, []), (false, [])), false)
theorem fitV_len (x y : Int) : (fitV x y).1.1.2.length ≤ 1048576 ∧ (fitV x y).1.2.2.length ≤ 1048576 := by
  unfold fitV
  split
  · exact ⟨fitW_len x, fitW_len y⟩
  · simp

end Go.Proofs.Ytnplnekfeabneaa
