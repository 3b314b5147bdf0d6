/- SpinRun: the walk of the law beside both contracts; a length. -/
import Derived.Test.YtkbnfillbdjboaaWalkSpinRun
import Derived.Test.YtkbnfillbdjboaaSSpRun
import Derived.Test.YtkbnfillbdjboaaISpRun
namespace Go.Proofs.Ytkbnfillbdjboaa
open Go.RowKit
theorem take_leR (zs : List Int) (n : Nat) (h : n ≤ 1048576) : (zs.take n).length ≤ 1048576 := by rw [List.length_take]; omega

end Go.Proofs.Ytkbnfillbdjboaa
