/- SpinStep: the walk of the law beside both contracts; a length. -/
import Derived.Test.YtkbnfillbdjboaaWalkSpinStep
import Derived.Test.YtkbnfillbdjboaaSSpStep
import Derived.Test.YtkbnfillbdjboaaISpStep
namespace Go.Proofs.Ytkbnfillbdjboaa
open Go.RowKit
theorem take_le (zs : List Int) (n : Nat) (h : n ≤ 1048576) : (zs.take n).length ≤ 1048576 := by rw [List.length_take]; omega

end Go.Proofs.Ytkbnfillbdjboaa
