/- The specification's l4Add, by its contract. -/
import Derived.Test.YtnbkhocbncniiaaSMake
import Derived.Test.YtnbkhocbncniiaaSPlus
import Derived.Test.YtnbkhocbncniiaaSLess
import Derived.Test.YtnbkhocbncniiaaSCmp
import Derived.Deep.RegionHeld
namespace Go.Proofs.Ytnbkhocbncniiaa
open Go.RowKit

theorem signed (x : Int) : (if (mkW x).1 = true then -(x.natAbs : Int) else (x.natAbs : Int)) = x := by
  unfold mkW
  by_cases h : x < 0
  · simp [h]; omega
  · simp [h]; omega

end Go.Proofs.Ytnbkhocbncniiaa
