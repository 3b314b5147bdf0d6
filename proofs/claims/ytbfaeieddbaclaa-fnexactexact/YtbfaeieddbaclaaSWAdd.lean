/- The specification's l4Add, by its contract. -/
import Derived.Test.YtbfaeieddbaclaaSMake
import Derived.Test.YtbfaeieddbaclaaSPlus
import Derived.Test.YtbfaeieddbaclaaSLess
import Derived.Test.YtbfaeieddbaclaaSCmp
import Derived.Deep.RegionHeld
namespace Go.Proofs.Ytbfaeieddbaclaa
open Go.RowKit

theorem signed (x : Int) : (if (mkW x).1 = true then -(x.natAbs : Int) else (x.natAbs : Int)) = x := by
  unfold mkW
  by_cases h : x < 0
  · simp [h]; omega
  · simp [h]; omega

end Go.Proofs.Ytbfaeieddbaclaa
