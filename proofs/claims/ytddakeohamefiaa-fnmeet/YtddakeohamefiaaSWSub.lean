/- The specification's l4Sub, by its contract. -/
import Derived.Test.YtddakeohamefiaaWB
import Derived.Deep.RegionHeld
namespace Go.Proofs.Ytddakeohamefiaa
open Go.RowKit

end Go.Proofs.Ytddakeohamefiaa
