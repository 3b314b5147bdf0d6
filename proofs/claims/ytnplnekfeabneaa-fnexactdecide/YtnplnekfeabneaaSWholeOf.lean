/- The specification's WholeOf, by its contract. -/
import Derived.Test.YtnplnekfeabneaaWB
import Derived.Test.YtnplnekfeabneaaGB
namespace Go.Proofs.Ytnplnekfeabneaa
open Go.RowKit

end Go.Proofs.Ytnplnekfeabneaa
