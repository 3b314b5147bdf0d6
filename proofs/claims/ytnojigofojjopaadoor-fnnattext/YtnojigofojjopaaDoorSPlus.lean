/- The specification's l2Plus, by its contract. -/
import Derived.Test.YtnojigofojjopaaDoorSLimb
import Derived.Test.YtnojigofojjopaaDoorSMax
import Derived.Test.YtnojigofojjopaaDoorSTrim
namespace Go.Proofs.YtnojigofojjopaaDoor
open Go.RowKit

end Go.Proofs.YtnojigofojjopaaDoor
