/- The specification's l2Cmp, by its contract. -/
import Derived.Test.YtnojigofojjopaaDoorSLimb
import Derived.Test.YtnojigofojjopaaDoorSMax
namespace Go.Proofs.YtnojigofojjopaaDoor
open Go.RowKit

end Go.Proofs.YtnojigofojjopaaDoor
