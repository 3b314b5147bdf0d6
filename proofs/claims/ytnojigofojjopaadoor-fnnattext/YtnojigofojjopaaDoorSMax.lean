/- The specification's l1Max, by its contract. -/
import Derived.Test.YtnojigofojjopaaDoorLimbMore
namespace Go.Proofs.YtnojigofojjopaaDoor
open Go.RowKit

end Go.Proofs.YtnojigofojjopaaDoor
