/- The specification's l3Root, by its contract. -/
import Derived.Test.YtnojigofojjopaaDoorDivR
import Derived.Test.YtnojigofojjopaaDoorOne
import Derived.Test.YtnojigofojjopaaDoorSBits
import Derived.Test.YtnojigofojjopaaDoorSUp
import Derived.Test.YtnojigofojjopaaDoorSPlus
import Derived.Test.YtnojigofojjopaaDoorSCmp
import Derived.Test.YtnojigofojjopaaDoorSTimes
namespace Go.Proofs.YtnojigofojjopaaDoor
open Go.RowKit

end Go.Proofs.YtnojigofojjopaaDoor
