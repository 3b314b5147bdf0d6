/- The specification's l2Plus, by its contract. -/
import Derived.Test.YtnbkhocbncniiaaSLimb
import Derived.Test.YtnbkhocbncniiaaSMax
import Derived.Test.YtnbkhocbncniiaaSTrim
namespace Go.Proofs.Ytnbkhocbncniiaa
open Go.RowKit

end Go.Proofs.Ytnbkhocbncniiaa
