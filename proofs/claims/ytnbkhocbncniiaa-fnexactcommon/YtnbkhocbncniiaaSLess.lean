/- The specification's l2Less, by its contract. -/
import Derived.Test.YtnbkhocbncniiaaSLimb
import Derived.Test.YtnbkhocbncniiaaSTrim
import Derived.Deep.QuietTactic
import Derived.BigQuiet
namespace Go.Proofs.Ytnbkhocbncniiaa
open Go.RowKit

end Go.Proofs.Ytnbkhocbncniiaa
