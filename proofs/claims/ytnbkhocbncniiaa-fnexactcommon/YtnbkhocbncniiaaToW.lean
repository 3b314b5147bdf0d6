/- The law's marks on numbers with a sign. -/
import Derived.Test.YtnbkhocbncniiaaToW0
import Derived.Test.YtnbkhocbncniiaaTn
namespace Go.Proofs.Ytnbkhocbncniiaa
open Go.RowKit

end Go.Proofs.Ytnbkhocbncniiaa
