/- The law's marks on lists, in the frame of blocks. -/
import Derived.Test.YtnbkhocbncniiaaTn0
import Derived.Test.YtnbkhocbncniiaaMarkI
namespace Go.Proofs.Ytnbkhocbncniiaa
open Go.RowKit

end Go.Proofs.Ytnbkhocbncniiaa
