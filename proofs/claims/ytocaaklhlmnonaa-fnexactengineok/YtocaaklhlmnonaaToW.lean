/- The law's marks on numbers with a sign. -/
import Derived.Test.YtocaaklhlmnonaaToW0
import Derived.Test.YtocaaklhlmnonaaTn
namespace Go.Proofs.Ytocaaklhlmnonaa
open Go.RowKit

end Go.Proofs.Ytocaaklhlmnonaa
