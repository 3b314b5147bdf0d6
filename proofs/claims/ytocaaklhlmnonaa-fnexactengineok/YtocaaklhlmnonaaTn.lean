/- The law's marks on lists, in the frame of blocks. -/
import Derived.Test.YtocaaklhlmnonaaTn0
import Derived.Test.YtocaaklhlmnonaaMarkI
namespace Go.Proofs.Ytocaaklhlmnonaa
open Go.RowKit

end Go.Proofs.Ytocaaklhlmnonaa
