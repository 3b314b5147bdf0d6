/- The program's signedOf and WholeOf, each by its contract. -/
import Derived.Test.YtnngmkgkphkmhaaSWhole
namespace Go.Proofs.Ytnngmkgkphkmhaa
open Go.RowKit

end Go.Proofs.Ytnngmkgkphkmhaa
