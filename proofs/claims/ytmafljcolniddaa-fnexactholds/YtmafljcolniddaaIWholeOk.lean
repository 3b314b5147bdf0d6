/- The program's WholeOk, by its contract. -/
import Derived.Test.YtmafljcolniddaaBase
import Derived.Test.YtmafljcolniddaaGB
namespace Go.Proofs.Ytmafljcolniddaa
open Go.RowKit

end Go.Proofs.Ytmafljcolniddaa
