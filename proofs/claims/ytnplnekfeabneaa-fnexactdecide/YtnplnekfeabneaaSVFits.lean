/- The specification's l10Fits, by its contract. -/
import Derived.Test.YtnplnekfeabneaaIFrom
namespace Go.Proofs.Ytnplnekfeabneaa
open Go.RowKit
set_option linter.unusedSimpArgs false

end Go.Proofs.Ytnplnekfeabneaa
