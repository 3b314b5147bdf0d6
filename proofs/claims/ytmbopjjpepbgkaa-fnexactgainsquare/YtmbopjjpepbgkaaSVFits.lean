/- The specification's l10Fits, by its contract. -/
import Derived.Test.YtmbopjjpepbgkaaIFrom
namespace Go.Proofs.Ytmbopjjpepbgkaa
open Go.RowKit
set_option linter.unusedSimpArgs false

end Go.Proofs.Ytmbopjjpepbgkaa
