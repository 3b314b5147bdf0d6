/- The law's own toSpin, by its contract. -/
import Derived.Test.YtlpfjpbnedankaaPB
namespace Go.Proofs.Ytlpfjpbnedankaa
open Go.RowKit
set_option linter.unusedSimpArgs false

end Go.Proofs.Ytlpfjpbnedankaa
