/- The law's own helpers on a Spin: sizes, likeness, marks. -/
import Derived.Test.YtlpfjpbnedankaaToP
namespace Go.Proofs.Ytlpfjpbnedankaa
open Go.RowKit
set_option linter.unusedSimpArgs false

end Go.Proofs.Ytlpfjpbnedankaa
