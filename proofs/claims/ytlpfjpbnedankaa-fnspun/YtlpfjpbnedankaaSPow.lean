/- The specification's l2Pow, by its contract, and what is said of limbs. -/
import Derived.Test.YtlpfjpbnedankaaBase
import Derived.Test.YtlpfjpbnedankaaSPow0
