/- Several small texts in one: SIvOk. -/
import Derived.Test.YtlpfjpbnedankaaSC
import Derived.Test.YtlpfjpbnedankaaSW
/- The specification's IvOk, by its contract. -/
namespace Go.Proofs.Ytlpfjpbnedankaa
open Go.RowKit
set_option linter.unusedSimpArgs false

theorem okW_lenV {a : Wh} (h : okW a = true) : (limbs (valW a).natAbs).length ≤ 48 := by
  have h3 := ((okW_iff a).1 h).1.1
  have : (mkW (valW a)).2.length ≤ 48 := by rw [← mkW_of h]; exact h3
  exact this

end Go.Proofs.Ytlpfjpbnedankaa
