/- IvMul's answer. -/
import Derived.Test.YtlpfjpbnedankaaProdB0
import Derived.Test.YtlpfjpbnedankaaIB
namespace Go.Proofs.Ytlpfjpbnedankaa
open Go.RowKit
set_option linter.unusedSimpArgs false
set_option linter.unusedVariables false

def ivMulR (a b : Vh) (p : Int) : Vh × Bool := if okV a = true ∧ okV b = true ∧ 0 ≤ p ∧ p ≤ 480 then fitV (prLo (valW a.1) (valW a.2) (valW b.1) (valW b.2) / 2 ^ p.toNat) (-(-prHi (valW a.1) (valW a.2) (valW b.1) (valW b.2) / 2 ^ p.toNat)) else (((false, []), (false, [])), false)
theorem ivMulR_len (a b : Vh) (p : Int) : (ivMulR a b p).1.1.2.length ≤ 1048576 ∧ (ivMulR a b p).1.2.2.length ≤ 1048576 := by
  unfold ivMulR
  split
  · exact fitV_len _ _
  · simp

end Go.Proofs.Ytlpfjpbnedankaa
