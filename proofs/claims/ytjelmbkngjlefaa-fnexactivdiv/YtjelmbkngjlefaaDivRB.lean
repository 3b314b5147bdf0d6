/- IvDiv's answer. -/
import Derived.Test.YtjelmbkngjlefaaDivM
import Derived.Test.YtjelmbkngjlefaaIFrom
namespace Go.Proofs.Ytjelmbkngjlefaa
open Go.RowKit
set_option linter.unusedSimpArgs false
set_option linter.unusedVariables false

def ivDivR (a b : Vh) (p : Int) : Vh × Bool := if okV a = true ∧ okV b = true ∧ (0 ≤ p ∧ p ≤ 480) ∧ 0 < valW b.1 then fitV (dvLo (valW a.1 * 2 ^ p.toNat) (valW b.1) (valW b.2)) (dvHi (valW a.2 * 2 ^ p.toNat) (valW b.1) (valW b.2)) else (((false, []), (false, [])), false)
theorem ivDivR_len (a b : Vh) (p : Int) : (ivDivR a b p).1.1.2.length ≤ 1048576 ∧ (ivDivR a b p).1.2.2.length ≤ 1048576 := by
  unfold ivDivR
  split
  · exact fitV_len _ _
  · simp

end Go.Proofs.Ytjelmbkngjlefaa
