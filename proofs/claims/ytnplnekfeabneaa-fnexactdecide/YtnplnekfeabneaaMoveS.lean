/- The specification's l4Ceil and l10Move, each by its contract. -/
import Derived.Test.YtnplnekfeabneaaSVFits
import Derived.Test.YtnplnekfeabneaaSIvOk
import Derived.Test.YtnplnekfeabneaaWB
import Derived.Test.YtnplnekfeabneaaGB
namespace Go.Proofs.Ytnplnekfeabneaa
open Go.RowKit
set_option linter.unusedSimpArgs false

theorem ceil_len (x : Int) (k : Nat) : (limbs (-x / 2 ^ k).natAbs).length ≤ (limbs x.natAbs).length + 1 := by
  have hp : (0 : Int) < 2 ^ k := Int.pow_pos (by omega)
  have hp1 : (1 : Int) ≤ 2 ^ k := hp
  have h : (-x / 2 ^ k).natAbs ≤ x.natAbs + 1 := by
    have a1 : -x / 2 ^ k ≤ x.natAbs := by
      rcases Int.le_total 0 (-x) with hx | hx
      · exact Int.le_trans (Int.ediv_le_self _ hx) (by omega)
      · exact Int.le_trans (Int.ediv_nonpos_of_nonpos_of_neg hx hp) (by omega)
    have a2 : -(x.natAbs : Int) - 1 ≤ -x / 2 ^ k := by
      rw [Int.le_ediv_iff_mul_le hp]
      have : (-(x.natAbs : Int) - 1) * 2 ^ k ≤ (-(x.natAbs : Int) - 1) * 1 := Int.mul_le_mul_of_nonpos_left (by omega) hp1
      omega
    omega
  refine limbs_len_le _ _ ?_
  have h2 := limbs_lt x.natAbs
  rw [Nat.pow_succ]
  generalize 16777216 ^ (limbs x.natAbs).length = Q at *
  omega

end Go.Proofs.Ytnplnekfeabneaa
