/- The program's movedSpan, by its contract. -/
import Derived.Test.YtnplnekfeabneaaMoved
namespace Go.Proofs.Ytnplnekfeabneaa
open Go.RowKit
set_option linter.unusedSimpArgs false

/-- Ends times 2^d, the lower one's floor, the upper one's ceiling. -/
def mvLo (x d : Int) : Int := if 0 ≤ d then x * 2 ^ d.toNat else x / 2 ^ (-d).toNat
def mvHi (x d : Int) : Int := if 0 ≤ d then x * 2 ^ d.toNat else -(-x / 2 ^ (-d).toNat)
theorem frac_lo (z D : Int) : fracI z D 0 = z / D := by
  unfold fracI pickI
  split
  · rfl
  · rfl
theorem frac_hi (z D : Int) (hD : 0 < D) : fracI z D 1 = -(-z / D) := by
  have h1 := Int.emod_nonneg z (Int.ne_of_gt hD)
  have h2 := Int.emod_lt_of_pos z hD
  have h3 := Int.emod_def z D
  have hc : D * (z / D) = z / D * D := Int.mul_comm _ _
  rw [hc] at h3
  unfold fracI pickI
  by_cases h : z - z / D * D = 0
  · rw [decide_eq_true h, if_pos rfl]
    rw [edivG (x := -z) (z := -(z / D)) hD (by rw [Int.neg_mul]; omega) (by rw [Int.neg_mul]; omega)]
    omega
  · rw [decide_eq_false h, if_neg (by simp), if_pos rfl]
    rw [edivG (x := -z) (z := -(z / D) - 1) hD (by rw [Int.sub_mul, Int.neg_mul, Int.one_mul]; omega) (by rw [Int.sub_mul, Int.neg_mul, Int.one_mul]; omega)]
    omega
end Go.Proofs.Ytnplnekfeabneaa
