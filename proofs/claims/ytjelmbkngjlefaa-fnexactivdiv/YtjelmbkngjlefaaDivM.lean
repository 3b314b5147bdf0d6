/- Quotients of ends (no walk). -/
import Derived.Test.YtjelmbkngjlefaaProdB0
import Derived.Test.YtjelmbkngjlefaaDivUpB
import Derived.Test.YtjelmbkngjlefaaIFrom
namespace Go.Proofs.Ytjelmbkngjlefaa
open Go.RowKit

def dvLo (X x2 y2 : Int) : Int := lesserI (X / x2) (X / y2)
def dvHi (Y x2 y2 : Int) : Int := moreI (-(-Y / x2)) (-(-Y / y2))
theorem div_less {X x y : Int} (hX : 0 ≤ X) (hx : 0 < x) (h : x ≤ y) : X / y ≤ X / x := by
  rw [Int.le_ediv_iff_mul_le hx]
  have h1 : 0 ≤ X / y := Int.ediv_nonneg hX (by omega)
  have h2 : X / y * x ≤ X / y * y := Int.mul_le_mul_of_nonneg_left h h1
  have h3 : X / y * y ≤ X := Int.ediv_mul_le X (by omega)
  omega
theorem div_more {X x y : Int} (hX : X < 0) (hx : 0 < x) (h : x ≤ y) : X / x ≤ X / y := by
  rw [Int.le_ediv_iff_mul_le (by omega)]
  have h1 : X / x < 0 := Int.ediv_neg_of_neg_of_pos hX hx
  have h2 : X / x * y ≤ X / x * x := Int.mul_le_mul_of_nonpos_left (by omega) h
  have h3 : X / x * x ≤ X := Int.ediv_mul_le X (by omega)
  omega
theorem dvLo_neg {X x y : Int} (hX : X < 0) (hx : 0 < x) (h : x ≤ y) : dvLo X x y = X / x := by
  have := div_more hX hx h
  unfold dvLo lesserI
  rw [if_neg (by omega)]
theorem dvLo_pos {X x y : Int} (hX : 0 ≤ X) (hx : 0 < x) (h : x ≤ y) : dvLo X x y = X / y := by
  have := div_less hX hx h
  unfold dvLo lesserI
  split <;> omega
theorem dvHi_pos {X x y : Int} (hX : 0 ≤ X) (hx : 0 < x) (h : x ≤ y) : dvHi X x y = -(-X / x) := by
  unfold dvHi moreI
  by_cases h0 : X = 0
  · subst h0
    simp
  · have := div_more (X := -X) (by omega) hx h
    rw [if_neg (by omega)]
theorem dvHi_neg {X x y : Int} (hX : X < 0) (hx : 0 < x) (h : x ≤ y) : dvHi X x y = -(-X / y) := by
  have := div_less (X := -X) (by omega) hx h
  unfold dvHi moreI
  split <;> omega
theorem upI_len (x : Int) (k : Nat) (h : (limbs x.natAbs).length ≤ 48) (hk : k ≤ 480) : (limbs (x * 2 ^ k).natAbs).length ≤ 69 := by
  have e : (x * 2 ^ k).natAbs = x.natAbs * 2 ^ k := by rw [Int.natAbs_mul, Int.natAbs_pow]; rfl
  rw [e]
  refine limbs_len_le _ _ ?_
  have h1 := limbs_lt x.natAbs
  have h2 := Nat.pow_le_pow_right (by omega : 0 < 16777216) h
  have h3 : 2 ^ k ≤ 16777216 ^ 20 := by
    refine Nat.le_trans (Nat.pow_le_pow_right (by omega) hk) ?_
    decide +kernel
  have h4 : 16777216 ^ 48 * 16777216 ^ 20 ≤ 16777216 ^ 69 := by decide +kernel
  have h5 : x.natAbs * 2 ^ k ≤ x.natAbs * 16777216 ^ 20 := Nat.mul_le_mul_left _ h3
  have h6 : x.natAbs * 16777216 ^ 20 < 16777216 ^ 48 * 16777216 ^ 20 := Nat.mul_lt_mul_of_pos_right (by omega) (by decide +kernel)
  omega
theorem up_neg (x : Int) (k : Nat) : decide (x < 0) = decide (x * 2 ^ k < 0) := by
  have hp : (0 : Int) < 2 ^ k := Int.pow_pos (by omega)
  by_cases h : x < 0
  · rw [decide_eq_true h, decide_eq_true (Int.mul_neg_of_neg_of_pos h hp)]
  · have := Int.mul_nonneg (by omega : 0 ≤ x) (Int.le_of_lt hp)
    rw [decide_eq_false h, decide_eq_false (by omega)]

end Go.Proofs.Ytjelmbkngjlefaa
