/- The least and the greatest of four products (no walk). -/
import Derived.Test.YtlpfjpbnedankaaSgB
import Derived.Test.YtlpfjpbnedankaaPSB
namespace Go.Proofs.Ytlpfjpbnedankaa
open Go.RowKit

def lesserI (a b : Int) : Int := if b < a then b else a
def moreI (a b : Int) : Int := if a < b then b else a
/-- The least and the greatest of the products of the ends. -/
def prLo (x1 y1 x2 y2 : Int) : Int := lesserI (lesserI (lesserI (x1 * x2) (x1 * y2)) (y1 * x2)) (y1 * y2)
def prHi (x1 y1 x2 y2 : Int) : Int := moreI (moreI (moreI (x1 * x2) (x1 * y2)) (y1 * x2)) (y1 * y2)
theorem lesserI_or (a b : Int) : lesserI a b = a ∨ lesserI a b = b := by unfold lesserI; split <;> simp
theorem moreI_or (a b : Int) : moreI a b = a ∨ moreI a b = b := by unfold moreI; split <;> simp
theorem limbs_mulI (x y : Int) (m n : Nat) (hx : (limbs x.natAbs).length ≤ m) (hy : (limbs y.natAbs).length ≤ n) : (limbs (x * y).natAbs).length ≤ m + n := by
  rw [Int.natAbs_mul]
  refine limbs_len_le _ _ ?_
  have h1 := limbs_lt x.natAbs
  have h2 := limbs_lt y.natAbs
  have e1 := Nat.pow_le_pow_right (by omega : 0 < 16777216) hx
  have e2 := Nat.pow_le_pow_right (by omega : 0 < 16777216) hy
  rw [Nat.pow_add]
  exact Nat.mul_lt_mul'' (by omega) (by omega)
theorem prLo_or (x1 y1 x2 y2 : Int) : prLo x1 y1 x2 y2 = x1 * x2 ∨ prLo x1 y1 x2 y2 = x1 * y2 ∨ prLo x1 y1 x2 y2 = y1 * x2 ∨ prLo x1 y1 x2 y2 = y1 * y2 := by
  unfold prLo
  rcases lesserI_or (lesserI (lesserI (x1 * x2) (x1 * y2)) (y1 * x2)) (y1 * y2) with h | h <;> rw [h]
  · rcases lesserI_or (lesserI (x1 * x2) (x1 * y2)) (y1 * x2) with h | h <;> rw [h]
    · rcases lesserI_or (x1 * x2) (x1 * y2) with h | h <;> rw [h] <;> simp
    · simp
  · simp
theorem prHi_or (x1 y1 x2 y2 : Int) : prHi x1 y1 x2 y2 = x1 * x2 ∨ prHi x1 y1 x2 y2 = x1 * y2 ∨ prHi x1 y1 x2 y2 = y1 * x2 ∨ prHi x1 y1 x2 y2 = y1 * y2 := by
  unfold prHi
  rcases moreI_or (moreI (moreI (x1 * x2) (x1 * y2)) (y1 * x2)) (y1 * y2) with h | h <;> rw [h]
  · rcases moreI_or (moreI (x1 * x2) (x1 * y2)) (y1 * x2) with h | h <;> rw [h]
    · rcases moreI_or (x1 * x2) (x1 * y2) with h | h <;> rw [h] <;> simp
    · simp
  · simp
theorem prLo_len (x1 y1 x2 y2 : Int) (m1 : (limbs x1.natAbs).length ≤ 48) (m2 : (limbs y1.natAbs).length ≤ 48) (m3 : (limbs x2.natAbs).length ≤ 48) (m4 : (limbs y2.natAbs).length ≤ 48) : (limbs (prLo x1 y1 x2 y2).natAbs).length ≤ 96 := by
  rcases prLo_or x1 y1 x2 y2 with h | h | h | h <;> rw [h] <;> exact limbs_mulI _ _ 48 48 (by assumption) (by assumption)
theorem prHi_len (x1 y1 x2 y2 : Int) (m1 : (limbs x1.natAbs).length ≤ 48) (m2 : (limbs y1.natAbs).length ≤ 48) (m3 : (limbs x2.natAbs).length ≤ 48) (m4 : (limbs y2.natAbs).length ≤ 48) : (limbs (prHi x1 y1 x2 y2).natAbs).length ≤ 96 := by
  rcases prHi_or x1 y1 x2 y2 with h | h | h | h <;> rw [h] <;> exact limbs_mulI _ _ 48 48 (by assumption) (by assumption)
theorem pr_nonneg (x1 y1 x2 y2 : Int) (h1 : 0 ≤ x1) (h2 : x1 ≤ y1) (h3 : 0 ≤ x2) (h4 : x2 ≤ y2) : prLo x1 y1 x2 y2 = x1 * x2 ∧ prHi x1 y1 x2 y2 = y1 * y2 := by
  have a1 : x1 * x2 ≤ x1 * y2 := Int.mul_le_mul_of_nonneg_left h4 h1
  have a2 : x1 * x2 ≤ y1 * x2 := Int.mul_le_mul_of_nonneg_right h2 h3
  have a3 : x1 * y2 ≤ y1 * y2 := Int.mul_le_mul_of_nonneg_right h2 (by omega)
  have a4 : y1 * x2 ≤ y1 * y2 := Int.mul_le_mul_of_nonneg_left h4 (by omega)
  unfold prLo prHi lesserI moreI
  generalize x1 * x2 = p1 at *
  generalize x1 * y2 = p2 at *
  generalize y1 * x2 = p3 at *
  generalize y1 * y2 = p4 at *
  constructor
  · repeat (split <;> try omega)
  · repeat (split <;> try omega)

end Go.Proofs.Ytlpfjpbnedankaa
