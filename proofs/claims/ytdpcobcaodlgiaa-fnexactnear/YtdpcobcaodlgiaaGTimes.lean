/- The program's times, by its contract. -/
import Derived.Test.YtdpcobcaodlgiaaGB
import Derived.Test.YtdpcobcaodlgiaaSB
namespace Go.Proofs.Ytdpcobcaodlgiaa
open Go.RowKit

theorem lval_drop_zeros {zs : List Int} {k : Nat} (h : ∀ q, k ≤ q → zs.getD q 0 = 0) : lval (zs.drop k) = 0 := by
  have : zs.drop k = List.replicate (zs.length - k) 0 := by
    apply List.ext_getElem?
    intro i
    rw [List.getElem?_drop, List.getElem?_replicate]
    split
    · have := h (k + i) (by omega)
      rw [List.getD_eq_getElem?_getD, List.getElem?_eq_getElem (by omega)] at this
      rw [List.getElem?_eq_getElem (by omega)]
      simpa using this
    · rw [List.getElem?_eq_none (by omega)]
  rw [this, lval_zeros]
theorem num_take_zeros {zs : List Int} {k : Nat} (hr : inR zs) (h : ∀ q, k ≤ q → zs.getD q 0 = 0) : num (zs.take k) = num zs := by
  have h1 := lval_split zs k
  rw [lval_drop_zeros h] at h1
  have h2 := num_val hr
  have h3 := num_val (inR_take hr k)
  omega
theorem mul_limbs_len (m n : Nat) : (limbs (m * n)).length ≤ (limbs m).length + (limbs n).length := by
  refine limbs_len_le _ _ ?_
  have h1 := limbs_lt m
  have h2 := limbs_lt n
  rw [Nat.pow_add]
  exact Nat.mul_lt_mul'' h1 h2

end Go.Proofs.Ytdpcobcaodlgiaa
