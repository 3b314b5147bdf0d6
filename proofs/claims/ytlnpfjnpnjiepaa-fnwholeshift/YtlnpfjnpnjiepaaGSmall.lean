/- The program's small, NatInt and NatBits, each by its contract. -/
import Derived.Test.YtlnpfjnpnjiepaaGBits
import Derived.Test.YtlnpfjnpnjiepaaGB
namespace Go.Proofs.Ytlnpfjnpnjiepaa
open Go.RowKit

theorem nbits_63 (n : Nat) : nbits n ≤ 63 ↔ n ≤ 9223372036854775807 := by
  constructor
  · intro h
    have h1 := lt_nbits n
    have h2 := Nat.pow_le_pow_right (by omega : 0 < 2) h
    have h3 : n < 2 ^ 63 := by omega
    omega
  · intro h
    exact nbits_le_pow 63 n (by omega)
theorem lval_drop_le (n s : Nat) : 0 ≤ lval ((limbs n).drop s) ∧ lval ((limbs n).drop s) ≤ n := by
  have h1 := lval_split (limbs n) s
  rw [limbs_val] at h1
  have h2 := lval_nonneg (inR_take (limbs_inR n) s)
  have h3 := lval_nonneg (inR_drop (limbs_inR n) s)
  have h4 : 1 * lval ((limbs n).drop s) ≤ 16777216 ^ s * lval ((limbs n).drop s) := Int.mul_le_mul_of_nonneg_right (by have := pow_pos s; omega) h3
  omega

end Go.Proofs.Ytlnpfjnpnjiepaa
