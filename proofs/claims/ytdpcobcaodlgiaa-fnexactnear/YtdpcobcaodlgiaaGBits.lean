/- bits.Len32 and the program's bits of a great number, each by its contract. -/
import Derived.Test.YtdpcobcaodlgiaaGB
import Derived.Test.YtdpcobcaodlgiaaSB
import Derived.Lib.BitFns
namespace Go.Proofs.Ytdpcobcaodlgiaa
open Go.RowKit

theorem nbits_eq : ∀ n, n < 18446744073709551616 → nbits n = Lib.bitLen n := by
  intro n
  induction n using Nat.strongRecOn with
  | ind n ih =>
    intro h
    by_cases h0 : n = 0
    · subst h0; rw [nbits_zero]; rfl
    · rw [nbits_pos n (by omega), Lib.bitLen_half n h0 h, ih (n / 2) (by omega) (by omega)]
      omega

theorem nbits_last {n s : Nat} (h : (limbs n).length = s + 1) : nbits n = 24 * s + nbits ((limbs n).getD s 0).toNat := by
  have hz : (limbs n).getD s 0 ≠ 0 := by
    have h1 := limbs_noZ n
    have hne : limbs n ≠ [] := by intro e; rw [e] at h; simp at h
    have h2 := h1 hne
    rw [last_getD hne, h] at h2
    exact h2
  have := nbits_limbs (limbs_inR n) s h hz
  rw [num_limbs] at this
  exact this
theorem limb_bits {x : Int} (h : x < 16777216) : nbits x.toNat ≤ 24 := nbits_le_pow 24 _ (by omega)

end Go.Proofs.Ytdpcobcaodlgiaa
