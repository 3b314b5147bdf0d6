/- Small facts on right lists of limbs, for the laws. -/
import Derived.Test.YtnojigofojjopaaDoorBase
import Derived.Test.YtnojigofojjopaaDoorSBits
import Derived.Test.YtnojigofojjopaaDoorLawH
namespace Go.Proofs.YtnojigofojjopaaDoor
open Go.RowKit

theorem okB_limbs {n : Nat} (h : (limbs n).length ≤ 48) : okB (limbs n) = true := okB_yes (okL_limbs h)
theorem ok_limbs {xs : List Int} (h : okB xs = true) : limbs (num xs) = xs := (okL_eq ((okB_iff xs).1 h)).symm
theorem ok_len {xs : List Int} (h : okB xs = true) : xs.length ≤ 48 := ((okB_iff xs).1 h).1
theorem limbs_le48 {m : Nat} {xs : List Int} (h : okB xs = true) (hm : m ≤ num xs) : (limbs m).length ≤ 48 := by
  have := limbs_len_mono hm
  rw [ok_limbs h] at this
  have := ok_len h
  omega
theorem fitR_true {n : Nat} {us : List Int} (h : fitR n = (us, true)) : us = limbs n ∧ us.length ≤ 48 := by
  unfold fitR at h
  split at h
  · rename_i hl
    cases h
    exact ⟨rfl, hl⟩
  · cases h
theorem fitR_yes {n : Nat} (h : (limbs n).length ≤ 48) : fitR n = (limbs n, true) := by unfold fitR; rw [if_pos h]
theorem bits_up (n k : Nat) (h : 0 < n) : nbits (n * 2 ^ k) = nbits n + k := by
  have := nbits_high k 0 n (Nat.two_pow_pos k) h
  rw [Nat.zero_add, Nat.mul_comm] at this
  omega
theorem ok_bits {xs : List Int} (h : okB xs = true) : nbits (num xs) ≤ 1152 := by
  have h1 := nbits_len ((okB_iff xs).1 h).2.1
  have := ok_len h
  omega

end Go.Proofs.YtnojigofojjopaaDoor
