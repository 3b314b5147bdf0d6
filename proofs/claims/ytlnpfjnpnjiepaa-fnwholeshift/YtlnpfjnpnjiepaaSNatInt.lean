/- The specification's NatInt, by its contract. -/
import Derived.Test.YtlnpfjnpnjiepaaBase
namespace Go.Proofs.Ytlnpfjnpnjiepaa
open Go.RowKit

theorem lval_dropI (xs : List Int) (k : Nat) : lval (xs.drop k) = xs.getD k 0 + 16777216 * lval (xs.drop (k + 1)) := by
  by_cases h : k < xs.length
  · rw [List.drop_eq_getElem_cons h, lval, List.getD_eq_getElem?_getD, List.getElem?_eq_getElem h]; rfl
  · rw [List.drop_of_length_le (by omega), List.drop_of_length_le (by omega), List.getD_eq_getElem?_getD, List.getElem?_eq_none (by omega)]; rfl

theorem lval_splitI (xs : List Int) (k : Nat) : lval xs = lval (xs.take k) + 16777216 ^ k * lval (xs.drop k) := by
  by_cases h : k ≤ xs.length
  · have := lval_append (xs.take k) (xs.drop k)
    rw [List.take_append_drop, List.length_take, Nat.min_eq_left h] at this
    exact this
  · rw [List.take_of_length_le (by omega), List.drop_of_length_le (by omega)]; simp [lval]

/-- Which numbers an int holds, by their limbs. -/
theorem int_small {xs : List Int} (h : okL xs) : num xs ≤ 9223372036854775807 ↔ xs.length ≤ 3 ∧ ¬ (xs.length = 3 ∧ 32767 < xs.getD 2 0) := by
  have hn := num_val h.2.1
  match xs, h with
  | [], _ => simp [num, lval]
  | [a], h =>
    have := (inR_cons.1 h.2.1).1
    simp [lval] at hn ⊢; omega
  | [a, b], h =>
    have h1 := inR_cons.1 h.2.1
    have h2 := inR_cons.1 h1.2
    simp [lval] at hn ⊢; omega
  | [a, b, c], h =>
    have h1 := inR_cons.1 h.2.1
    have h2 := inR_cons.1 h1.2
    have h3 := inR_cons.1 h2.2
    simp [lval] at hn ⊢; omega
  | a :: b :: c :: d :: r, h =>
    have h1 := inR_cons.1 h.2.1
    have h2 := inR_cons.1 h1.2
    have h3 := inR_cons.1 h2.2
    have h4 : lval (d :: r) ≠ 0 := by
      have hz : noZ (d :: r) := fun hne => by
        have := h.2.2 (by simp)
        rwa [List.getLast_cons (by simp), List.getLast_cons (by simp), List.getLast_cons (by simp)] at this
      intro e
      have := limbs_of h3.2 hz
      rw [e] at this
      simp [limbs_zero] at this
    have h5 := lval_nonneg h3.2
    have h6 : lval (a :: b :: c :: d :: r) = a + 16777216 * (b + 16777216 * (c + 16777216 * lval (d :: r))) := rfl
    rw [h6] at hn
    simp
    omega

end Go.Proofs.Ytlnpfjnpnjiepaa
