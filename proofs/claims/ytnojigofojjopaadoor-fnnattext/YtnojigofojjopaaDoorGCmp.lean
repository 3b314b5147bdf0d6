/- The program's order of great numbers, by its contract. -/
import Derived.Test.YtnojigofojjopaaDoorGSettle
import Derived.BigQuiet
namespace Go.Proofs.YtnojigofojjopaaDoor
open Go.RowKit

def cmpG (x y : Int) : Int := if x < y then -1 else if y < x then 1 else 0

theorem limbs_len_lt {m n : Nat} (h : (limbs m).length < (limbs n).length) : m < n := by
  have h1 := limbs_lt m
  apply Classical.byContradiction
  intro hn
  have := limbs_len_le n (limbs m).length (by omega)
  omega
theorem cmp_len {m n : Nat} (h : (limbs m).length ≠ (limbs n).length) : cmpG ((limbs m).length : Int) ((limbs n).length : Int) = cmpI m n := by
  unfold cmpG cmpI
  rcases Nat.lt_or_gt_of_ne h with h | h
  · have := limbs_len_lt h
    rw [if_pos (by omega), if_pos this]
  · have := limbs_len_lt h
    rw [if_neg (by omega), if_pos (by omega), if_neg (by omega), if_pos this]
theorem drop_same {xs ys : List Int} {k : Nat} (h : ∀ j, k ≤ j → xs.getD j 0 = ys.getD j 0) (hl : xs.length = ys.length) : lval (xs.drop k) = lval (ys.drop k) := by
  have : xs.drop k = ys.drop k := by
    apply List.ext_getElem?
    intro i
    rw [List.getElem?_drop, List.getElem?_drop]
    by_cases hi : k + i < xs.length
    · have := h (k + i) (by omega)
      rw [List.getD_eq_getElem?_getD, List.getD_eq_getElem?_getD, List.getElem?_eq_getElem hi, List.getElem?_eq_getElem (by omega)] at this
      rw [List.getElem?_eq_getElem hi, List.getElem?_eq_getElem (by omega)]
      simpa using this
    · rw [List.getElem?_eq_none (by omega), List.getElem?_eq_none (by omega)]
  rw [this]
theorem cmp_word {m n s : Nat} (hl : (limbs m).length = (limbs n).length) (h : ∀ j, s + 1 ≤ j → (limbs m).getD j 0 = (limbs n).getD j 0) (hd : (limbs m).getD s 0 ≠ (limbs n).getD s 0) :
    cmpG ((limbs m).getD s 0) ((limbs n).getD s 0) = cmpI m n := by
  have e := drop_same h hl
  have d1 := lval_drop (limbs m) s
  have d2 := lval_drop (limbs n) s
  rcases Int.lt_or_gt_of_ne hd with hlt | hgt
  · have h1 := cmp_lt (limbs_inR m) (limbs_inR n) s (by omega)
    rw [num_limbs, num_limbs] at h1
    unfold cmpG cmpI
    rw [if_pos hlt, if_pos h1]
  · have h1 := cmp_lt (limbs_inR n) (limbs_inR m) s (by omega)
    rw [num_limbs, num_limbs] at h1
    unfold cmpG cmpI
    rw [if_neg (by omega), if_pos hgt, if_neg (by omega), if_pos h1]
theorem cmp_same {m n : Nat} (hl : (limbs m).length = (limbs n).length) (h : ∀ j, 0 ≤ j → (limbs m).getD j 0 = (limbs n).getD j 0) : cmpI m n = 0 := by
  have e := drop_same (k := 0) h hl
  simp only [List.drop_zero, limbs_val] at e
  have : m = n := by omega
  subst this
  unfold cmpI
  rw [if_neg (by omega), if_neg (by omega)]

end Go.Proofs.YtnojigofojjopaaDoor
