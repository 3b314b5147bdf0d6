/- More on limbs: sums, differences, order (plain facts). -/
import Derived.Test.YtnojigofojjopaaDoorNatR
namespace Go.Proofs.YtnojigofojjopaaDoor
open Go.RowKit

theorem ownsI_mono {w : World} {base base' : Nat} {v : Value} {xs : List Int} (h : ownsI w base v xs) (hb : base' ≤ base) : ownsI w base' v xs := by
  refine ⟨h.1, ?_⟩
  rcases h.2 with h | ⟨g, cap, cur, h1, h2, h3⟩
  · exact .inl h
  · exact .inr ⟨g, cap, cur, h1, Nat.le_trans hb h2, h3⟩

/-- The first limbs, one more. -/
theorem lval_take_succ (xs : List Int) (k : Nat) : lval (xs.take (k + 1)) = lval (xs.take k) + 16777216 ^ k * xs.getD k 0 := by
  by_cases h : k < xs.length
  · rw [List.take_succ_eq_append_getElem h, lval_snoc, List.length_take, Nat.min_eq_left (by omega), List.getD_eq_getElem?_getD, List.getElem?_eq_getElem h]; rfl
  · rw [List.take_of_length_le (by omega), List.take_of_length_le (by omega), List.getD_eq_getElem?_getD, List.getElem?_eq_none (by omega)]
    simp

theorem plus_step (k : Nat) (c x A B : Int) (out : List Int) (hk : out.length = k) (h : lval out + 16777216 ^ k * c = A + B) (xk yk : Int) (hx : x = xk + yk + c) :
    lval (out ++ [x % 16777216]) + 16777216 ^ (k + 1) * (x / 16777216) = (A + 16777216 ^ k * xk) + (B + 16777216 ^ k * yk) := by
  rw [lval_snoc, hk, Int.pow_succ]
  have e : x = 16777216 * (x / 16777216) + x % 16777216 := by omega
  have e2 : (16777216 : Int) ^ k * x = 16777216 ^ k * xk + 16777216 ^ k * yk + 16777216 ^ k * c := by rw [hx, Int.mul_add, Int.mul_add]
  have e3 : (16777216 : Int) ^ k * x = 16777216 ^ k * 16777216 * (x / 16777216) + 16777216 ^ k * (x % 16777216) := by
    conv => lhs; rw [e]
    rw [Int.mul_add, ← Int.mul_assoc]
  omega

theorem less_step (k : Nat) (b x A B : Int) (out : List Int) (hk : out.length = k) (h : lval out - 16777216 ^ k * b = A - B) (xk yk : Int) (b' z : Int) (hx : x = xk - yk - b) (hz : z = x + 16777216 * b') :
    lval (out ++ [z]) - 16777216 ^ (k + 1) * b' = (A + 16777216 ^ k * xk) - (B + 16777216 ^ k * yk) := by
  rw [lval_snoc, hk, Int.pow_succ, hz, hx]
  have e1 : (16777216 : Int) ^ k * (xk - yk - b + 16777216 * b') = 16777216 ^ k * xk - 16777216 ^ k * yk - 16777216 ^ k * b + 16777216 ^ k * 16777216 * b' := by
    rw [Int.mul_add, Int.mul_sub, Int.mul_sub, ← Int.mul_assoc]
  omega

theorem lval_drop (xs : List Int) (k : Nat) : lval (xs.drop k) = xs.getD k 0 + 16777216 * lval (xs.drop (k + 1)) := by
  by_cases h : k < xs.length
  · rw [List.drop_eq_getElem_cons h, lval, List.getD_eq_getElem?_getD, List.getElem?_eq_getElem h]; rfl
  · rw [List.drop_of_length_le (by omega), List.drop_of_length_le (by omega), List.getD_eq_getElem?_getD, List.getElem?_eq_none (by omega)]; rfl
theorem lval_split (xs : List Int) (k : Nat) : lval xs = lval (xs.take k) + 16777216 ^ k * lval (xs.drop k) := by
  by_cases h : k ≤ xs.length
  · have := lval_append (xs.take k) (xs.drop k)
    rw [List.take_append_drop, List.length_take, Nat.min_eq_left h] at this
    exact this
  · rw [List.take_of_length_le (by omega), List.drop_of_length_le (by omega)]; simp [lval]
theorem pow_le {j k : Nat} (h : j ≤ k) : (16777216 : Int) ^ j ≤ 16777216 ^ k := by
  have h1 := Nat.pow_le_pow_right (by omega : 0 < 16777216) h
  have e1 : ((16777216 ^ j : Nat) : Int) = (16777216 : Int) ^ j := by simp
  have e2 : ((16777216 ^ k : Nat) : Int) = (16777216 : Int) ^ k := by simp
  omega
theorem lval_take_lt {xs : List Int} (h : inR xs) (k : Nat) : lval (xs.take k) < 16777216 ^ k := by
  have h1 := lval_lt (inR_take h k)
  have h2 : (16777216 : Int) ^ (xs.take k).length ≤ 16777216 ^ k := pow_le (by rw [List.length_take]; omega)
  omega
theorem cmp_lt {xs ys : List Int} (hx : inR xs) (hy : inR ys) (k : Nat) (h : lval (xs.drop k) < lval (ys.drop k)) : num xs < num ys := by
  have h1 := num_val hx
  have h2 := num_val hy
  have h3 := lval_split xs k
  have h4 := lval_split ys k
  have h5 := lval_take_lt hx k
  have h6 := lval_nonneg (inR_take hy k)
  have h7 : (16777216 : Int) ^ k * (lval (xs.drop k) + 1) ≤ 16777216 ^ k * lval (ys.drop k) := Int.mul_le_mul_of_nonneg_left (by omega) (by have := pow_pos k; omega)
  rw [Int.mul_add, Int.mul_one] at h7
  omega

end Go.Proofs.YtnojigofojjopaaDoor
