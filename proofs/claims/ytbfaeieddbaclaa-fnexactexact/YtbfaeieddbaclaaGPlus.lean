/- The program's plus, by its contract. -/
import Derived.Test.YtbfaeieddbaclaaGSettle
import Derived.Test.YtbfaeieddbaclaaGReg
namespace Go.Proofs.Ytbfaeieddbaclaa
open Go.RowKit

theorem Below.drewN {B : Nat} {a w : World} (h : Below B a w) (q : Nat) : Below B a (w.drewN q) := h.trans ⟨rfl, rfl, rfl, Nat.le_refl _, fun _ _ => rfl⟩
theorem take_set_succ {ws : List Int} {k : Nat} (h : k < ws.length) (v : Int) : (ws.set k v).take (k + 1) = ws.take k ++ [v] := by
  rw [List.take_succ_eq_append_getElem (by rw [List.length_set]; exact h), List.take_set_of_le (Nat.le_refl _), List.getElem_set_self]
theorem gset_ne {ws : List Int} {k j : Nat} (v : Int) (h : k ≠ j) : (ws.set k v).getD j 0 = ws.getD j 0 := by
  rw [List.getD_eq_getElem?_getD, List.getElem?_set_ne h, ← List.getD_eq_getElem?_getD]
theorem getD_far {xs : List Int} {j : Nat} (h : xs.length ≤ j) : xs.getD j 0 = 0 := by
  rw [List.getD_eq_getElem?_getD, List.getElem?_eq_none h]; rfl
/-- A great number's block among the new ones is not one of what was there. -/
theorem GA.ne {w : World} {b o n : Nat} (h : GA w b o n) : b ≠ w.heap.size := Nat.ne_of_lt h.lt
/-- behind the sum -/
theorem sum_fin {ws : List Int} {m n k : Nat} (hr : inR (ws.take k)) (h : lval (ws.take k) = lval ((limbs m).take k) + lval ((limbs n).take k)) (h1 : (limbs m).length ≤ k) (h2 : (limbs n).length ≤ k) : num (ws.take k) = m + n := by
  rw [List.take_of_length_le h1, List.take_of_length_le h2, limbs_val, limbs_val] at h
  have := num_val hr
  omega

end Go.Proofs.Ytbfaeieddbaclaa
