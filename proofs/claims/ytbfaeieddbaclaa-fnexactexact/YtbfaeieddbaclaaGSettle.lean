/- The program's settle, by its contract. -/
import Derived.Test.YtbfaeieddbaclaaGOf
namespace Go.Proofs.Ytbfaeieddbaclaa
open Go.RowKit

theorem getD_take {xs : List Int} {m j : Nat} (h : j < m) : (xs.take m).getD j 0 = xs.getD j 0 := by
  rw [List.getD_eq_getElem?_getD, List.getD_eq_getElem?_getD, List.getElem?_take, if_pos h]
theorem eq_pad {ws xs : List Int} (hl : ws.length = 98) (h : ws.take xs.length = xs) (hx : xs.length ≤ 98) (hz : ∀ j, xs.length ≤ j → ws.getD j 0 = 0) : ws = pad xs := by
  apply List.ext_getElem?
  intro i
  by_cases hi : i < 98
  · have e1 : ws[i]? = some (ws.getD i 0) := by rw [List.getD_eq_getElem?_getD, List.getElem?_eq_getElem (by omega)]; rfl
    have e2 : (pad xs)[i]? = some ((pad xs).getD i 0) := by rw [List.getD_eq_getElem?_getD, List.getElem?_eq_getElem (by rw [pad_len hx]; exact hi)]; rfl
    rw [e1, e2, pad_getD]
    by_cases h2 : i < xs.length
    · rw [← h, getD_take (by omega)]
    · rw [hz i (by omega), List.getD_eq_getElem?_getD, List.getElem?_eq_none (by omega)]; rfl
  · rw [List.getElem?_eq_none (by omega), List.getElem?_eq_none (by rw [pad_len hx]; omega)]
theorem settle_fin {ws : List Int} {m t : Nat} (hl : ws.length = 98) (hm : m ≤ 98) (hr : inR (ws.take m)) (ht : t ≤ m) (hz : ∀ j, t ≤ j → ws.getD j 0 = 0) (h0 : 0 < t → ws.getD (t - 1) 0 ≠ 0) :
    ws = pad (limbs (num (ws.take m))) ∧ t = (limbs (num (ws.take m))).length := by
  have hlm : (ws.take m).length = m := by rw [List.length_take]; omega
  have e := trim_limbs (ws.take m) t hr (by omega) (fun j h1 h2 => by rw [getD_take (by omega)]; exact hz j h1) (fun h => by rw [getD_take (by omega)]; exact h0 h)
  rw [List.take_take, Nat.min_eq_left ht] at e
  have el : t = (limbs (num (ws.take m))).length := by rw [← e, List.length_take]; omega
  refine ⟨eq_pad hl (by rw [← el]; exact e) (by omega) (fun j hj => hz j (by omega)), el⟩

end Go.Proofs.Ytbfaeieddbaclaa
