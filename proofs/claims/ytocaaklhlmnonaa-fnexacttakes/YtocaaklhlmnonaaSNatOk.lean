/- The specification's NatOk, l2Limb, l2Trim, each by its contract. -/
import Derived.Test.YtocaaklhlmnonaaRowI
import Derived.Test.YtocaaklhlmnonaaLimb
import Derived.Test.YtocaaklhlmnonaaSIn
namespace Go.Proofs.Ytocaaklhlmnonaa
open Go.RowKit

def okB (xs : List Int) : Bool := decide (xs.length ≤ 48) && xs.all (fun x => decide (0 ≤ x) && decide (x < 16777216)) && (xs.getLast? != some 0)
theorem okB_iff (xs : List Int) : okB xs = true ↔ okL xs := by
  unfold okB okL inR noZ
  simp only [Bool.and_eq_true, decide_eq_true_eq, List.all_eq_true, bne_iff_ne, ne_eq, and_assoc]
  constructor
  · rintro ⟨h1, h2, h3⟩
    refine ⟨h1, fun x hx => h2 x hx, fun hne e => h3 ?_⟩
    rw [List.getLast?_eq_some_getLast hne, e]
  · rintro ⟨h1, h2, h3⟩
    refine ⟨h1, fun x hx => h2 x hx, fun e => ?_⟩
    have hne : xs ≠ [] := by rintro rfl; simp at e
    rw [List.getLast?_eq_some_getLast hne] at e
    exact h3 hne (Option.some.inj e)
theorem okB_no {xs : List Int} (h : ¬ okL xs) : okB xs = false := by
  cases e : okB xs
  · rfl
  · exact absurd ((okB_iff xs).1 e) h
theorem okB_yes {xs : List Int} (h : okL xs) : okB xs = true := (okB_iff xs).2 h
theorem getD_in {xs : List Int} {k : Nat} (h : k < xs.length) : xs.getD k 0 ∈ xs := by
  rw [List.getD_eq_getElem?_getD, List.getElem?_eq_getElem h]; exact List.getElem_mem _
theorem inR_getD {xs : List Int} (h : inR xs) (k : Nat) : 0 ≤ xs.getD k 0 ∧ xs.getD k 0 < 16777216 := by
  by_cases hk : k < xs.length
  · exact h _ (getD_in hk)
  · rw [List.getD_eq_getElem?_getD, List.getElem?_eq_none (by omega)]; simp
theorem last_getD {xs : List Int} (hne : xs ≠ []) : xs.getLast hne = xs.getD (xs.length - 1) 0 := by
  have hl : 0 < xs.length := List.length_pos_iff.2 hne
  rw [List.getLast_eq_getElem, List.getD_eq_getElem?_getD, List.getElem?_eq_getElem (by omega)]; rfl
theorem noZ_of {xs : List Int} (h : xs = [] ∨ xs.getD (xs.length - 1) 0 ≠ 0) : noZ xs := fun hne => by
  rw [last_getD hne]
  rcases h with h | h
  · exact absurd h hne
  · exact h

end Go.Proofs.Ytocaaklhlmnonaa
