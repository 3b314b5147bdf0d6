/- The specification's l2Limb, by its contract. -/
import Derived.Test.YtlpfjpbnedankaaBase
namespace Go.Proofs.Ytlpfjpbnedankaa
open Go.RowKit

theorem sLimb (v : Value) (xs : List Int) (i : Nat) (w : World) (h : rowI w v xs) :
    Calls Try.prog 106 #[v, .int .i64 i] w fun e w' => e = .returned (.int .i64 (xs.getD i 0)) ∧ w' = w := by
  obtain ⟨a, cap, rfl, h2, h3, h4, h5, h6⟩ := h
  by_cases hi : i < xs.length
  · obtain ⟨g, off, rfl, hg, hc⟩ := h6 i hi
    obtain ⟨d, hd⟩ : ∃ d, xs.getD i 0 = d := ⟨_, rfl⟩
    rw [hd] at hc ⊢
    clear hd h6 h4 h5
    go_enter Try.func106, Try.ntmps106
    go_wp2
    go_ret
    exact ⟨rfl, rfl⟩
  · have e : xs.getD i 0 = 0 := by rw [List.getD_eq_getElem?_getD, List.getElem?_eq_none (by omega)]; rfl
    rw [e]
    clear e h6 h4 h5
    go_enter Try.func106, Try.ntmps106
    go_wp2
    go_ret
    exact ⟨rfl, rfl⟩

end Go.Proofs.Ytlpfjpbnedankaa
