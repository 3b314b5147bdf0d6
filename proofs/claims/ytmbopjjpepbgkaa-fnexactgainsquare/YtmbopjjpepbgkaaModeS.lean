/- l1In and l5Mode of the specification, whatever they are asked, each by its contract. -/
import Derived.Test.YtmbopjjpepbgkaaBase
namespace Go.Proofs.Ytmbopjjpepbgkaa
open Go.RowKit

theorem inAt (x lo hi : Int) (w : World) : Calls Try.prog 21 #[.int .i64 x, .int .i64 lo, .int .i64 hi] w fun e w' => e = .returned (.bool (decide (lo ≤ x ∧ x ≤ hi))) ∧ w' = w := by
  by_cases h : lo ≤ x ∧ x ≤ hi
  · rw [decide_eq_true h]; exact in_yes x lo hi w h.1 h.2
  · rw [decide_eq_false h]; exact in_no x lo hi w h
theorem sModeAt (p : Int) (w : World) : Calls Try.prog 31 #[.int .i64 p] w fun e w' => e = .returned (.bool (decide (0 ≤ p ∧ p ≤ 4))) ∧ w' = w := by
  have k := fun W => inAt p 0 4 W
  generalize decide (0 ≤ p ∧ p ≤ 4) = r at *
  go_enter Try.func31, Try.ntmps31
  go_wp2_with fail
  refine (k _).mono ?_
  rintro e w1 ⟨rfl, rfl⟩
  go_wp2
  go_ret
  exact ⟨rfl, rfl⟩

end Go.Proofs.Ytmbopjjpepbgkaa
