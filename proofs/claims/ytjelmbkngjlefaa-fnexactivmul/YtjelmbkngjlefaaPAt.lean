/- The places that may be asked for, on both sides. -/
import Derived.Test.YtjelmbkngjlefaaBase
import Derived.Below
namespace Go.Proofs.Ytjelmbkngjlefaa
open Go.RowKit

theorem placesAt (p : Int) (w : World) : Calls Try.prog 21 #[.int .i64 p] w fun e w' => e = .returned (.bool (decide (0 ≤ p ∧ p ≤ 480))) ∧ w' = w := by
  by_cases h1 : 0 ≤ p
  · by_cases h2 : p ≤ 480
    · rw [decide_eq_true ⟨h1, h2⟩]
      go_enter Try.func21, Try.ntmps21
      go_wp2
      go_ret
      exact ⟨rfl, rfl⟩
    · rw [decide_eq_false (by omega)]
      have h3 : decide (p ≤ 480) = false := decide_eq_false h2
      clear h2
      go_enter Try.func21, Try.ntmps21
      go_wp2
      go_ret
      exact ⟨rfl, rfl⟩
  · rw [decide_eq_false (by omega)]
    have h3 : decide (0 ≤ p) = false := decide_eq_false h1
    clear h1
    go_enter Try.func21, Try.ntmps21
    go_wp2
    go_ret
    exact ⟨rfl, rfl⟩

theorem pAt (p : Int) (w : World) : Calls Try.prog 16 #[.int .i64 p] w fun e w' => e = .returned (.bool (decide (0 ≤ p ∧ p ≤ 480))) ∧ w' = w := by
  have k : ∀ W, Calls Try.prog 34 #[.int .i64 p, .int .i64 0, .int .i64 480] W fun e w' => e = .returned (.bool (decide (0 ≤ p ∧ p ≤ 480))) ∧ w' = W := by
    intro W
    by_cases h : 0 ≤ p ∧ p ≤ 480
    · rw [decide_eq_true h]; exact in_yes p 0 480 W h.1 h.2
    · rw [decide_eq_false h]; exact in_no p 0 480 W h
  generalize decide (0 ≤ p ∧ p ≤ 480) = r at *
  go_enter Try.func16, Try.ntmps16
  go_wp2_with fail
  refine (k _).mono ?_
  rintro e w1 ⟨rfl, rfl⟩
  go_wp2
  go_ret
  exact ⟨rfl, rfl⟩
theorem placesAt_b (p : Int) (w : World) : Calls Try.prog 21 #[.int .i64 p] w fun e w' => e = .returned (.bool (decide (0 ≤ p ∧ p ≤ 480))) ∧ Below w.heap.size w w' :=
  (placesAt p w).mono fun _ _ ⟨h1, h2⟩ => ⟨h1, h2 ▸ Below.refl _ _⟩
theorem pAt_b (p : Int) (w : World) : Calls Try.prog 16 #[.int .i64 p] w fun e w' => e = .returned (.bool (decide (0 ≤ p ∧ p ≤ 480))) ∧ Below w.heap.size w w' :=
  (pAt p w).mono fun _ _ ⟨h1, h2⟩ => ⟨h1, h2 ▸ Below.refl _ _⟩

end Go.Proofs.Ytjelmbkngjlefaa
