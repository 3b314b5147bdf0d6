/- The specification's l1Max, by its contract. -/
import Derived.Test.YtlpfjpbnedankaaBase
namespace Go.Proofs.Ytlpfjpbnedankaa
open Go.RowKit

theorem sMax (m n : Nat) (w : World) : Calls Try.prog 108 #[.int .i64 m, .int .i64 n] w fun e w' => e = .returned (.int .i64 (max m n : Nat)) ∧ w' = w := by
  by_cases h : (n : Int) < (m : Int)
  · have e : max m n = m := by omega
    rw [e]
    clear e
    go_enter Try.func108, Try.ntmps108
    go_wp2
    go_ret
    exact ⟨rfl, rfl⟩
  · have e : max m n = n := by omega
    rw [e]
    clear e
    go_enter Try.func108, Try.ntmps108
    go_wp2
    go_ret
    exact ⟨rfl, rfl⟩

end Go.Proofs.Ytlpfjpbnedankaa
