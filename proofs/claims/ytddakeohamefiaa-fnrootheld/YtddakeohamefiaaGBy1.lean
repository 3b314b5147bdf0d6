/- The program's by, with a divisor of one word, and as a whole, by its contract. -/
import Derived.Test.YtddakeohamefiaaGBy
import Derived.Scope
namespace Go.Proofs.Ytddakeohamefiaa
open Go.RowKit
set_option linter.unusedSimpArgs false

theorem one_limb {d : Nat} (h : (limbs d).length = 1) : (limbs d).getD 0 0 = d ∧ 0 < d ∧ d < 16777216 := by
  have h0 : 0 < d := by
    apply Classical.byContradiction
    intro h1
    obtain rfl : d = 0 := by omega
    rw [limbs_zero] at h
    simp at h
  have h1 := limbs_lt d
  rw [h] at h1
  have h2 : d < 16777216 := by simpa using h1
  rw [limbs_pos d h0]
  refine ⟨?_, h0, h2⟩
  show ((d % 16777216 : Nat) : Int) = d
  rw [Nat.mod_eq_of_lt h2]

end Go.Proofs.Ytddakeohamefiaa
