/- The specification's l2Pow, by its contract. -/
import Derived.Test.YtnojigofojjopaaDoorSIn
namespace Go.Proofs.YtnojigofojjopaaDoor
open Go.RowKit

theorem two_pow_le {k m : Nat} (h : k ≤ m) : (2 : Int) ^ k ≤ 2 ^ m := by
  have h1 := Nat.pow_le_pow_right (by omega : 0 < 2) h
  have e1 : ((2 ^ k : Nat) : Int) = (2 : Int) ^ k := by simp
  have e2 : ((2 ^ m : Nat) : Int) = (2 : Int) ^ m := by simp
  omega
theorem two_pow_pos (k : Nat) : (0 : Int) < 2 ^ k := Int.pow_pos (by omega)

end Go.Proofs.YtnojigofojjopaaDoor
