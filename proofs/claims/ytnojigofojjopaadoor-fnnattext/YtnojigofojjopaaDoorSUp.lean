/- The specification's l2Up and NatShl, by their contracts. -/
import Derived.Test.YtnojigofojjopaaDoorSPow
import Derived.Test.YtnojigofojjopaaDoorSLimb
import Derived.Test.YtnojigofojjopaaDoorSTrim
import Derived.Laws.MakeOwn
namespace Go.Proofs.YtnojigofojjopaaDoor
open Go.RowKit

theorem up_step (i : Nat) (c x f A xk : Int) (ys : List Int) (hi : ys.length = i) (h : lval ys + 16777216 ^ i * c = f * A) (hx : x = xk * f + c) :
    lval (ys ++ [x % 16777216]) + 16777216 ^ (i + 1) * (x / 16777216) = f * (A + 16777216 ^ i * xk) := by
  rw [lval_snoc, hi, Int.pow_succ]
  have e : x = 16777216 * (x / 16777216) + x % 16777216 := by omega
  have e3 : (16777216 : Int) ^ i * x = 16777216 ^ i * 16777216 * (x / 16777216) + 16777216 ^ i * (x % 16777216) := by
    conv => lhs; rw [e]
    rw [Int.mul_add, ← Int.mul_assoc]
  have e2 : (16777216 : Int) ^ i * x = 16777216 ^ i * (xk * f) + 16777216 ^ i * c := by rw [hx, Int.mul_add]
  have e4 : f * (A + 16777216 ^ i * xk) = f * A + 16777216 ^ i * (xk * f) := by
    rw [Int.mul_add, Int.mul_comm xk f, ← Int.mul_assoc, ← Int.mul_assoc, Int.mul_comm f (16777216 ^ i)]
  omega

theorem mul_bd {d f : Int} (d0 : 0 ≤ d) (d1 : d < 16777216) (f0 : 0 < f) (_f1 : f ≤ 8388608) : 0 ≤ d * f ∧ d * f ≤ 16777215 * f := 
  ⟨Int.mul_nonneg d0 (by omega), Int.mul_le_mul_of_nonneg_right (by omega) (by omega)⟩

theorem pow24 (k : Nat) : (16777216 : Int) ^ (k / 24) * 2 ^ (k % 24) = 2 ^ k := by
  have e : (16777216 : Int) = 2 ^ 24 := by decide
  rw [e, ← Int.pow_mul, ← Int.pow_add]
  congr 1
  omega

end Go.Proofs.YtnojigofojjopaaDoor
