/- The program's byWord, by its contract. -/
import Derived.Test.YtdpcobcaodlgiaaGB
import Derived.Test.YtdpcobcaodlgiaaBase
import Derived.Test.YtdpcobcaodlgiaaSB
namespace Go.Proofs.Ytdpcobcaodlgiaa
open Go.RowKit

theorem bw_set (zs : List Int) (i : Nat) (y : Int) (h : i < zs.length) : lval ((zs.set i y).drop i) = y + 16777216 * lval (zs.drop (i + 1)) := by
  rw [lval_drop]
  have e1 : (zs.set i y).getD i 0 = y := by simp [List.getD_eq_getElem?_getD, h]
  have e2 : (zs.set i y).drop (i + 1) = zs.drop (i + 1) := List.drop_set_of_lt (by omega)
  rw [e1, e2]

theorem bw_step {a rest d x Z V : Int} (h : V = d * Z + rest) (hx : x = rest * 16777216 + a) : a + 16777216 * V = d * (x / d + 16777216 * Z) + x % d := by
  have := Int.mul_ediv_add_emod x d
  grind

theorem bw_bd {a rest d : Int} (a0 : 0 ≤ a) (a1 : a < 16777216) (r0 : 0 ≤ rest) (r1 : rest < d) : 0 ≤ (rest * 16777216 + a) / d ∧ (rest * 16777216 + a) / d < 16777216 ∧ 0 ≤ (rest * 16777216 + a) % d ∧ (rest * 16777216 + a) % d < d := by
  have hd : 0 < d := by omega
  refine ⟨Int.ediv_nonneg (by omega) (by omega), Int.ediv_lt_of_lt_mul hd ?_, Int.emod_nonneg _ (by omega), Int.emod_lt_of_pos _ hd⟩
  omega


end Go.Proofs.Ytdpcobcaodlgiaa
