/- The program's lower and minus, each by its contract. -/
import Derived.Test.YtnojigofojjopaaDoorGPlus
import Derived.Test.YtnojigofojjopaaDoorGCmp
namespace Go.Proofs.YtnojigofojjopaaDoor
open Go.RowKit

theorem limbs_mono {m n : Nat} (h : n ≤ m) : (limbs n).length ≤ (limbs m).length := by
  apply Classical.byContradiction
  intro hn
  have := limbs_len_lt (m := m) (n := n) (by omega)
  omega
theorem less_fin {ws : List Int} {m n L : Nat} {bb : Int} (hr : inR (ws.take L)) (hlw : (ws.take L).length = L) (b0 : 0 ≤ bb) (b1 : bb ≤ 1) (hmn : n ≤ m) (hL : (limbs m).length = L)
    (h : lval (ws.take L) - 16777216 ^ L * bb = lval ((limbs m).take L) - lval ((limbs n).take L)) : num (ws.take L) = m - n := by
  have hn := limbs_mono hmn
  rw [List.take_of_length_le (Nat.le_of_eq hL), List.take_of_length_le (show (limbs n).length ≤ L by omega), limbs_val, limbs_val] at h
  have h1 := num_val hr
  have h2 := lval_lt hr
  rw [hlw] at h2
  have h3 := lval_nonneg hr
  have hb : bb = 0 := by
    apply Classical.byContradiction
    intro hne
    have e : bb = 1 := by omega
    rw [e, Int.mul_one] at h
    omega
  rw [hb, Int.mul_zero] at h
  omega

end Go.Proofs.YtnojigofojjopaaDoor
