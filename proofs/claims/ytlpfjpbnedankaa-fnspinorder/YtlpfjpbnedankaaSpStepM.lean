/- Exact steps of a Spin: the answer (no walk). -/
import Derived.Test.YtlpfjpbnedankaaSpinB
import Derived.Test.YtlpfjpbnedankaaWB
namespace Go.Proofs.Ytlpfjpbnedankaa
open Go.RowKit

def stX (x y : Int) (k : Nat) (d : Int) : Int := x * 2 ^ k - y * d
def stY (x y : Int) (k : Nat) (d : Int) : Int := y * 2 ^ k + x * d
def stepP (a : Ph) (i d : Int) : Ph := ((mkW (stX (valW a.1.1) (valW a.1.2) i.toNat d), mkW (stY (valW a.1.1) (valW a.1.2) i.toNat d)), a.2 + i)
def stepR (a : Ph) (i d : Int) : Ph × Bool := if okP a = true ∧ (0 ≤ i ∧ i ≤ 30) ∧ (d = 1 ∨ d = -1) ∧ okP (stepP a i d) = true then (stepP a i d, true) else (a, false)
theorem okW_len48 {a : Wh} (h : okW a = true) : (limbs (valW a).natAbs).length ≤ 48 := by
  have e := mkW_of h
  have h2 : okB a.2 = true := by unfold okW at h; simp at h; exact h.1
  have e2 : a.2 = limbs (valW a).natAbs := congrArg Prod.snd e
  rw [← e2]
  unfold okB at h2
  simp at h2
  exact h2.1.1
theorem okP_yes {a : Ph} (h : okP a = true) : okW a.1.1 = true ∧ okW a.1.2 = true ∧ 0 ≤ a.2 ∧ a.2 ≤ 2000 := by
  unfold okP at h
  simp at h
  exact ⟨h.1.1, h.1.2, h.2.1, h.2.2⟩
theorem stepR_len (a : Ph) (i d : Int) (h0 : a.1.1.2.length ≤ 1048576) (h1 : a.1.2.2.length ≤ 1048576) : (stepR a i d).1.1.1.2.length ≤ 1048576 ∧ (stepR a i d).1.1.2.2.length ≤ 1048576 := by
  unfold stepR
  split
  · rename_i h
    have q := okP_yes h.2.2.2
    have q1 : okW (stepP a i d).1.1 = true := q.1
    have q2 : okW (stepP a i d).1.2 = true := q.2.1
    have e1 : (stepP a i d).1.1.2 = limbs (valW (stepP a i d).1.1).natAbs := congrArg Prod.snd (mkW_of q1)
    have e2 : (stepP a i d).1.2.2 = limbs (valW (stepP a i d).1.2).natAbs := congrArg Prod.snd (mkW_of q2)
    exact ⟨by show (stepP a i d).1.1.2.length ≤ 1048576; rw [e1]; exact Nat.le_trans (okW_len48 q1) (by decide), by show (stepP a i d).1.2.2.length ≤ 1048576; rw [e2]; exact Nat.le_trans (okW_len48 q2) (by decide)⟩
  · exact ⟨h0, h1⟩
theorem up30_len (x : Int) (k : Nat) (h : (limbs x.natAbs).length ≤ 48) (hk : k ≤ 30) : (limbs (x * 2 ^ k).natAbs).length ≤ 50 := by
  have e : (x * 2 ^ k).natAbs = x.natAbs * 2 ^ k := by rw [Int.natAbs_mul, Int.natAbs_pow]; rfl
  rw [e]
  refine limbs_len_le _ _ ?_
  have h1 := limbs_lt x.natAbs
  have h2 := Nat.pow_le_pow_right (by omega : 0 < 16777216) h
  have h3 : 2 ^ k ≤ 16777216 ^ 2 := by
    refine Nat.le_trans (Nat.pow_le_pow_right (by omega) hk) ?_
    decide +kernel
  have h4 : 16777216 ^ 48 * 16777216 ^ 2 ≤ 16777216 ^ 50 := by decide +kernel
  have h5 : x.natAbs * 2 ^ k ≤ x.natAbs * 16777216 ^ 2 := Nat.mul_le_mul_left _ h3
  have h6 : x.natAbs * 16777216 ^ 2 < 16777216 ^ 48 * 16777216 ^ 2 := Nat.mul_lt_mul_of_pos_right (by omega) (by decide +kernel)
  omega
theorem one_len (d : Int) (h : d = 1 ∨ d = -1) : (limbs d.natAbs).length ≤ 1 := by rcases h with rfl | rfl <;> exact limbs_len_le _ 1 (by decide)
theorem one_mul_len (x d : Int) (h : d = 1 ∨ d = -1) : (limbs (x * d).natAbs).length = (limbs x.natAbs).length := by
  rcases h with rfl | rfl
  · rw [Int.mul_one]
  · rw [Int.mul_neg, Int.mul_one, Int.natAbs_neg]

end Go.Proofs.Ytlpfjpbnedankaa
