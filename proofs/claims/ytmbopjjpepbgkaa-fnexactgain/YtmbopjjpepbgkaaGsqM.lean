/- The square of the gain: the numbers (no walk). -/
import Derived.Test.YtmbopjjpepbgkaaIFrom
import Derived.Test.YtmbopjjpepbgkaaMovedS
import Derived.Test.YtmbopjjpepbgkaaRB
import Derived.Test.YtmbopjjpepbgkaaWB
namespace Go.Proofs.Ytmbopjjpepbgkaa
open Go.RowKit
set_option linter.unusedSimpArgs false

def gsq (p : Nat) : Nat → Int × Int
  | 0 => (2 ^ p, 2 ^ p)
  | i + 1 => ((gsq p i).1 + (gsq p i).1 / 2 ^ (2 * i), (gsq p i).2 + -(-(gsq p i).2 / 2 ^ (2 * i)))
theorem abs_ediv (x : Int) (k : Nat) : (x / 2 ^ k).natAbs ≤ x.natAbs := by
  have hp : (0 : Int) < 2 ^ k := Int.pow_pos (by omega)
  generalize (2 : Int) ^ k = n at *
  by_cases h : 0 ≤ x
  · have h1 := Int.ediv_nonneg h (Int.le_of_lt hp)
    have h2 := Int.ediv_le_self n h
    omega
  · have h1 : x ≤ x / n := (Int.le_ediv_iff_mul_le hp).2 (by
      have h3 : (-x) * 1 ≤ (-x) * n := Int.mul_le_mul_of_nonneg_left (by omega) (by omega)
      rw [Int.neg_mul, Int.neg_mul, Int.mul_one] at h3
      omega)
    have h2 : x / n < 0 := Int.ediv_neg_of_neg_of_pos (by omega) hp
    omega
theorem mvLo_down (x : Int) (k : Nat) : mvLo x (-(k : Int)) = x / 2 ^ k := by
  unfold mvLo
  by_cases h : 0 ≤ -(k : Int)
  · obtain rfl : k = 0 := by omega
    simp
  · rw [if_neg h, show (-(-(k : Int))).toNat = k by omega]
theorem mvHi_down (x : Int) (k : Nat) : mvHi x (-(k : Int)) = -(-x / 2 ^ k) := by
  unfold mvHi
  by_cases h : 0 ≤ -(k : Int)
  · obtain rfl : k = 0 := by omega
    simp
  · rw [if_neg h, show (-(-(k : Int))).toNat = k by omega]

theorem gsq_nonneg (p n : Nat) : 0 ≤ (gsq p n).1 ∧ 0 ≤ (gsq p n).2 := by
  induction n with
  | zero => exact ⟨Int.le_of_lt (Int.pow_pos (by omega)), Int.le_of_lt (Int.pow_pos (by omega))⟩
  | succ i ih =>
    have hp : (0 : Int) < 2 ^ (2 * i) := Int.pow_pos (by omega)
    have h1 : 0 ≤ (gsq p i).1 / 2 ^ (2 * i) := Int.ediv_nonneg ih.1 (Int.le_of_lt hp)
    have h2 : -(gsq p i).2 / 2 ^ (2 * i) ≤ 0 := by
      have := Int.ediv_le_ediv hp (show -(gsq p i).2 ≤ 0 by have := ih.2; omega)
      rw [Int.zero_ediv] at this
      exact this
    refine ⟨?_, ?_⟩
    · show 0 ≤ (gsq p i).1 + _
      have := ih.1
      omega
    · show 0 ≤ (gsq p i).2 + _
      have := ih.2
      omega
theorem gsq_bd (p n : Nat) : (gsq p n).1.natAbs ≤ 2 ^ (p + n) ∧ (gsq p n).2.natAbs ≤ 2 ^ (p + n) := by
  induction n with
  | zero =>
    have h : ((2 : Int) ^ p).natAbs = 2 ^ p := by rw [Int.natAbs_pow]; rfl
    exact ⟨Nat.le_of_eq h, Nat.le_of_eq h⟩
  | succ i ih =>
    have h1 := abs_ediv (gsq p i).1 (2 * i)
    have h2 := abs_ediv (-(gsq p i).2) (2 * i)
    have e : 2 ^ (p + (i + 1)) = 2 ^ (p + i) * 2 := Nat.pow_succ ..
    rw [e]
    refine ⟨?_, ?_⟩
    · show ((gsq p i).1 + (gsq p i).1 / 2 ^ (2 * i)).natAbs ≤ _
      have := ih.1
      omega
    · show ((gsq p i).2 + -(-(gsq p i).2 / 2 ^ (2 * i))).natAbs ≤ _
      have := ih.2
      omega
theorem gpow_len (k L : Nat) (h : k < 24 * L) : (limbs (2 ^ k)).length ≤ L := limbs_len_le _ L (by
  have e : (16777216 : Nat) ^ L = 2 ^ (24 * L) := by rw [Nat.pow_mul]
  rw [e]
  exact Nat.pow_lt_pow_right (by omega) h)
theorem pow_len29 (k : Nat) (h : k ≤ 695) : (limbs (2 ^ k)).length ≤ 29 := gpow_len k 29 (by omega)
theorem gsq_len (p n : Nat) (h : p + n ≤ 695) : (limbs (gsq p n).1.natAbs).length ≤ 29 ∧ (limbs (gsq p n).2.natAbs).length ≤ 29 :=
  ⟨Nat.le_trans (limbs_mono (gsq_bd p n).1) (pow_len29 _ h), Nat.le_trans (limbs_mono (gsq_bd p n).2) (pow_len29 _ h)⟩
theorem gsq_part (p n : Nat) (h : p + n ≤ 695) : (limbs ((gsq p n).1 / 2 ^ (2 * n)).natAbs).length ≤ 29 ∧ (limbs (-(-(gsq p n).2 / 2 ^ (2 * n))).natAbs).length ≤ 29 := by
  have h1 := abs_ediv (gsq p n).1 (2 * n)
  have h2 := abs_ediv (-(gsq p n).2) (2 * n)
  refine ⟨Nat.le_trans (limbs_mono h1) (gsq_len p n h).1, Nat.le_trans (limbs_mono (m := (gsq p n).2.natAbs) (by omega)) (gsq_len p n h).2⟩
theorem fitV_all (x y : Int) (hx : (limbs x.natAbs).length ≤ 48) (hy : (limbs y.natAbs).length ≤ 48) : fitV x y = ((mkW x, mkW y), true) := by
  unfold fitV fitW
  rw [if_pos hx, if_pos hy]
  rfl
/-- What is known of the squared gain's root, moved. -/
def gnLo (p n : Nat) : Int := rtLo ((gsq (p + 16) n).1.natAbs * 2 ^ (p + 16)) / 2 ^ 16
def gnHi (p n : Nat) : Int := -(-((rtUp ((gsq (p + 16) n).2.natAbs * 2 ^ (p + 16)) : Nat) : Int) / 2 ^ 16)
def gsR (n p : Int) : Vh × Bool := if (1 ≤ p ∧ p ≤ 464) ∧ 0 ≤ n ∧ n ≤ 200 then ((mkW (gsq p.toNat n.toNat).1, mkW (gsq p.toNat n.toNat).2), true) else (((false, []), (false, [])), false)
def gnR (n p : Int) : Vh × Bool := if (1 ≤ p ∧ p ≤ 464) ∧ 0 ≤ n ∧ n ≤ 200 then ((mkW (gnLo p.toNat n.toNat), mkW (gnHi p.toNat n.toNat)), true) else (((false, []), (false, [])), false)
theorem isqrt_le' (n : Nat) : isqrt n ≤ n := by
  have := (isqrt_spec n).1
  rcases Nat.eq_zero_or_pos (isqrt n) with h | h
  · omega
  · exact Nat.le_trans (Nat.le_mul_of_pos_right _ h) this
theorem root_len (p n : Nat) (h : p + 16 + n ≤ 695) : (limbs (isqrt ((gsq (p + 16) n).1.natAbs * 2 ^ (p + 16)))).length ≤ 48 ∧ (limbs (rtUp ((gsq (p + 16) n).2.natAbs * 2 ^ (p + 16)))).length ≤ 48 := by
  have key : ∀ m : Nat, m ≤ 2 ^ (p + 16 + n) → isqrt (m * 2 ^ (p + 16)) ≤ 2 ^ (p + 16 + n) := by
    intro m hm
    have h1 := (isqrt_spec (m * 2 ^ (p + 16))).1
    apply Classical.byContradiction
    intro hn
    have h2 : (2 ^ (p + 16 + n) + 1) * (2 ^ (p + 16 + n) + 1) ≤ isqrt (m * 2 ^ (p + 16)) * isqrt (m * 2 ^ (p + 16)) := Nat.mul_le_mul (by omega) (by omega)
    have h3 : m * 2 ^ (p + 16) ≤ 2 ^ (p + 16 + n) * 2 ^ (p + 16 + n) := Nat.mul_le_mul hm (Nat.pow_le_pow_right (by omega) (by omega))
    have h4 : 2 ^ (p + 16 + n) * 2 ^ (p + 16 + n) < (2 ^ (p + 16 + n) + 1) * (2 ^ (p + 16 + n) + 1) := by
      generalize 2 ^ (p + 16 + n) = q
      exact Nat.mul_lt_mul_of_lt_of_le (by omega) (by omega) (by omega)
    omega
  have h1 := key _ (gsq_bd (p + 16) n).1
  have h2 := key _ (gsq_bd (p + 16) n).2
  have h29 := pow_len29 (p + 16 + n) h
  refine ⟨Nat.le_trans (limbs_mono h1) (by omega), ?_⟩
  have h3 : rtUp ((gsq (p + 16) n).2.natAbs * 2 ^ (p + 16)) ≤ 2 ^ (p + 16 + n) + 1 := by unfold rtUp; split <;> omega
  have h5 : 2 ^ (p + 16 + n) + 1 ≤ 2 ^ (p + 16 + n + 1) := by
    rw [Nat.pow_succ]
    have := Nat.two_pow_pos (p + 16 + n)
    omega
  have h6 : (limbs (2 ^ (p + 16 + n + 1))).length ≤ 30 := gpow_len _ 30 (by omega)
  exact Nat.le_trans (limbs_mono (Nat.le_trans h3 h5)) (by omega)
theorem gn_len (p n : Nat) (h : p + 16 + n ≤ 695) : (limbs (gnLo p n).natAbs).length ≤ 48 ∧ (limbs (gnHi p n).natAbs).length ≤ 48 := by
  have h1 := root_len p n h
  have h2 := abs_ediv (rtLo ((gsq (p + 16) n).1.natAbs * 2 ^ (p + 16))) 16
  have h3 := abs_ediv (-((rtUp ((gsq (p + 16) n).2.natAbs * 2 ^ (p + 16)) : Nat) : Int)) 16
  refine ⟨Nat.le_trans (limbs_mono h2) ?_, Nat.le_trans (limbs_mono (m := rtUp ((gsq (p + 16) n).2.natAbs * 2 ^ (p + 16))) ?_) h1.2⟩
  · show (limbs ((isqrt ((gsq (p + 16) n).1.natAbs * 2 ^ (p + 16)) : Nat) : Int).natAbs).length ≤ 48
    rw [Int.natAbs_natCast]
    exact h1.1
  · unfold gnHi
    omega
theorem gsR_len (n p : Int) : (gsR n p).1.1.2.length ≤ 1048576 ∧ (gsR n p).1.2.2.length ≤ 1048576 := by
  unfold gsR
  split
  · rename_i h
    have := gsq_len p.toNat n.toNat (by omega)
    exact ⟨Nat.le_trans this.1 (by omega), Nat.le_trans this.2 (by omega)⟩
  · simp
theorem gnR_len (n p : Int) : (gnR n p).1.1.2.length ≤ 1048576 ∧ (gnR n p).1.2.2.length ≤ 1048576 := by
  unfold gnR
  split
  · rename_i h
    have := gn_len p.toNat n.toNat (by omega)
    exact ⟨Nat.le_trans this.1 (by omega), Nat.le_trans this.2 (by omega)⟩
  · simp

end Go.Proofs.Ytmbopjjpepbgkaa
