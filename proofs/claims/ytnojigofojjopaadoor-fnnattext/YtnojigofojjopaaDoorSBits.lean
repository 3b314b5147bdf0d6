/- The specification's l2Bits and NatBits, by their contracts. -/
import Derived.Test.YtnojigofojjopaaDoorBase
namespace Go.Proofs.YtnojigofojjopaaDoor
open Go.RowKit

/-- How many bits a number has. -/
def nbits (n : Nat) : Nat := if n = 0 then 0 else nbits (n / 2) + 1
  termination_by n
  decreasing_by omega
theorem nbits_zero : nbits 0 = 0 := by rw [nbits]; simp
theorem nbits_pos (n : Nat) (h : 0 < n) : nbits n = nbits (n / 2) + 1 := by
  conv => lhs; rw [nbits]
  rw [if_neg (by omega)]
theorem nbits_high (p : Nat) : ∀ (a b : Nat), a < 2 ^ p → 0 < b → nbits (a + 2 ^ p * b) = p + nbits b := by
  induction p with
  | zero => intro a b h hb; have : a = 0 := by simpa using h
            subst this; simp
  | succ p ih =>
    intro a b h hb
    have h2 : 2 ^ (p + 1) * b = 2 * (2 ^ p * b) := by rw [Nat.pow_succ, Nat.mul_comm (2 ^ p) 2, Nat.mul_assoc]
    have hp : 0 < 2 ^ p * b := Nat.mul_pos (Nat.pow_pos (by omega)) hb
    rw [Nat.pow_succ] at h
    rw [h2, nbits_pos _ (by omega), show (a + 2 * (2 ^ p * b)) / 2 = a / 2 + 2 ^ p * b by omega, ih (a / 2) b (by omega) hb]
    omega
theorem base_pow (k : Nat) : 16777216 ^ k = 2 ^ (24 * k) := by rw [Nat.pow_mul]
/-- Bits of a list of limbs: by its last one. -/
theorem nbits_limbs {xs : List Int} (h : inR xs) (m : Nat) (hm : xs.length = m + 1) (hz : xs.getD m 0 ≠ 0) : nbits (num xs) = 24 * m + nbits (xs.getD m 0).toNat := by
  have hd := inR_getD h m
  have h1 := lval_split xs m
  have h2 := lval_drop xs m
  rw [List.drop_of_length_le (by omega : xs.length ≤ m + 1)] at h2
  simp only [lval, Int.mul_zero, Int.add_zero] at h2
  rw [h2] at h1
  have h3 := lval_take_lt h m
  have h4 := lval_nonneg (inR_take h m)
  have h5 := num_val h
  obtain ⟨t, ht⟩ := Int.eq_ofNat_of_zero_le h4
  obtain ⟨d, hdd⟩ := Int.eq_ofNat_of_zero_le hd.1
  rw [hdd] at h1 hz hd ⊢
  rw [ht] at h1 h3
  have e1 : ((16777216 ^ m : Nat) : Int) = (16777216 : Int) ^ m := by simp
  have h6 : num xs = t + 16777216 ^ m * d := by
    have : ((t + 16777216 ^ m * d : Nat) : Int) = (num xs : Int) := by
      rw [h5, h1]; simp
    omega
  rw [h6, base_pow, nbits_high (24 * m) t d (by rw [← base_pow]; omega) (by omega)]
  simp

def bitsR (xs : List Int) : Int := if okB xs = true then (nbits (num xs) : Int) else -1

theorem nbits_le (n : Nat) : nbits n ≤ n := by
  induction n using Nat.strongRecOn with
  | ind n ih =>
    by_cases h : n = 0
    · subst h; rw [nbits_zero]; omega
    · rw [nbits_pos n (by omega)]
      have := ih (n / 2) (by omega)
      omega

theorem nbits_le_pow (p : Nat) : ∀ n, n < 2 ^ p → nbits n ≤ p := by
  induction p with
  | zero => intro n h; have : n = 0 := by simpa using h
            subst this; rw [nbits_zero]; omega
  | succ p ih =>
    intro n h
    by_cases h0 : n = 0
    · subst h0; rw [nbits_zero]; omega
    · rw [nbits_pos n (by omega)]
      have := ih (n / 2) (by rw [Nat.pow_succ] at h; omega)
      omega
theorem lt_nbits (n : Nat) : n < 2 ^ nbits n := by
  induction n using Nat.strongRecOn with
  | ind n ih =>
    by_cases h : n = 0
    · subst h; rw [nbits_zero]; simp
    · rw [nbits_pos n (by omega), Nat.pow_succ]
      have := ih (n / 2) (by omega)
      omega
theorem num_lt {xs : List Int} (h : inR xs) : num xs < 2 ^ (24 * xs.length) := by
  have h1 := lval_lt h
  have h2 := num_val h
  have e : (((2 : Nat) ^ (24 * xs.length) : Nat) : Int) = (16777216 : Int) ^ xs.length := by
    rw [Nat.pow_mul]; simp
  omega
theorem nbits_len {xs : List Int} (h : inR xs) : nbits (num xs) ≤ 24 * xs.length := nbits_le_pow _ _ (num_lt h)

end Go.Proofs.YtnojigofojjopaaDoor
