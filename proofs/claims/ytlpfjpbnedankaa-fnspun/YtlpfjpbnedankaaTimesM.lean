/- Products of limbs, step by step (plain facts). -/
import Derived.Test.YtlpfjpbnedankaaBase
namespace Go.Proofs.Ytlpfjpbnedankaa
open Go.RowKit

theorem lval_set (zs : List Int) (k : Nat) (y : Int) (h : k < zs.length) : lval (zs.set k y) = lval zs + 16777216 ^ k * (y - zs.getD k 0) := by
  induction zs generalizing k with
  | nil => simp at h
  | cons z r ih =>
    cases k with
    | zero => simp [lval]; omega
    | succ k =>
      have h' : k < r.length := by simpa using h
      simp only [List.set_cons_succ, lval, List.getD_cons_succ]
      rw [ih k h', Int.pow_succ]
      have : (16777216 : Int) ^ k * 16777216 * (y - r.getD k 0) = 16777216 * (16777216 ^ k * (y - r.getD k 0)) := by rw [Int.mul_comm ((16777216 : Int) ^ k) 16777216, Int.mul_assoc]
      rw [this]
      omega

theorem inR_set {zs : List Int} (h : inR zs) (k : Nat) {y : Int} (h0 : 0 ≤ y) (h1 : y < 16777216) : inR (zs.set k y) := fun x hx => by
  rcases List.mem_or_eq_of_mem_set hx with h' | rfl
  · exact h x h'
  · exact ⟨h0, h1⟩

theorem getD_set_ne (zs : List Int) (k m : Nat) (y : Int) (h : k ≠ m) : (zs.set k y).getD m 0 = zs.getD m 0 := by
  simp only [List.getD_eq_getElem?_getD, List.getElem?_set]
  rw [if_neg h]


theorem times_step (i j : Nat) (c x z xi yj A T : Int) (zs : List Int) (hl : i + j < zs.length) (hz : zs.getD (i + j) 0 = z) (h : lval zs + 16777216 ^ (i + j) * c = A + 16777216 ^ i * (xi * T)) (hx : x = z + xi * yj + c) :
    lval (zs.set (i + j) (x % 16777216)) + 16777216 ^ (i + (j + 1)) * (x / 16777216) = A + 16777216 ^ i * (xi * (T + 16777216 ^ j * yj)) := by
  rw [lval_set zs _ _ hl, hz, ← Nat.add_assoc, Int.pow_succ, Int.pow_add]
  rw [Int.pow_add] at h
  have e : x = 16777216 * (x / 16777216) + x % 16777216 := by omega
  obtain ⟨P, hP⟩ : ∃ P, (16777216 : Int) ^ i = P := ⟨_, rfl⟩
  obtain ⟨R, hR⟩ : ∃ R, (16777216 : Int) ^ j = R := ⟨_, rfl⟩
  obtain ⟨q, hq⟩ : ∃ q, x / 16777216 = q := ⟨_, rfl⟩
  obtain ⟨r, hr⟩ : ∃ r, x % 16777216 = r := ⟨_, rfl⟩
  rw [hq, hr] at e
  rw [hP, hR] at h
  rw [hP, hR, hq, hr]
  have e2 : r = z + xi * yj + c - 16777216 * q := by omega
  subst e2
  clear e hx hq hr
  grind

theorem mul_lim {a b : Int} (a0 : 0 ≤ a) (a1 : a < 16777216) (b0 : 0 ≤ b) (b1 : b < 16777216) : 0 ≤ a * b ∧ a * b ≤ 281474943156225 := by
  refine ⟨Int.mul_nonneg a0 b0, ?_⟩
  have := Int.mul_le_mul (show a ≤ 16777215 by omega) (show b ≤ 16777215 by omega) b0 (by omega)
  omega

end Go.Proofs.Ytlpfjpbnedankaa
