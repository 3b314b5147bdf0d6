/- Eighths of a turn, and the domains of the functions: plain numbers, and the program's side. -/
import Derived.Test.YtbfaeieddbaclaaFun1
import Derived.Laws.BitsLemmas
namespace Go.Proofs.Ytbfaeieddbaclaa
open Go.RowKit
set_option linter.unusedSimpArgs false

theorem and_mask (x : Int) (j : Nat) (hj : j ≤ 62) : bits .and .i64 x (2 ^ j - 1) = x % 2 ^ j := by
  have hpos : 0 < 2 ^ j := Nat.two_pow_pos j
  have hlt : 2 ^ j ≤ 2 ^ 62 := Nat.pow_le_pow_right (by decide) hj
  have hc : ((2 : Int) ^ j - 1) = ((2 ^ j - 1 : Nat) : Int) := by
    rw [Int.natCast_sub hpos]; simp
  have hi : ((2 ^ j : Nat) : Int) ∣ ((2 ^ 64 : Nat) : Int) := Int.natCast_dvd_natCast.mpr (Nat.pow_dvd_pow 2 (by omega))
  have e1 : ((2 : Int) ^ j) = ((2 ^ j : Nat) : Int) := by simp
  have hm : (2 ^ j - 1) % 2 ^ 64 = 2 ^ j - 1 := Nat.mod_eq_of_lt (by
    have : (2 : Nat) ^ 62 < 2 ^ 64 := by decide
    omega)
  rw [hc]
  show IntKind.i64.wrap (((BitVec.ofInt 64 x &&& BitVec.ofInt 64 ((2 ^ j - 1 : Nat) : Int)).toNat : Nat) : Int) = _
  rw [BitVec.toNat_and, BitVec.ofInt_natCast, BitVec.toNat_ofInt, BitVec.toNat_ofNat, hm, Nat.and_two_pow_sub_one_eq_mod]
  have e2 : (((x % ((2 ^ 64 : Nat) : Int)).toNat % 2 ^ j : Nat) : Int) = x % 2 ^ j := by
    rw [e1]
    have h0 : 0 ≤ x % ((2 ^ 64 : Nat) : Int) := Int.emod_nonneg _ (by decide)
    rw [Int.natCast_emod, Int.toNat_of_nonneg h0]
    exact Int.emod_emod_of_dvd x hi
  rw [e2, e1]
  have h1 : 0 ≤ x % ((2 ^ j : Nat) : Int) := Int.emod_nonneg _ (by exact_mod_cast Nat.ne_of_gt hpos)
  have h2 : x % ((2 ^ j : Nat) : Int) < ((2 ^ j : Nat) : Int) := Int.emod_lt_of_pos _ (by exact_mod_cast hpos)
  have h3 : ((2 ^ j : Nat) : Int) ≤ 4611686018427387904 := Int.ofNat_le.mpr (Nat.le_trans hlt (by decide : 2 ^ 62 ≤ 4611686018427387904))
  rw [IntKind.wrap_i64]
  omega
theorem and7 (x : Int) : bits .and .i64 x 7 = x % 8 := and_mask x 3 (by decide)

/-- Eighths of a turn in a by 2^f: by 8 what is left over of them, and whether they are whole. -/
def eiR (a : Int) (f : Nat) : Int × Bool := if f ≤ 3 then ((a * 2 ^ (3 - f)) % 8, true) else (a / 2 ^ (f - 3) % 8, decide (a % 2 ^ (f - 3) = 0))
theorem eiR_lo (a : Int) (f : Nat) : 0 ≤ (eiR a f).1 ∧ (eiR a f).1 ≤ 7 := by unfold eiR; split <;> (constructor <;> (dsimp only; omega))

theorem ei_ok (a : Int) (f : Nat) : (eiR a f).2 = decide (8 * a % 2 ^ f = 0) ∧ ((eiR a f).2 = true → (eiR a f).1 = 8 * a / 2 ^ f % 8) := by
  unfold eiR
  by_cases h : f ≤ 3
  · rw [if_pos h]
    have hp : (0 : Int) < 2 ^ f := Int.pow_pos (by omega)
    have e : 8 * a = a * 2 ^ (3 - f) * 2 ^ f := by
      rw [Int.mul_assoc, ← Int.pow_add, show 3 - f + f = 3 by omega]
      omega
    rw [e, Int.mul_emod_left, Int.mul_ediv_cancel _ (by omega)]
    simp
  · rw [if_neg h]
    have hp : (0 : Int) < 2 ^ (f - 3) := Int.pow_pos (by omega)
    have e : (2 : Int) ^ f = 8 * 2 ^ (f - 3) := by
      rw [show (8 : Int) = 2 ^ 3 by decide, ← Int.pow_add, show 3 + (f - 3) = f by omega]
    rw [e, Int.mul_emod_mul_of_pos _ _ (by omega), Int.mul_ediv_mul_of_pos _ _ (by omega)]
    refine ⟨?_, fun _ => rfl⟩
    rw [decide_eq_decide]
    generalize a % 2 ^ (f - 3) = r
    omega

/-- k times the size of a by 2^f: whether it is whole, and what is left over of that by m. -/
def partR (a : Int) (f : Nat) (k m : Nat) : Bool × Int := if a.natAbs * k % 2 ^ f = 0 then (true, ((a.natAbs * k / 2 ^ f % m : Nat) : Int)) else (false, 0)

theorem eight_yes (a : Int) (f : Nat) (h : 8 * a % 2 ^ f = 0) : a.natAbs * 8 % 2 ^ f = 0 ∧ a.natAbs * 8 / 2 ^ f = (8 * a / 2 ^ f).natAbs ∧ (a.natAbs * 4 % 2 ^ f = 0 ↔ (8 * a / 2 ^ f) % 2 = 0) ∧ ((8 * a / 2 ^ f) % 2 = 0 → a.natAbs * 4 / 2 ^ f = (8 * a / 2 ^ f).natAbs / 2) ∧ (a < 0 ↔ 8 * a / 2 ^ f < 0) := by
  have hp : 0 < 2 ^ f := Nat.two_pow_pos f
  have e1 : ((2 : Int) ^ f) = ((2 ^ f : Nat) : Int) := by simp
  rw [e1] at h ⊢
  generalize 2 ^ f = D at *
  obtain ⟨e, he⟩ := Int.dvd_of_emod_eq_zero h
  have hD : (0 : Int) < (D : Int) := by exact_mod_cast hp
  have hq : 8 * a / (D : Int) = e := by rw [he]; exact Int.mul_ediv_cancel_left _ (by omega)
  rw [hq]
  have hn : a.natAbs * 8 = D * e.natAbs := by
    have := congrArg Int.natAbs he
    rw [Int.natAbs_mul, Int.natAbs_mul, Int.natAbs_natCast] at this
    rw [Nat.mul_comm]
    exact this
  refine ⟨by rw [hn]; exact Nat.mul_mod_right _ _, by rw [hn]; exact Nat.mul_div_cancel_left _ hp, ?_, ?_, ?_⟩
  · constructor
    · intro h4
      obtain ⟨q, hq4⟩ := Nat.dvd_of_mod_eq_zero h4
      have : D * e.natAbs = D * (2 * q) := by rw [← hn, Nat.mul_left_comm, ← hq4]; omega
      have := Nat.eq_of_mul_eq_mul_left hp this
      omega
    · intro h2
      have h3 : e.natAbs = 2 * (e.natAbs / 2) := by omega
      have h4 : a.natAbs * 4 = D * (e.natAbs / 2) := by
        have : 2 * (a.natAbs * 4) = 2 * (D * (e.natAbs / 2)) := by rw [Nat.mul_left_comm 2 D, ← h3, ← hn]; omega
        omega
      rw [h4]; exact Nat.mul_mod_right _ _
  · intro h2
    have h3 : e.natAbs = 2 * (e.natAbs / 2) := by omega
    have h4 : a.natAbs * 4 = D * (e.natAbs / 2) := by
      have : 2 * (a.natAbs * 4) = 2 * (D * (e.natAbs / 2)) := by rw [Nat.mul_left_comm 2 D, ← h3, ← hn]; omega
      omega
    rw [h4]; exact Nat.mul_div_cancel_left _ hp
  · constructor
    · intro ha
      have : (D : Int) * e < 0 := by omega
      exact Int.neg_of_mul_neg_left (by rw [Int.mul_comm]; exact this) (by omega)
    · intro hneg
      have : (D : Int) * e < 0 := Int.mul_neg_of_pos_of_neg hD hneg
      omega

theorem eight_no (a : Int) (f : Nat) (h : ¬ 8 * a % 2 ^ f = 0) : ¬ a.natAbs * 8 % 2 ^ f = 0 ∧ ¬ a.natAbs * 4 % 2 ^ f = 0 := by
  have e1 : ((2 : Int) ^ f) = ((2 ^ f : Nat) : Int) := by simp
  rw [e1] at h
  generalize 2 ^ f = D at *
  have key : ∀ q, a.natAbs * 8 = D * q → False := fun q hq => h (by
    apply Int.emod_eq_zero_of_dvd
    rw [← Int.natAbs_dvd_natAbs, Int.natAbs_natCast, Int.natAbs_mul]
    exact ⟨q, by rw [← hq, Nat.mul_comm]; rfl⟩)
  refine ⟨fun h8 => ?_, fun h4 => ?_⟩
  · obtain ⟨q, hq⟩ := Nat.dvd_of_mod_eq_zero h8
    exact key q hq
  · obtain ⟨q, hq⟩ := Nat.dvd_of_mod_eq_zero h4
    exact key (2 * q) (by rw [Nat.mul_left_comm, ← hq]; omega)

/-- A quarter of a turn from where the tangent is 0. -/
def upR (a : Int) (f : Nat) : Bool := (eiR a f).2 && decide ((eiR a f).1 % 4 = 2)
theorem upR_part (a : Int) (f : Nat) : upR a f = ((partR a f 4 2).1 && !decide ((partR a f 4 2).2 = 0)) := by
  unfold upR partR
  obtain ⟨e1, e2⟩ := ei_ok a f
  by_cases h : 8 * a % 2 ^ f = 0
  · obtain ⟨y1, y2, y3, y4, y5⟩ := eight_yes a f h
    rw [e1, decide_eq_true h] at e2
    rw [e1, decide_eq_true h, e2 rfl]
    generalize 8 * a / 2 ^ f = e at *
    by_cases h2 : e % 2 = 0
    · rw [if_pos (y3.mpr h2), y4 h2]
      simp only [Bool.true_and]
      rw [← decide_not]
      congr 1
      simp only [eq_iff_iff]
      omega
    · rw [if_neg (fun h => h2 (y3.mp h))]
      simp only [Bool.true_and, Bool.false_and]
      exact decide_eq_false (by omega)
  · rw [e1, decide_eq_false h, if_neg (eight_no a f h).2]
    simp

end Go.Proofs.Ytbfaeieddbaclaa
