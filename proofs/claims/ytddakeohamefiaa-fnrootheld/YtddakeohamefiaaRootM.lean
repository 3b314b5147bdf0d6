/- What the root answers: the facts of numbers behind it (no program). -/
import Derived.Test.YtddakeohamefiaaRoundM
namespace Go.Proofs.Ytddakeohamefiaa
open Go.RowKit
set_option linter.unusedSimpArgs false

theorem pick_pos (q : Nat) (wh : Bool) (c mode : Int) (h0 : 0 ≤ mode) (h4 : mode ≤ 4) : pickI (q : Int) wh c mode = ((roundN q wh c false mode : Nat) : Int) := by
  have hq0 : ¬ ((q : Int) < 0) := by omega
  have hodd : ((q : Int) % 2 = 1) ↔ (q % 2 = 1) := by omega
  have hm5 : mode = 0 ∨ mode = 1 ∨ mode = 2 ∨ mode = 3 ∨ mode = 4 := by omega
  unfold roundN
  cases wh
  · rcases hm5 with rfl | rfl | rfl | rfl | rfl
    · simp [pickI, risesI, turnI]
    · simp [pickI, risesI, turnI]
    · simp [pickI, risesI, turnI, hq0]
    · simp only [pickI, risesI, turnI, hodd]
      by_cases c0 : c = 0
      · subst c0
        by_cases hq2 : q % 2 = 1
        · simp [hq2]
        · simp [hq2]
      · by_cases c1 : 0 ≤ c
        · have : 0 < c := by omega
          simp [c0, c1, this]
        · have : ¬ (0 < c) := by omega
          simp [c0, c1, this]
    · simp only [pickI, risesI, turnI]
      by_cases c1 : 0 ≤ c
      · have : 0 < c ∨ c = 0 := by omega
        simp [c1, this, hq0]
      · have k1 : ¬ (0 < c) := by omega
        have k2 : ¬ (c = 0) := by omega
        simp [c1, k1, k2]
  · simp [pickI]

theorem four_sq (y D : Nat) : (2 * y) * (2 * y) * D = y * y * D * 4 := by grind
theorem four_sq1 (y D : Nat) : (2 * y + 2) * (2 * y + 2) * D = (y + 1) * (y + 1) * D * 4 := by grind
theorem sq_lt {a b : Nat} (h : a * a < b * b) : a < b := by
  apply Classical.byContradiction
  intro hn
  have h2 : b ≤ a := by omega
  have := Nat.mul_le_mul h2 h2
  omega
/-- The root of four times as much is twice the root, or one more; which, and whether something is short, tells all. -/
theorem root_facts (m D : Nat) (hD : 0 < D) (y T : Nat) (hy : y = isqrt (m / D)) (hT : T = isqrt (m * 4 / D)) :
    T / 2 = y ∧ (T % 2 = 0 → (T * T * D < m * 4 ↔ ¬ (y * y * D = m)) ∧ m * 4 < (2 * y + 1) * (2 * y + 1) * D) ∧ (T % 2 = 1 → ¬ (y * y * D = m) ∧ (2 * y + 1) * (2 * y + 1) * D = T * T * D ∧ T * T * D ≤ m * 4) := by
  obtain ⟨a1, a2⟩ := isqrt_spec (m / D)
  obtain ⟨b1, b2⟩ := isqrt_spec (m * 4 / D)
  rw [← hy] at a1 a2
  rw [← hT] at b1 b2
  have c1 : y * y * D ≤ m := (Nat.le_div_iff_mul_le hD).1 a1
  have c2 : m < (y + 1) * (y + 1) * D := (Nat.div_lt_iff_lt_mul hD).1 a2
  have d1 : T * T * D ≤ m * 4 := (Nat.le_div_iff_mul_le hD).1 b1
  have d2 : m * 4 < (T + 1) * (T + 1) * D := (Nat.div_lt_iff_lt_mul hD).1 b2
  have e1 := four_sq y D
  have e2 := four_sq1 y D
  have f1 : 2 * y < T + 1 := by
    apply sq_lt
    apply Nat.lt_of_mul_lt_mul_right (a := D)
    omega
  have f2 : T < 2 * y + 2 := by
    apply sq_lt
    apply Nat.lt_of_mul_lt_mul_right (a := D)
    omega
  refine ⟨by omega, ?_, ?_⟩
  · intro h
    have hT2 : T = 2 * y := by omega
    subst hT2
    refine ⟨?_, ?_⟩
    · rw [e1]; omega
    · have : 2 * y + 1 = 2 * y + 1 := rfl
      exact d2
  · intro h
    have hT2 : T = 2 * y + 1 := by omega
    subst hT2
    refine ⟨?_, rfl, d1⟩
    intro he
    have h3 : (2 * y) * (2 * y) * D < (2 * y + 1) * (2 * y + 1) * D := by
      apply Nat.mul_lt_mul_of_pos_right _ hD
      exact Nat.mul_lt_mul'' (by omega) (by omega)
    omega

/-- Whether nothing is above the root's floor, and how what is above stands to a half, as the program finds it. -/
def rootWh (m k : Nat) : Bool := if isqrt (m * 4 / 2 ^ k) % 2 = 0 then decide (¬ (isqrt (m * 4 / 2 ^ k) * isqrt (m * 4 / 2 ^ k) * 2 ^ k < m * 4)) else false
def rootHf (m k : Nat) : Int := if isqrt (m * 4 / 2 ^ k) % 2 = 0 then -1 else if isqrt (m * 4 / 2 ^ k) * isqrt (m * 4 / 2 ^ k) * 2 ^ k < m * 4 then 1 else 0
theorem root_round (x : Int) (k : Nat) (mode : Int) (h0 : 0 ≤ mode) (h4 : mode ≤ 4) :
    rootI x k mode = ((roundN (isqrt (x.natAbs * 4 / 2 ^ k) / 2) (rootWh x.natAbs k) (rootHf x.natAbs k) false mode : Nat) : Int) := by
  have hD : 0 < 2 ^ k := Nat.pow_pos (by omega)
  obtain ⟨r1, r2, r3⟩ := root_facts x.natAbs (2 ^ k) hD _ _ rfl rfl
  unfold rootI
  rw [r1, ← pick_pos _ _ _ _ h0 h4]
  generalize isqrt (x.natAbs / 2 ^ k) = y at *
  unfold rootWh rootHf
  generalize isqrt (x.natAbs * 4 / 2 ^ k) = T at *
  generalize x.natAbs = m at *
  by_cases hT : T % 2 = 0
  · obtain ⟨s1, s2⟩ := r2 hT
    rw [if_pos hT, if_pos hT]
    have e1 : decide (y * y * 2 ^ k = m) = decide (¬ (T * T * 2 ^ k < m * 4)) := by
      rw [decide_eq_decide, s1]
      simp
    have e2 : cmpJ ((m * 4 : Nat) : Int) (((2 * y + 1) * (2 * y + 1) * 2 ^ k : Nat) : Int) = -1 := by
      unfold cmpJ
      rw [if_pos (by exact_mod_cast s2)]
    rw [e1, e2]
  · have hT1 : T % 2 = 1 := by omega
    obtain ⟨s1, s2, s3⟩ := r3 hT1
    rw [if_neg hT, if_neg hT, decide_eq_false s1, s2]
    congr 1
    unfold cmpJ
    by_cases hs : T * T * 2 ^ k < m * 4
    · have h1 : ¬ (((m * 4 : Nat) : Int) < ((T * T * 2 ^ k : Nat) : Int)) := by
        intro h
        have : m * 4 < T * T * 2 ^ k := by exact_mod_cast h
        omega
      have h2 : ((T * T * 2 ^ k : Nat) : Int) < ((m * 4 : Nat) : Int) := by exact_mod_cast hs
      rw [if_neg h1, if_pos h2, if_pos hs]
    · have h1 : ¬ (((m * 4 : Nat) : Int) < ((T * T * 2 ^ k : Nat) : Int)) := by
        intro h
        have : m * 4 < T * T * 2 ^ k := by exact_mod_cast h
        omega
      have h2 : ¬ (((T * T * 2 ^ k : Nat) : Int) < ((m * 4 : Nat) : Int)) := by
        intro h
        have : T * T * 2 ^ k < m * 4 := by exact_mod_cast h
        omega
      rw [if_neg h1, if_neg h2, if_neg hs]

end Go.Proofs.Ytddakeohamefiaa
