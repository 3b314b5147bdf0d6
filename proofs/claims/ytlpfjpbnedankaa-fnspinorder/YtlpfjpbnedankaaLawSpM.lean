/- FnSpun, FnSpinOrder: the mathematics (no walk). -/
import Derived.Test.YtlpfjpbnedankaaSpStepM
import Derived.Test.YtlpfjpbnedankaaNormB
import Derived.Test.YtlpfjpbnedankaaCrossB
import Derived.Test.YtlpfjpbnedankaaLawW
namespace Go.Proofs.Ytlpfjpbnedankaa
open Go.RowKit
set_option linter.unusedSimpArgs false
set_option linter.unusedVariables false

theorem step_no {a r : Ph} {i d : Int} (h : stepR a i d = (r, false)) : r = a := by
  unfold stepR at h
  split at h
  · cases h
  · exact (congrArg Prod.fst h).symm
/-- What is known of a step that was made. -/
structure Stepped (a r : Ph) (k : Nat) (d : Int) : Prop where
  oka : okP a = true
  okr : okP r = true
  hk : k ≤ 30
  hd : d = 1 ∨ d = -1
  x : r.1.1 = mkW (stX (valW a.1.1) (valW a.1.2) k d)
  y : r.1.2 = mkW (stY (valW a.1.1) (valW a.1.2) k d)
  n : r.2 = a.2 + k
theorem step_yes {a r : Ph} {i d : Int} (h : stepR a i d = (r, true)) : ∃ k : Nat, i = (k : Int) ∧ Stepped a r k d := by
  unfold stepR at h
  split at h
  · rename_i hc
    obtain ⟨c0, c1, c2, c3⟩ := hc
    have e := (congrArg Prod.fst h).symm
    simp only at e
    subst e
    obtain ⟨k, rfl⟩ : ∃ k : Nat, i = (k : Int) := ⟨i.toNat, by omega⟩
    exact ⟨k, rfl, c0, c3, by omega, c2, by unfold stepP; rw [Int.toNat_natCast], by unfold stepP; rw [Int.toNat_natCast], by unfold stepP; rfl⟩
  · cases h
theorem Stepped.vx {a r : Ph} {k : Nat} {d : Int} (h : Stepped a r k d) : valW r.1.1 = stX (valW a.1.1) (valW a.1.2) k d := by rw [h.x, mkW_val]
theorem Stepped.vy {a r : Ph} {k : Nat} {d : Int} (h : Stepped a r k d) : valW r.1.2 = stY (valW a.1.1) (valW a.1.2) k d := by rw [h.y, mkW_val]
theorem sq_one {d : Int} (h : d = 1 ∨ d = -1) : d * d = 1 := by rcases h with rfl | rfl <;> rfl
theorem int_sq (z : Int) : 0 ≤ z * z := by
  rcases Int.le_total 0 z with h | h
  · exact Int.mul_nonneg h h
  · exact Int.mul_nonneg_of_nonpos_of_nonpos h h
theorem two_sq (k : Nat) : (2 : Int) ^ (2 * k) = 2 ^ k * 2 ^ k := by rw [Nat.two_mul, Int.pow_add]
theorem spun_norm (x y u d : Int) (h : d * d = 1) : (x * u - y * d) * (x * u - y * d) + (y * u + x * d) * (y * u + x * d) = (x * x + y * y) * (u * u) + (x * x + y * y) := by
  have : (x * u - y * d) * (x * u - y * d) + (y * u + x * d) * (y * u + x * d) = (x * x + y * y) * (u * u) + (x * x + y * y) * (d * d) := by grind
  rw [this, h, Int.mul_one]
theorem spun_back (x y u d : Int) (h : d * d = 1) : (x * u - y * d) * u - (y * u + x * d) * (-d) = x * (u * u) + x := by
  have : (x * u - y * d) * u - (y * u + x * d) * (-d) = x * (u * u) + x * (d * d) := by grind
  rw [this, h, Int.mul_one]
theorem spun_cross (x y u d : Int) : x * (y * u + x * d) - y * (x * u - y * d) = (x * x + y * y) * d := by grind
theorem spin_comm_x (x y u d v e : Int) : (x * u - y * d) * v - (y * u + x * d) * e = (x * v - y * e) * u - (y * v + x * e) * d := by grind
theorem spin_comm_y (x y u d v e : Int) : (y * u + x * d) * v + (x * u - y * d) * e = (y * v + x * e) * u + (x * v - y * e) * d := by grind
/-- The square of a length, k steps on, and what the law reckons of it. -/
theorem spun_sum {a r : Ph} {k : Nat} {d : Int} (h : Stepped a r k d) {four sum : Wh} {f1 : Bool} (h1 : wshiftR (normR a) (2 * (k : Int)) = (four, f1)) (h2 : waddR four (normR a) = (sum, true)) (hl : (normR a).2.length ≤ 40) : sum = normR r := by
  have ea : normR a = mkW (valW a.1.1 * valW a.1.1 + valW a.1.2 * valW a.1.2) := by unfold normR; rw [if_pos h.oka]
  have er : normR r = mkW (valW r.1.1 * valW r.1.1 + valW r.1.2 * valW r.1.2) := by unfold normR; rw [if_pos h.okr]
  rw [h.vx, h.vy] at er
  unfold stX stY at er
  rw [spun_norm _ _ _ _ (sq_one h.hd), ← two_sq] at er
  rw [ea] at h1 h2 hl
  rw [er]
  generalize valW a.1.1 * valW a.1.1 + valW a.1.2 * valW a.1.2 = z at *
  have hl' : (limbs z.natAbs).length ≤ 40 := hl
  have hf : (limbs (z * 2 ^ (2 * k)).natAbs).length ≤ 48 := by
    have e : (z * 2 ^ (2 * k)).natAbs = z.natAbs * 2 ^ (2 * k) := by rw [Int.natAbs_mul, Int.natAbs_pow]; rfl
    rw [e]
    refine Nat.le_trans (limbs_len_le _ 43 ?_) (by omega)
    have q1 := limbs_lt z.natAbs
    have q2 := Nat.pow_le_pow_right (by omega : 0 < 16777216) hl'
    have q3 : 2 ^ (2 * k) ≤ 2 ^ 60 := Nat.pow_le_pow_right (by omega) (by have := h.hk; omega)
    have q4 : z.natAbs * 2 ^ (2 * k) ≤ z.natAbs * 2 ^ 60 := Nat.mul_le_mul_left _ q3
    have q5 : z.natAbs * 2 ^ 60 < 16777216 ^ 40 * 2 ^ 60 := Nat.mul_lt_mul_of_pos_right (by omega) (by decide +kernel)
    have q6 : 16777216 ^ 40 * 2 ^ 60 ≤ 16777216 ^ 43 := by decide +kernel
    exact Nat.lt_of_le_of_lt q4 (Nat.lt_of_lt_of_le q5 q6)
  have hs : wshiftR (mkW z) (2 * (k : Int)) = (mkW (z * 2 ^ (2 * k)), true) := by
    unfold wshiftR
    have := h.hk
    rw [if_pos ⟨okW_mk (Nat.le_trans hl' (by omega)), by omega, by omega⟩, mkW_val]
    unfold scaleI
    rw [if_pos (by omega), show (2 * (k : Int)).toNat = 2 * k by omega, fitW_yes hf]
  rw [hs] at h1
  cases h1
  unfold waddR at h2
  split at h2
  · rw [mkW_val, mkW_val] at h2
    exact (fitW_true h2).1
  · cases h2
theorem spun_x {a r b : Ph} {k : Nat} {d : Int} (h : Stepped a r k d) (hb : Stepped r b k (-d)) {u v : Wh} {f1 f2 : Bool} (h1 : wshiftR a.1.1 (2 * (k : Int)) = (u, f1)) (h2 : waddR u a.1.1 = (v, f2)) : v = b.1.1 := by
  have ho := okP_yes h.oka
  have hob := okP_yes hb.okr
  have ex := hb.vx
  rw [h.vx, h.vy] at ex
  unfold stX stY at ex
  rw [spun_back _ _ _ _ (sq_one h.hd), ← two_sq] at ex
  have eb := mkW_of hob.1
  have m := okW_len48 hob.1
  rw [eb]
  rw [ex] at m ⊢
  have ea := mkW_of ho.1
  have hle : (valW a.1.1 * 2 ^ (2 * k)).natAbs ≤ (valW a.1.1 * 2 ^ (2 * k) + valW a.1.1).natAbs := by
    have hp : (0 : Int) < 2 ^ (2 * k) := Int.pow_pos (by omega)
    rcases Int.le_total 0 (valW a.1.1) with q | q
    · have := Int.mul_nonneg q (Int.le_of_lt hp)
      omega
    · have : valW a.1.1 * 2 ^ (2 * k) ≤ 0 := Int.mul_nonpos_of_nonpos_of_nonneg q (Int.le_of_lt hp)
      omega
  have mu := fit_le m hle
  have hs : wshiftR a.1.1 (2 * (k : Int)) = (mkW (valW a.1.1 * 2 ^ (2 * k)), true) := by
    unfold wshiftR
    have := h.hk
    rw [if_pos ⟨ho.1, by omega, by omega⟩]
    unfold scaleI
    rw [if_pos (by omega), show (2 * (k : Int)).toNat = 2 * k by omega, fitW_yes mu]
  rw [hs] at h1
  cases h1
  unfold waddR at h2
  rw [if_pos ⟨okW_mk mu, ho.1⟩, mkW_val, fitW_yes m] at h2
  exact (congrArg Prod.fst h2).symm
theorem spun_sign {a r : Ph} {k : Nat} {d : Int} (h : Stepped a r k d) (hn : (normR a).2.length ≠ 0) : (crossR a r).1 = decide (d < 0) := by
  have ea : normR a = mkW (valW a.1.1 * valW a.1.1 + valW a.1.2 * valW a.1.2) := by unfold normR; rw [if_pos h.oka]
  unfold crossR
  rw [if_pos ⟨h.oka, h.okr⟩, h.vx, h.vy]
  unfold stX stY
  rw [spun_cross]
  rw [ea] at hn
  have hz : 0 ≤ valW a.1.1 * valW a.1.1 + valW a.1.2 * valW a.1.2 := Int.add_nonneg (int_sq _) (int_sq _)
  generalize valW a.1.1 * valW a.1.1 + valW a.1.2 * valW a.1.2 = z at *
  have hz1 : 0 < z := by
    rcases Int.lt_or_eq_of_le hz with q | q
    · exact q
    · exfalso; apply hn; rw [← q]; show (limbs (0 : Int).natAbs).length = 0; rw [show (0 : Int).natAbs = 0 from rfl, limbs_zero]; rfl
  show decide (z * d < 0) = decide (d < 0)
  rcases h.hd with rfl | rfl
  · rw [decide_eq_false (by omega), decide_eq_false (by omega)]
  · rw [decide_eq_true (by omega), decide_eq_true (by omega)]
/-- Two steps in either order. -/
theorem ord_same {s a a2 b b2 : Ph} {k l : Nat} {d e : Int} (h1 : Stepped s a k d) (h2 : Stepped a a2 l e) (h3 : Stepped s b l e) (h4 : Stepped b b2 k d) : a2.1.1 = b2.1.1 ∧ a2.1.2 = b2.1.2 ∧ a2.2 = b2.2 ∧ a2.2 = s.2 + k + l := by
  refine ⟨?_, ?_, ?_, ?_⟩
  · rw [h2.x, h4.x, h1.vx, h1.vy, h3.vx, h3.vy]
    unfold stX stY
    rw [spin_comm_x]
  · rw [h2.y, h4.y, h1.vx, h1.vy, h3.vx, h3.vy]
    unfold stX stY
    rw [spin_comm_y]
  · have := h1.n; have := h2.n; have := h3.n; have := h4.n; omega
  · have := h1.n; have := h2.n; omega

end Go.Proofs.Ytlpfjpbnedankaa
