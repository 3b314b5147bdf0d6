/- Several small texts in one: RoundM, RootM, One, PAt. -/
import Derived.Test.YtlpfjpbnedankaaBase
import Derived.Below
/- What rounding answers; the facts of numbers behind it (no program). -/
namespace Go.Proofs.Ytlpfjpbnedankaa
open Go.RowKit
set_option linter.unusedSimpArgs false

def cmpJ (x y : Int) : Int := if x < y then -1 else if y < x then 1 else 0
/-- The floor or one more. -/
def pickI (fl : Int) (whole : Bool) (half mode : Int) : Int :=
  if whole = true then fl
  else if mode = 1 then fl + 1
  else if mode = 2 then (if fl < 0 then fl + 1 else fl)
  else if mode = 3 then (if 0 < half ∨ (half = 0 ∧ fl % 2 = 1) then fl + 1 else fl)
  else if mode = 4 then (if 0 < half ∨ (half = 0 ∧ ¬ fl < 0) then fl + 1 else fl)
  else fl
/-- A fraction, rounded. -/
def fracI (x y mode : Int) : Int := pickI (x / y) (decide (x - x / y * y = 0)) (cmpJ ((x - x / y * y) * 2) y) mode
/-- The root of a number by 2^k, rounded. -/
def rootI (x : Int) (k : Nat) (mode : Int) : Int :=
  pickI (isqrt (x.natAbs / 2 ^ k) : Nat) (decide (isqrt (x.natAbs / 2 ^ k) * isqrt (x.natAbs / 2 ^ k) * 2 ^ k = x.natAbs)) (cmpJ ((x.natAbs * 4 : Nat) : Int) (((2 * isqrt (x.natAbs / 2 ^ k) + 1) * (2 * isqrt (x.natAbs / 2 ^ k) + 1) * 2 ^ k : Nat) : Int)) mode

def turnI (mode : Int) : Int := if mode = 0 then 1 else if mode = 1 then 0 else mode
def risesI (q : Nat) (half mode : Int) : Bool :=
  if mode = 1 then true else if mode = 3 then (if half = 0 then decide (q % 2 = 1) else decide (0 ≤ half)) else if mode = 4 then decide (0 ≤ half) else false
/-- What the program makes of a size: below nought it is rounded the other way round. -/
def roundN (q : Nat) (whole : Bool) (half : Int) (neg : Bool) (mode : Int) : Nat :=
  if whole = false ∧ risesI q half (if neg = true then turnI mode else mode) = true then q + 1 else q

theorem roundN_le (q : Nat) (whole : Bool) (half : Int) (neg : Bool) (mode : Int) : roundN q whole half neg mode ≤ q + 1 := by
  unfold roundN
  generalize (if neg = true then turnI mode else mode) = m
  split <;> omega

theorem ediv_isR {x z P : Int} (hP : 0 < P) (h1 : z * P ≤ x) (h2 : x < z * P + P) : x / P = z := by
  have h3 := (Int.le_ediv_iff_mul_le hP).2 h1
  have h4 : x / P < z + 1 := (Int.ediv_lt_iff_lt_mul hP).2 (by rw [Int.add_mul, Int.one_mul]; exact h2)
  omega

theorem frac_round (x : Int) (d : Nat) (hd : 0 < d) (mode : Int) (h0 : 0 ≤ mode) (h4 : mode ≤ 4) :
    fracI x d mode = (if decide (x < 0) = true then -((roundN (x.natAbs / d) (decide (x.natAbs % d = 0)) (cmpJ ((x.natAbs % d * 2 : Nat) : Int) d) (decide (x < 0)) mode : Nat) : Int) else ((roundN (x.natAbs / d) (decide (x.natAbs % d = 0)) (cmpJ ((x.natAbs % d * 2 : Nat) : Int) d) (decide (x < 0)) mode : Nat) : Int)) := by
  have hdm := Nat.div_add_mod x.natAbs d
  have hlt := Nat.mod_lt x.natAbs hd
  have hm : ((x.natAbs / d : Nat) : Int) * (d : Int) + ((x.natAbs % d : Nat) : Int) = (x.natAbs : Int) := by
    rw [Nat.mul_comm] at hdm
    exact_mod_cast hdm
  have hdp : (0 : Int) < (d : Int) := by omega
  obtain ⟨q, hq⟩ : ∃ q, x.natAbs / d = q := ⟨_, rfl⟩
  obtain ⟨r, hr⟩ : ∃ r, x.natAbs % d = r := ⟨_, rfl⟩
  rw [hq, hr] at hm
  rw [hr] at hlt
  rw [hq, hr]
  clear hq hr hdm
  by_cases hx : x < 0
  · have hxa : x = -(x.natAbs : Int) := by omega
    by_cases hr0 : r = 0
    · subst hr0
      have hfl : x / (d : Int) = -(q : Int) := by
        apply ediv_isR hdp
        · rw [Int.neg_mul]; omega
        · rw [Int.neg_mul]; omega
      have hrest : x - x / (d : Int) * (d : Int) = 0 := by rw [hfl, Int.neg_mul]; omega
      unfold fracI roundN
      rw [hrest, hfl]
      simp [pickI, hx]
    · have hfl : x / (d : Int) = -(q : Int) - 1 := by
        apply ediv_isR hdp
        · rw [Int.sub_mul, Int.neg_mul]; omega
        · rw [Int.sub_mul, Int.neg_mul]; omega
      have hrest : x - x / (d : Int) * (d : Int) = (d : Int) - (r : Int) := by rw [hfl, Int.sub_mul, Int.neg_mul]; omega
      unfold fracI roundN
      rw [hrest, hfl]
      have w1 : decide ((d : Int) - (r : Int) = 0) = false := decide_eq_false (by omega)
      have w2 : decide (r = 0) = false := decide_eq_false hr0
      have w3 : decide (x < 0) = true := decide_eq_true hx
      rw [w1, w2, w3]
      have hq0 : -(q : Int) - 1 < 0 := by omega
      have hc : cmpJ (((d : Int) - (r : Int)) * 2) (d : Int) = -(cmpJ ((r * 2 : Nat) : Int) (d : Int)) := by
        unfold cmpJ
        split <;> split <;> (try split) <;> (try split) <;> omega
      rw [hc]
      generalize cmpJ ((r * 2 : Nat) : Int) (d : Int) = c
      have hodd : ((-(q : Int) - 1) % 2 = 1) ↔ ¬ (q % 2 = 1) := by omega
      have hm5 : mode = 0 ∨ mode = 1 ∨ mode = 2 ∨ mode = 3 ∨ mode = 4 := by omega
      rcases hm5 with rfl | rfl | rfl | rfl | rfl
      · simp [pickI, risesI, turnI]; omega
      · simp [pickI, risesI, turnI]
      · simp [pickI, risesI, turnI, hq0]
      · simp only [pickI, risesI, turnI, hodd]
        by_cases c0 : c = 0
        · subst c0
          by_cases hq2 : q % 2 = 1
          · simp [hq2]; omega
          · simp [hq2]
        · by_cases c1 : 0 ≤ c
          · have : ¬ (0 < -c) := by omega
            have k2 : ¬ (-c = 0) := by omega
            simp [c0, c1, this, k2]; omega
          · have : 0 < -c := by omega
            simp [c0, c1, this]
      · simp only [pickI, risesI, turnI]
        by_cases c1 : 0 ≤ c
        · have : ¬ (0 < -c) := by omega
          simp [c1, this, hq0]; omega
        · have : 0 < -c := by omega
          simp [c1, this]
  · have hxa : x = (x.natAbs : Int) := by omega
    have hfl : x / (d : Int) = (q : Int) := by
      apply ediv_isR hdp
      · omega
      · omega
    have hrest : x - x / (d : Int) * (d : Int) = (r : Int) := by rw [hfl]; omega
    unfold fracI roundN
    rw [hrest, hfl]
    have w3 : decide (x < 0) = false := decide_eq_false hx
    have w1 : decide ((r : Int) = 0) = decide (r = 0) := by by_cases h : r = 0 <;> simp [h]
    have e2 : (r : Int) * 2 = ((r * 2 : Nat) : Int) := by omega
    rw [w3, w1, e2]
    generalize cmpJ ((r * 2 : Nat) : Int) (d : Int) = c
    have hq0 : ¬ ((q : Int) < 0) := by omega
    have hodd : ((q : Int) % 2 = 1) ↔ (q % 2 = 1) := by omega
    have hm5 : mode = 0 ∨ mode = 1 ∨ mode = 2 ∨ mode = 3 ∨ mode = 4 := by omega
    by_cases hr0 : r = 0
    · simp [pickI, hr0]
    · rcases hm5 with rfl | rfl | rfl | rfl | rfl
      · simp [pickI, risesI, turnI, hr0]
      · simp [pickI, risesI, turnI, hr0]
      · simp [pickI, risesI, turnI, hr0, hq0]
      · simp only [pickI, risesI, turnI, hodd]
        by_cases c0 : c = 0
        · subst c0
          by_cases hq2 : q % 2 = 1
          · simp [hr0, hq2]
          · simp [hr0, hq2]
        · by_cases c1 : 0 ≤ c
          · have : 0 < c := by omega
            simp [hr0, c0, c1, this]
          · have : ¬ (0 < c) := by omega
            simp [hr0, c0, c1, this]
      · simp only [pickI, risesI, turnI]
        by_cases c1 : 0 ≤ c
        · have : 0 < c ∨ c = 0 := by omega
          simp [hr0, c1, this, hq0]
        · have k1 : ¬ (0 < c) := by omega
          have k2 : ¬ (c = 0) := by omega
          simp [hr0, c1, k1, k2]

def rfracR (a b : Wh) (mode : Int) : Wh × Bool := if okW a = true ∧ okW b = true ∧ 0 < valW b ∧ 0 ≤ mode ∧ mode ≤ 4 then fitW (fracI (valW a) (valW b) mode) else ((false, []), false)
def ratR (a : Wh) (k mode : Int) : Wh × Bool := if okW a = true ∧ 0 ≤ k ∧ k ≤ 600 ∧ 0 ≤ mode ∧ mode ≤ 4 then fitW (fracI (valW a) (2 ^ k.toNat) mode) else ((false, []), false)
def rrootR (a : Wh) (k mode : Int) : Wh × Bool := if okW a = true ∧ 0 ≤ valW a ∧ 0 ≤ k ∧ k ≤ 600 ∧ 0 ≤ mode ∧ mode ≤ 4 then fitW (rootI (valW a) k.toNat mode) else ((false, []), false)
theorem rfracR_len (a b : Wh) (mode : Int) : (rfracR a b mode).1.2.length ≤ 1048576 := by
  unfold rfracR; split
  · exact fitW_len _
  · simp
theorem ratR_len (a : Wh) (k mode : Int) : (ratR a k mode).1.2.length ≤ 1048576 := by
  unfold ratR; split
  · exact fitW_len _
  · simp
theorem rrootR_len (a : Wh) (k mode : Int) : (rrootR a k mode).1.2.length ≤ 1048576 := by
  unfold rrootR; split
  · exact fitW_len _
  · simp

end Go.Proofs.Ytlpfjpbnedankaa

/- What the root answers: the facts of numbers behind it (no program). -/
namespace Go.Proofs.Ytlpfjpbnedankaa
open Go.RowKit
set_option linter.unusedSimpArgs false

theorem pick_pos (q : Nat) (wh : Bool) (c mode : Int) (h0 : 0 ≤ mode) (h4 : mode ≤ 4) : pickI (q : Int) wh c mode = ((roundN q wh c false mode : Nat) : Int) := by
  have hq0 : ¬ ((q : Int) < 0) := by omega
  have hodd : ((q : Int) % 2 = 1) ↔ (q % 2 = 1) := by omega
  have hm5 : mode = 0 ∨ mode = 1 ∨ mode = 2 ∨ mode = 3 ∨ mode = 4 := by omega
  unfold roundN
  cases wh
  · rcases hm5 with rfl | rfl | rfl | rfl | rfl
    · simp [pickI, risesI, turnI]
    · simp [pickI, risesI, turnI]
    · simp [pickI, risesI, turnI, hq0]
    · simp only [pickI, risesI, turnI, hodd]
      by_cases c0 : c = 0
      · subst c0
        by_cases hq2 : q % 2 = 1
        · simp [hq2]
        · simp [hq2]
      · by_cases c1 : 0 ≤ c
        · have : 0 < c := by omega
          simp [c0, c1, this]
        · have : ¬ (0 < c) := by omega
          simp [c0, c1, this]
    · simp only [pickI, risesI, turnI]
      by_cases c1 : 0 ≤ c
      · have : 0 < c ∨ c = 0 := by omega
        simp [c1, this, hq0]
      · have k1 : ¬ (0 < c) := by omega
        have k2 : ¬ (c = 0) := by omega
        simp [c1, k1, k2]
  · simp [pickI]

theorem four_sq (y D : Nat) : (2 * y) * (2 * y) * D = y * y * D * 4 := by grind
theorem four_sq1 (y D : Nat) : (2 * y + 2) * (2 * y + 2) * D = (y + 1) * (y + 1) * D * 4 := by grind
theorem sq_lt {a b : Nat} (h : a * a < b * b) : a < b := by
  apply Classical.byContradiction
  intro hn
  have h2 : b ≤ a := by omega
  have := Nat.mul_le_mul h2 h2
  omega
/-- The root of four times as much is twice the root, or one more; which, and whether something is short, tells all. -/
theorem root_facts (m D : Nat) (hD : 0 < D) (y T : Nat) (hy : y = isqrt (m / D)) (hT : T = isqrt (m * 4 / D)) :
    T / 2 = y ∧ (T % 2 = 0 → (T * T * D < m * 4 ↔ ¬ (y * y * D = m)) ∧ m * 4 < (2 * y + 1) * (2 * y + 1) * D) ∧ (T % 2 = 1 → ¬ (y * y * D = m) ∧ (2 * y + 1) * (2 * y + 1) * D = T * T * D ∧ T * T * D ≤ m * 4) := by
  obtain ⟨a1, a2⟩ := isqrt_spec (m / D)
  obtain ⟨b1, b2⟩ := isqrt_spec (m * 4 / D)
  rw [← hy] at a1 a2
  rw [← hT] at b1 b2
  have c1 : y * y * D ≤ m := (Nat.le_div_iff_mul_le hD).1 a1
  have c2 : m < (y + 1) * (y + 1) * D := (Nat.div_lt_iff_lt_mul hD).1 a2
  have d1 : T * T * D ≤ m * 4 := (Nat.le_div_iff_mul_le hD).1 b1
  have d2 : m * 4 < (T + 1) * (T + 1) * D := (Nat.div_lt_iff_lt_mul hD).1 b2
  have e1 := four_sq y D
  have e2 := four_sq1 y D
  have f1 : 2 * y < T + 1 := by
    apply sq_lt
    apply Nat.lt_of_mul_lt_mul_right (a := D)
    omega
  have f2 : T < 2 * y + 2 := by
    apply sq_lt
    apply Nat.lt_of_mul_lt_mul_right (a := D)
    omega
  refine ⟨by omega, ?_, ?_⟩
  · intro h
    have hT2 : T = 2 * y := by omega
    subst hT2
    refine ⟨?_, ?_⟩
    · rw [e1]; omega
    · have : 2 * y + 1 = 2 * y + 1 := rfl
      exact d2
  · intro h
    have hT2 : T = 2 * y + 1 := by omega
    subst hT2
    refine ⟨?_, rfl, d1⟩
    intro he
    have h3 : (2 * y) * (2 * y) * D < (2 * y + 1) * (2 * y + 1) * D := by
      apply Nat.mul_lt_mul_of_pos_right _ hD
      exact Nat.mul_lt_mul'' (by omega) (by omega)
    omega

/-- Whether nothing is above the root's floor, and how what is above stands to a half, as the program finds it. -/
def rootWh (m k : Nat) : Bool := if isqrt (m * 4 / 2 ^ k) % 2 = 0 then decide (¬ (isqrt (m * 4 / 2 ^ k) * isqrt (m * 4 / 2 ^ k) * 2 ^ k < m * 4)) else false
def rootHf (m k : Nat) : Int := if isqrt (m * 4 / 2 ^ k) % 2 = 0 then -1 else if isqrt (m * 4 / 2 ^ k) * isqrt (m * 4 / 2 ^ k) * 2 ^ k < m * 4 then 1 else 0
theorem root_round (x : Int) (k : Nat) (mode : Int) (h0 : 0 ≤ mode) (h4 : mode ≤ 4) :
    rootI x k mode = ((roundN (isqrt (x.natAbs * 4 / 2 ^ k) / 2) (rootWh x.natAbs k) (rootHf x.natAbs k) false mode : Nat) : Int) := by
  have hD : 0 < 2 ^ k := Nat.pow_pos (by omega)
  obtain ⟨r1, r2, r3⟩ := root_facts x.natAbs (2 ^ k) hD _ _ rfl rfl
  unfold rootI
  rw [r1, ← pick_pos _ _ _ _ h0 h4]
  generalize isqrt (x.natAbs / 2 ^ k) = y at *
  unfold rootWh rootHf
  generalize isqrt (x.natAbs * 4 / 2 ^ k) = T at *
  generalize x.natAbs = m at *
  by_cases hT : T % 2 = 0
  · obtain ⟨s1, s2⟩ := r2 hT
    rw [if_pos hT, if_pos hT]
    have e1 : decide (y * y * 2 ^ k = m) = decide (¬ (T * T * 2 ^ k < m * 4)) := by
      rw [decide_eq_decide, s1]
      simp
    have e2 : cmpJ ((m * 4 : Nat) : Int) (((2 * y + 1) * (2 * y + 1) * 2 ^ k : Nat) : Int) = -1 := by
      unfold cmpJ
      rw [if_pos (by exact_mod_cast s2)]
    rw [e1, e2]
  · have hT1 : T % 2 = 1 := by omega
    obtain ⟨s1, s2, s3⟩ := r3 hT1
    rw [if_neg hT, if_neg hT, decide_eq_false s1, s2]
    congr 1
    unfold cmpJ
    by_cases hs : T * T * 2 ^ k < m * 4
    · have h1 : ¬ (((m * 4 : Nat) : Int) < ((T * T * 2 ^ k : Nat) : Int)) := by
        intro h
        have : m * 4 < T * T * 2 ^ k := by exact_mod_cast h
        omega
      have h2 : ((T * T * 2 ^ k : Nat) : Int) < ((m * 4 : Nat) : Int) := by exact_mod_cast hs
      rw [if_neg h1, if_pos h2, if_pos hs]
    · have h1 : ¬ (((m * 4 : Nat) : Int) < ((T * T * 2 ^ k : Nat) : Int)) := by
        intro h
        have : m * 4 < T * T * 2 ^ k := by exact_mod_cast h
        omega
      have h2 : ¬ (((T * T * 2 ^ k : Nat) : Int) < ((m * 4 : Nat) : Int)) := by
        intro h
        have : T * T * 2 ^ k < m * 4 := by exact_mod_cast h
        omega
      rw [if_neg h1, if_neg h2, if_neg hs]

end Go.Proofs.Ytlpfjpbnedankaa

/- The number one in a row of its own; small facts of rows. -/
namespace Go.Proofs.Ytlpfjpbnedankaa
open Go.RowKit

theorem one_row (w : World) : rowI (w.alloc (.cells #[.int .i64 1] 3)) (.slice (some ⟨w.heap.size, 0, none⟩) 1 1) [1] := by
  refine ⟨_, 1, rfl, Nat.le_refl _, by unfold maxLen; omega, (by intro h; cases h), (by intro x hx; cases hx; rfl), fun j hj => ?_⟩
  have hj0 : j = 0 := by simp at hj; omega
  subst hj0
  exact ⟨w.heap.size, 0, rfl, by simp, by simp⟩
theorem own_below {w w' : World} {base B n : Nat} {v : Value} {xs : List Value} (h : w.ownsRow base 3 1 v n xs) (hb : Below B w w') (hlt : w.heap.size ≤ B) : w'.ownsRow base 3 1 v n xs := by
  refine World.ownsRow.kept (row := none) h ⟨hb.os, hb.tape, hb.output, hb.size, fun k hk _ => hb.block k (by omega)⟩ ?_
  cases hv : v.ownBlock with
  | none => exact .inl rfl
  | some k => exact .inr (by simp)
theorem below_drewN (B : Nat) (w : World) (n : Nat) : Below B w (w.drewN n) := ⟨rfl, rfl, rfl, Nat.le_refl _, fun _ _ => rfl⟩
theorem one_own (w : World) : ownsI (w.alloc (.cells #[.int .i64 1] 3)) w.heap.size (.slice (some ⟨w.heap.size, 0, none⟩) 1 1) [1] :=
  World.ownsRow_lit w #[.int .i64 1] 1 (Nat.le_refl _) (by unfold maxLen; omega) rfl
theorem num_one : num [1] = 1 := by decide
theorem inR_one : inR [1] := inR_cons.2 ⟨by omega, inR_nil⟩

end Go.Proofs.Ytlpfjpbnedankaa

/- The places that may be asked for, on both sides. -/
namespace Go.Proofs.Ytlpfjpbnedankaa
open Go.RowKit

theorem placesAt (p : Int) (w : World) : Calls Try.prog 28 #[.int .i64 p] w fun e w' => e = .returned (.bool (decide (0 ≤ p ∧ p ≤ 480))) ∧ w' = w := by
  by_cases h1 : 0 ≤ p
  · by_cases h2 : p ≤ 480
    · rw [decide_eq_true ⟨h1, h2⟩]
      go_enter Try.func28, Try.ntmps28
      go_wp2
      go_ret
      exact ⟨rfl, rfl⟩
    · rw [decide_eq_false (by omega)]
      have h3 : decide (p ≤ 480) = false := decide_eq_false h2
      clear h2
      go_enter Try.func28, Try.ntmps28
      go_wp2
      go_ret
      exact ⟨rfl, rfl⟩
  · rw [decide_eq_false (by omega)]
    have h3 : decide (0 ≤ p) = false := decide_eq_false h1
    clear h1
    go_enter Try.func28, Try.ntmps28
    go_wp2
    go_ret
    exact ⟨rfl, rfl⟩

theorem placesAt_b (p : Int) (w : World) : Calls Try.prog 28 #[.int .i64 p] w fun e w' => e = .returned (.bool (decide (0 ≤ p ∧ p ≤ 480))) ∧ Below w.heap.size w w' :=
  (placesAt p w).mono fun _ _ ⟨h1, h2⟩ => ⟨h1, h2 ▸ Below.refl _ _⟩
end Go.Proofs.Ytlpfjpbnedankaa
