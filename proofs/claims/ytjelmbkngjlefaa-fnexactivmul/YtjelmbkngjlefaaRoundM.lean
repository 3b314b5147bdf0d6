/- What rounding answers; the facts of numbers behind it (no program). -/
import Derived.Test.YtjelmbkngjlefaaBase
namespace Go.Proofs.Ytjelmbkngjlefaa
open Go.RowKit
set_option linter.unusedSimpArgs false

def cmpJ (x y : Int) : Int := if x < y then -1 else if y < x then 1 else 0
/-- The floor or one more. -/
def pickI (fl : Int) (whole : Bool) (half mode : Int) : Int :=
  if whole = true then fl
  else if mode = 1 then fl + 1
  else if mode = 2 then (if fl < 0 then fl + 1 else fl)
  else if mode = 3 then (if 0 < half ∨ (half = 0 ∧ fl % 2 = 1) then fl + 1 else fl)
  else if mode = 4 then (if 0 < half ∨ (half = 0 ∧ ¬ fl < 0) then fl + 1 else fl)
  else fl
/-- A fraction, rounded. -/
def fracI (x y mode : Int) : Int := pickI (x / y) (decide (x - x / y * y = 0)) (cmpJ ((x - x / y * y) * 2) y) mode
/-- The root of a number by 2^k, rounded. -/
def rootI (x : Int) (k : Nat) (mode : Int) : Int :=
  pickI (isqrt (x.natAbs / 2 ^ k) : Nat) (decide (isqrt (x.natAbs / 2 ^ k) * isqrt (x.natAbs / 2 ^ k) * 2 ^ k = x.natAbs)) (cmpJ ((x.natAbs * 4 : Nat) : Int) (((2 * isqrt (x.natAbs / 2 ^ k) + 1) * (2 * isqrt (x.natAbs / 2 ^ k) + 1) * 2 ^ k : Nat) : Int)) mode

def turnI (mode : Int) : Int := if mode = 0 then 1 else if mode = 1 then 0 else mode
def risesI (q : Nat) (half mode : Int) : Bool :=
  if mode = 1 then true else if mode = 3 then (if half = 0 then decide (q % 2 = 1) else decide (0 ≤ half)) else if mode = 4 then decide (0 ≤ half) else false
/-- What the program makes of a size: below nought it is rounded the other way round. -/
def roundN (q : Nat) (whole : Bool) (half : Int) (neg : Bool) (mode : Int) : Nat :=
  if whole = false ∧ risesI q half (if neg = true then turnI mode else mode) = true then q + 1 else q

theorem roundN_le (q : Nat) (whole : Bool) (half : Int) (neg : Bool) (mode : Int) : roundN q whole half neg mode ≤ q + 1 := by
  unfold roundN
  generalize (if neg = true then turnI mode else mode) = m
  split <;> omega

theorem ediv_isR {x z P : Int} (hP : 0 < P) (h1 : z * P ≤ x) (h2 : x < z * P + P) : x / P = z := by
  have h3 := (Int.le_ediv_iff_mul_le hP).2 h1
  have h4 : x / P < z + 1 := (Int.ediv_lt_iff_lt_mul hP).2 (by rw [Int.add_mul, Int.one_mul]; exact h2)
  omega

theorem frac_round (x : Int) (d : Nat) (hd : 0 < d) (mode : Int) (h0 : 0 ≤ mode) (h4 : mode ≤ 4) :
    fracI x d mode = (if decide (x < 0) = true then -((roundN (x.natAbs / d) (decide (x.natAbs % d = 0)) (cmpJ ((x.natAbs % d * 2 : Nat) : Int) d) (decide (x < 0)) mode : Nat) : Int) else ((roundN (x.natAbs / d) (decide (x.natAbs % d = 0)) (cmpJ ((x.natAbs % d * 2 : Nat) : Int) d) (decide (x < 0)) mode : Nat) : Int)) := by
  have hdm := Nat.div_add_mod x.natAbs d
  have hlt := Nat.mod_lt x.natAbs hd
  have hm : ((x.natAbs / d : Nat) : Int) * (d : Int) + ((x.natAbs % d : Nat) : Int) = (x.natAbs : Int) := by
    rw [Nat.mul_comm] at hdm
    exact_mod_cast hdm
  have hdp : (0 : Int) < (d : Int) := by omega
  obtain ⟨q, hq⟩ : ∃ q, x.natAbs / d = q := ⟨_, rfl⟩
  obtain ⟨r, hr⟩ : ∃ r, x.natAbs % d = r := ⟨_, rfl⟩
  rw [hq, hr] at hm
  rw [hr] at hlt
  rw [hq, hr]
  clear hq hr hdm
  by_cases hx : x < 0
  · have hxa : x = -(x.natAbs : Int) := by omega
    by_cases hr0 : r = 0
    · subst hr0
      have hfl : x / (d : Int) = -(q : Int) := by
        apply ediv_isR hdp
        · rw [Int.neg_mul]; omega
        · rw [Int.neg_mul]; omega
      have hrest : x - x / (d : Int) * (d : Int) = 0 := by rw [hfl, Int.neg_mul]; omega
      unfold fracI roundN
      rw [hrest, hfl]
      simp [pickI, hx]
    · have hfl : x / (d : Int) = -(q : Int) - 1 := by
        apply ediv_isR hdp
        · rw [Int.sub_mul, Int.neg_mul]; omega
        · rw [Int.sub_mul, Int.neg_mul]; omega
      have hrest : x - x / (d : Int) * (d : Int) = (d : Int) - (r : Int) := by rw [hfl, Int.sub_mul, Int.neg_mul]; omega
      unfold fracI roundN
      rw [hrest, hfl]
      have w1 : decide ((d : Int) - (r : Int) = 0) = false := decide_eq_false (by omega)
      have w2 : decide (r = 0) = false := decide_eq_false hr0
      have w3 : decide (x < 0) = true := decide_eq_true hx
      rw [w1, w2, w3]
      have hq0 : -(q : Int) - 1 < 0 := by omega
      have hc : cmpJ (((d : Int) - (r : Int)) * 2) (d : Int) = -(cmpJ ((r * 2 : Nat) : Int) (d : Int)) := by
        unfold cmpJ
        split <;> split <;> (try split) <;> (try split) <;> omega
      rw [hc]
      generalize cmpJ ((r * 2 : Nat) : Int) (d : Int) = c
      have hodd : ((-(q : Int) - 1) % 2 = 1) ↔ ¬ (q % 2 = 1) := by omega
      have hm5 : mode = 0 ∨ mode = 1 ∨ mode = 2 ∨ mode = 3 ∨ mode = 4 := by omega
      rcases hm5 with rfl | rfl | rfl | rfl | rfl
      · simp [pickI, risesI, turnI]; omega
      · simp [pickI, risesI, turnI]
      · simp [pickI, risesI, turnI, hq0]
      · simp only [pickI, risesI, turnI, hodd]
        by_cases c0 : c = 0
        · subst c0
          by_cases hq2 : q % 2 = 1
          · simp [hq2]; omega
          · simp [hq2]
        · by_cases c1 : 0 ≤ c
          · have : ¬ (0 < -c) := by omega
            have k2 : ¬ (-c = 0) := by omega
            simp [c0, c1, this, k2]; omega
          · have : 0 < -c := by omega
            simp [c0, c1, this]
      · simp only [pickI, risesI, turnI]
        by_cases c1 : 0 ≤ c
        · have : ¬ (0 < -c) := by omega
          simp [c1, this, hq0]; omega
        · have : 0 < -c := by omega
          simp [c1, this]
  · have hxa : x = (x.natAbs : Int) := by omega
    have hfl : x / (d : Int) = (q : Int) := by
      apply ediv_isR hdp
      · omega
      · omega
    have hrest : x - x / (d : Int) * (d : Int) = (r : Int) := by rw [hfl]; omega
    unfold fracI roundN
    rw [hrest, hfl]
    have w3 : decide (x < 0) = false := decide_eq_false hx
    have w1 : decide ((r : Int) = 0) = decide (r = 0) := by by_cases h : r = 0 <;> simp [h]
    have e2 : (r : Int) * 2 = ((r * 2 : Nat) : Int) := by omega
    rw [w3, w1, e2]
    generalize cmpJ ((r * 2 : Nat) : Int) (d : Int) = c
    have hq0 : ¬ ((q : Int) < 0) := by omega
    have hodd : ((q : Int) % 2 = 1) ↔ (q % 2 = 1) := by omega
    have hm5 : mode = 0 ∨ mode = 1 ∨ mode = 2 ∨ mode = 3 ∨ mode = 4 := by omega
    by_cases hr0 : r = 0
    · simp [pickI, hr0]
    · rcases hm5 with rfl | rfl | rfl | rfl | rfl
      · simp [pickI, risesI, turnI, hr0]
      · simp [pickI, risesI, turnI, hr0]
      · simp [pickI, risesI, turnI, hr0, hq0]
      · simp only [pickI, risesI, turnI, hodd]
        by_cases c0 : c = 0
        · subst c0
          by_cases hq2 : q % 2 = 1
          · simp [hr0, hq2]
          · simp [hr0, hq2]
        · by_cases c1 : 0 ≤ c
          · have : 0 < c := by omega
            simp [hr0, c0, c1, this]
          · have : ¬ (0 < c) := by omega
            simp [hr0, c0, c1, this]
      · simp only [pickI, risesI, turnI]
        by_cases c1 : 0 ≤ c
        · have : 0 < c ∨ c = 0 := by omega
          simp [hr0, c1, this, hq0]
        · have k1 : ¬ (0 < c) := by omega
          have k2 : ¬ (c = 0) := by omega
          simp [hr0, c1, k1, k2]

def rfracR (a b : Wh) (mode : Int) : Wh × Bool := if okW a = true ∧ okW b = true ∧ 0 < valW b ∧ 0 ≤ mode ∧ mode ≤ 4 then fitW (fracI (valW a) (valW b) mode) else ((false, []), false)
def ratR (a : Wh) (k mode : Int) : Wh × Bool := if okW a = true ∧ 0 ≤ k ∧ k ≤ 600 ∧ 0 ≤ mode ∧ mode ≤ 4 then fitW (fracI (valW a) (2 ^ k.toNat) mode) else ((false, []), false)
def rrootR (a : Wh) (k mode : Int) : Wh × Bool := if okW a = true ∧ 0 ≤ valW a ∧ 0 ≤ k ∧ k ≤ 600 ∧ 0 ≤ mode ∧ mode ≤ 4 then fitW (rootI (valW a) k.toNat mode) else ((false, []), false)
theorem rfracR_len (a b : Wh) (mode : Int) : (rfracR a b mode).1.2.length ≤ 1048576 := by
  unfold rfracR; split
  · exact fitW_len _
  · simp
theorem ratR_len (a : Wh) (k mode : Int) : (ratR a k mode).1.2.length ≤ 1048576 := by
  unfold ratR; split
  · exact fitW_len _
  · simp
theorem rrootR_len (a : Wh) (k mode : Int) : (rrootR a k mode).1.2.length ≤ 1048576 := by
  unfold rrootR; split
  · exact fitW_len _
  · simp

end Go.Proofs.Ytjelmbkngjlefaa
