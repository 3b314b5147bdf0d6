/- What the functions on quotients, roots and texts answer; the facts of numbers behind them (no program). -/
import Derived.Test.YtnojigofojjopaaDoorNatR
import Derived.Test.YtnojigofojjopaaDoorLimbMore
import Derived.Test.YtnojigofojjopaaDoorNum
namespace Go.Proofs.YtnojigofojjopaaDoor
open Go.RowKit

def divR (xs ys : List Int) : List Int × List Int × Bool := if okB xs = true ∧ okB ys = true ∧ ys ≠ [] then (limbs (num xs / num ys), limbs (num xs % num ys), true) else ([], [], false)
/-- The root of a number, rounded down. -/
def isqrt : Nat → Nat
  | 0 => 0
  | n + 1 => if (isqrt n + 1) * (isqrt n + 1) ≤ n + 1 then isqrt n + 1 else isqrt n
theorem isqrt_spec (n : Nat) : isqrt n * isqrt n ≤ n ∧ n < (isqrt n + 1) * (isqrt n + 1) := by
  induction n with
  | zero => simp [isqrt]
  | succ n ih =>
    unfold isqrt
    split
    · rename_i h
      refine ⟨h, ?_⟩
      obtain ⟨_, h2⟩ := ih
      generalize isqrt n = r at *
      have : (r + 1 + 1) * (r + 1 + 1) = (r + 1) * (r + 1) + 2 * r + 3 := by grind
      omega
    · rename_i h
      omega
theorem isqrt_unique {n r : Nat} (h1 : r * r ≤ n) (h2 : n < (r + 1) * (r + 1)) : r = isqrt n := by
  obtain ⟨a, b⟩ := isqrt_spec n
  have k1 : r < isqrt n + 1 := by
    apply Classical.byContradiction
    intro h
    have := Nat.mul_le_mul (show isqrt n + 1 ≤ r by omega) (show isqrt n + 1 ≤ r by omega)
    omega
  have k2 : isqrt n < r + 1 := by
    apply Classical.byContradiction
    intro h
    have := Nat.mul_le_mul (show r + 1 ≤ isqrt n by omega) (show r + 1 ≤ isqrt n by omega)
    omega
  omega
theorem isqrt_le (n : Nat) : isqrt n ≤ n := by
  obtain ⟨a, _⟩ := isqrt_spec n
  by_cases h : isqrt n = 0
  · omega
  · have := Nat.le_mul_of_pos_right (isqrt n) (Nat.pos_of_ne_zero h)
    omega
def rootR (xs : List Int) : List Int × Bool := if okB xs = true then (limbs (isqrt (num xs)), true) else ([], false)
def powR (n k : Int) : List Int × Bool := if 0 ≤ n ∧ n ≤ 16777215 ∧ 0 ≤ k ∧ k ≤ 1000 then fitR (n.toNat ^ k.toNat) else ([], false)
def textR (xs : List Int) : ByteArray := if okB xs = true then ⟨(numL (num xs)).toArray⟩ else ⟨#[]⟩
def fromOk (l : List UInt8) : Prop := 1 ≤ l.length ∧ l.length ≤ 400 ∧ (∀ c ∈ l, isDig c) ∧ (limbs (val l)).length ≤ 48 ∧ numL (val l) = l
instance (l : List UInt8) : Decidable (fromOk l) := by unfold fromOk; infer_instance
def fromR (s : ByteArray) : List Int × Bool := if fromOk s.data.toList then (limbs (val s.data.toList), true) else ([], false)

theorem divR_len (xs ys : List Int) : (divR xs ys).1.length ≤ 1048576 ∧ (divR xs ys).2.1.length ≤ 1048576 := by
  unfold divR
  split
  · rename_i h
    have h1 := okL_lt ((okB_iff xs).1 h.1)
    have h2 : num xs / num ys ≤ num xs := Nat.div_le_self _ _
    have h3 : num xs % num ys ≤ num xs := Nat.mod_le _ _
    have a := limbs_len_le (num xs / num ys) 48 (by omega)
    have b := limbs_len_le (num xs % num ys) 48 (by omega)
    exact ⟨by show (limbs (num xs / num ys)).length ≤ 1048576; omega, by show (limbs (num xs % num ys)).length ≤ 1048576; omega⟩
  · simp
theorem rootR_len (xs : List Int) : (rootR xs).1.length ≤ 1048576 := by
  unfold rootR
  split
  · rename_i h
    have h1 := okL_lt ((okB_iff xs).1 h)
    have h2 := isqrt_le (num xs)
    have a := limbs_len_le (isqrt (num xs)) 48 (by omega)
    show (limbs (isqrt (num xs))).length ≤ 1048576
    omega
  · simp
theorem powR_len (n k : Int) : (powR n k).1.length ≤ 1048576 := by
  unfold powR
  split
  · exact fitR_len _
  · simp
theorem fromR_len (s : ByteArray) : (fromR s).1.length ≤ 1048576 := by
  unfold fromR
  split
  · rename_i h
    show (limbs (val s.data.toList)).length ≤ 1048576
    have := h.2.2.2.1
    omega
  · simp

/-! ### Division bit by bit -/
theorem bit_next (n k : Nat) : n / 2 ^ k = 2 * (n / 2 ^ (k + 1)) + n / 2 ^ k % 2 := by
  have : n / 2 ^ (k + 1) = n / 2 ^ k / 2 := by rw [Nat.pow_succ, Nat.div_div_eq_div_mul]
  omega
theorem div_bit {h d b h' : Nat} (hd : 0 < d) (hb : b ≤ 1) (hh : h' = 2 * h + b) :
    (if d ≤ 2 * (h % d) + b then h' % d = 2 * (h % d) + b - d ∧ h' / d = 2 * (h / d) + 1 else h' % d = 2 * (h % d) + b ∧ h' / d = 2 * (h / d)) := by
  have e := Nat.div_add_mod h d
  have l := Nat.mod_lt h hd
  generalize h % d = r at *
  generalize h / d = q at *
  subst e hh
  split
  · have e2 : 2 * (d * q + r) + b = (2 * r + b - d) + d * (2 * q + 1) := by
      rw [Nat.mul_add d, Nat.mul_add 2, ← Nat.mul_assoc, ← Nat.mul_assoc, Nat.mul_comm d 2]; omega
    rw [e2, Nat.add_mul_mod_self_left, Nat.mod_eq_of_lt (by omega), Nat.add_mul_div_left _ _ hd, Nat.div_eq_of_lt (by omega)]
    exact ⟨rfl, by omega⟩
  · have e2 : 2 * (d * q + r) + b = (2 * r + b) + d * (2 * q) := by
      rw [Nat.mul_add 2, ← Nat.mul_assoc, ← Nat.mul_assoc, Nat.mul_comm d 2]; omega
    rw [e2, Nat.add_mul_mod_self_left, Nat.mod_eq_of_lt (by omega), Nat.add_mul_div_left _ _ hd, Nat.div_eq_of_lt (by omega)]
    exact ⟨rfl, by omega⟩

/-- A limb of a number. -/
theorem limb_of {xs : List Int} (h : inR xs) (i : Nat) : xs.getD i 0 = ((num xs / 16777216 ^ i % 16777216 : Nat) : Int) := by
  have h1 := lval_split xs i
  have h2 := lval_drop xs i
  have h3 := lval_take_lt h i
  have h4 := lval_nonneg (inR_take h i)
  have h5 := num_val h
  have h6 := inR_getD h i
  have e1 : lval xs / 16777216 ^ i = lval (xs.drop i) := by
    rw [h1, Int.add_mul_ediv_left _ _ (by have := pow_pos i; omega), Int.ediv_eq_zero_of_lt h4 h3]
    omega
  have e2 : ((num xs / 16777216 ^ i % 16777216 : Nat) : Int) = lval xs / 16777216 ^ i % 16777216 := by rw [← h5]; simp
  rw [e2, e1, h2, Int.add_mul_emod_self_left, Int.emod_eq_of_lt h6.1 h6.2]

theorem pow24N (k : Nat) : 16777216 ^ (k / 24) * 2 ^ (k % 24) = 2 ^ k := by
  rw [show 16777216 = 2 ^ 24 by decide, ← Nat.pow_mul, ← Nat.pow_add]
  congr 1
  omega

/-- A bit of a number, out of its limb. -/
theorem bit_of {xs : List Int} (h : inR xs) (k : Nat) : xs.getD (k / 24) 0 / 2 ^ (k % 24) % 2 = ((num xs / 2 ^ k % 2 : Nat) : Int) := by
  rw [limb_of h, ← pow24N k, ← Nat.div_div_eq_div_mul]
  generalize num xs / 16777216 ^ (k / 24) = m
  have e : (m % 16777216) / 2 ^ (k % 24) % 2 = m / 2 ^ (k % 24) % 2 := by
    have hp : 16777216 = 2 ^ (k % 24) * (2 * 2 ^ (23 - k % 24)) := by
      rw [← Nat.pow_succ', ← Nat.pow_add, show k % 24 + (23 - k % 24).succ = 24 by omega]
    rw [hp, Nat.mod_mul_right_div_self, Nat.mod_mul_right_mod]
  have e2 : (((m % 16777216) / 2 ^ (k % 24) % 2 : Nat) : Int) = ((m % 16777216 : Nat) : Int) / 2 ^ (k % 24) % 2 := by simp
  rw [← e2, e]

/-- The limb of a number whose lower bits are nought has room for the bit. -/
theorem limb_room {zs : List Int} (h : inR zs) (k q : Nat) (hq : num zs = q * 2 ^ (k + 1)) : zs.getD (k / 24) 0 + 2 ^ (k % 24) < 16777216 := by
  have e0 : num zs / 16777216 ^ (k / 24) = 2 ^ (k % 24 + 1) * q := by
    rw [hq, Nat.pow_succ, ← pow24N k]
    have : q * (16777216 ^ (k / 24) * 2 ^ (k % 24) * 2) = 16777216 ^ (k / 24) * (2 ^ (k % 24 + 1) * q) := by rw [Nat.pow_succ]; grind
    rw [this, Nat.mul_div_cancel_left _ (Nat.pow_pos (by omega))]
  have hp : 16777216 = 2 ^ (k % 24 + 1) * 2 ^ (23 - k % 24) := by rw [← Nat.pow_add, show k % 24 + 1 + (23 - k % 24) = 24 by omega]
  have e1 : num zs / 16777216 ^ (k / 24) % 16777216 = 2 ^ (k % 24 + 1) * (q % 2 ^ (23 - k % 24)) := by
    rw [e0]
    conv => lhs; rw [hp]
    rw [Nat.mul_mod_mul_left]
  have e2 := limb_of h (k / 24)
  rw [e1] at e2
  have l : q % 2 ^ (23 - k % 24) < 2 ^ (23 - k % 24) := Nat.mod_lt _ (Nat.pow_pos (by omega))
  generalize q % 2 ^ (23 - k % 24) = t at *
  have l2 : 2 ^ (k % 24 + 1) * (t + 1) ≤ 2 ^ (k % 24 + 1) * 2 ^ (23 - k % 24) := Nat.mul_le_mul_left _ l
  rw [← hp, Nat.mul_add, Nat.mul_one] at l2
  have l3 : 2 ^ (k % 24) < 2 ^ (k % 24 + 1) := by rw [Nat.pow_succ]; have := Nat.pow_pos (n := k % 24) (show 0 < 2 by omega); omega
  have l4 : 2 ^ (k % 24 + 1) * t + 2 ^ (k % 24) < 16777216 := by omega
  rw [e2]
  have e3 : (((2 ^ (k % 24 + 1) * t + 2 ^ (k % 24) : Nat)) : Int) = ((2 ^ (k % 24 + 1) * t : Nat) : Int) + 2 ^ (k % 24) := by simp
  omega

theorem cmpI_ge {m n : Nat} (h : n ≤ m) : 0 ≤ cmpI m n := by unfold cmpI; rw [if_neg (by omega)]; split <;> omega
theorem cmpI_lt {m n : Nat} (h : m < n) : cmpI m n < 0 := by unfold cmpI; rw [if_pos h]; omega
theorem cmpI_le {m n : Nat} (h : m ≤ n) : cmpI m n ≤ 0 := by unfold cmpI; split; omega; rw [if_neg (by omega)]; omega
theorem cmpI_gt {m n : Nat} (h : n < m) : 0 < cmpI m n := by unfold cmpI; rw [if_neg (by omega), if_pos h]; omega
theorem cmpI_bd (m n : Nat) : -1 ≤ cmpI m n ∧ cmpI m n ≤ 1 := by unfold cmpI; split; omega; split <;> omega
theorem eq_limbs {ys : List Int} (h : inR ys ∧ noZ ys) : ys = limbs (num ys) := limbs_of h.1 h.2

theorem pow2_limbs (k : Nat) : (limbs (2 ^ k)).length ≤ k / 24 + 1 := by
  apply limbs_len_le
  rw [show 16777216 = 2 ^ 24 by decide, ← Nat.pow_mul]
  exact Nat.pow_lt_pow_right (by omega) (by omega)
theorem add_limbs (a b m : Nat) (ha : (limbs a).length ≤ m) (hb : (limbs b).length ≤ m) : (limbs (a + b)).length ≤ m + 1 := by
  apply limbs_len_le
  have h1 := limbs_lt a
  have h2 := limbs_lt b
  have h3 := Nat.pow_le_pow_right (show 0 < 16777216 by omega) ha
  have h4 := Nat.pow_le_pow_right (show 0 < 16777216 by omega) hb
  rw [Nat.pow_succ]
  omega
theorem mul_limbs (a b : Nat) : (limbs (a * b)).length ≤ (limbs a).length + (limbs b).length := by
  apply limbs_len_le
  rw [Nat.pow_add]
  exact Nat.mul_lt_mul_of_lt_of_le (limbs_lt a) (Nat.le_of_lt (limbs_lt b)) (Nat.pow_pos (by omega))

/-- The root, bit by bit. -/
theorem root_step {n r p : Nat} (h1 : r * r ≤ n) (h2 : n < (r + 2 * p) * (r + 2 * p)) :
    if (r + p) * (r + p) ≤ n then (r + p) * (r + p) ≤ n ∧ n < (r + p + p) * (r + p + p) else r * r ≤ n ∧ n < (r + p) * (r + p) := by
  split
  · rename_i h
    refine ⟨h, ?_⟩
    rw [show r + p + p = r + 2 * p by omega]
    exact h2
  · rename_i h
    exact ⟨h1, by omega⟩

end Go.Proofs.YtnojigofojjopaaDoor
