/- Great numbers as lists of limbs: what they stand for, the one right list of a number (plain facts, no program). -/
import Derived.Below
namespace Go.Proofs.YtnojigofojjopaaDoor

/-- What a list of limbs stands for. -/
def lval : List Int → Int
  | [] => 0
  | x :: r => x + 16777216 * lval r
/-- Each limb from 0 to Base - 1. -/
def inR (xs : List Int) : Prop := ∀ x ∈ xs, 0 ≤ x ∧ x < 16777216
/-- The one right list of a number. -/
def limbs (n : Nat) : List Int := if n = 0 then [] else ((n % 16777216 : Nat) : Int) :: limbs (n / 16777216)
  termination_by n
  decreasing_by omega
theorem limbs_zero : limbs 0 = [] := by rw [limbs]; simp
theorem limbs_pos (n : Nat) (h : 0 < n) : limbs n = ((n % 16777216 : Nat) : Int) :: limbs (n / 16777216) := by
  conv => lhs; rw [limbs]
  rw [if_neg (by omega)]
theorem inR_nil : inR [] := by intro x hx; cases hx
theorem inR_cons {x : Int} {r : List Int} : inR (x :: r) ↔ (0 ≤ x ∧ x < 16777216) ∧ inR r := by
  constructor
  · intro h; exact ⟨h x (by simp), fun y hy => h y (by simp [hy])⟩
  · rintro ⟨h, h2⟩ y hy
    rcases List.mem_cons.1 hy with rfl | hy
    · exact h
    · exact h2 y hy
theorem inR_append {xs ys : List Int} : inR (xs ++ ys) ↔ inR xs ∧ inR ys := by
  constructor
  · intro h; exact ⟨fun x hx => h x (by simp [hx]), fun x hx => h x (by simp [hx])⟩
  · rintro ⟨h1, h2⟩ x hx
    rcases List.mem_append.1 hx with hx | hx
    · exact h1 x hx
    · exact h2 x hx
theorem inR_take {xs : List Int} (h : inR xs) (n : Nat) : inR (xs.take n) := fun x hx => h x (List.mem_of_mem_take hx)
theorem inR_drop {xs : List Int} (h : inR xs) (n : Nat) : inR (xs.drop n) := fun x hx => h x (List.mem_of_mem_drop hx)
theorem lval_nonneg {xs : List Int} (h : inR xs) : 0 ≤ lval xs := by
  induction xs with
  | nil => simp [lval]
  | cons x r ih =>
    obtain ⟨h1, h2⟩ := inR_cons.1 h
    have := ih h2
    simp only [lval]; omega
theorem lval_append (xs ys : List Int) : lval (xs ++ ys) = lval xs + 16777216 ^ xs.length * lval ys := by
  induction xs with
  | nil => simp [lval]
  | cons x r ih =>
    simp only [List.cons_append, lval, ih, List.length_cons, Int.pow_succ]
    rw [Int.mul_add, ← Int.mul_assoc, Int.mul_comm 16777216 (16777216 ^ r.length)]
    omega
theorem lval_snoc (xs : List Int) (x : Int) : lval (xs ++ [x]) = lval xs + 16777216 ^ xs.length * x := by
  rw [lval_append]; simp [lval]
theorem pow_pos (n : Nat) : (0 : Int) < 16777216 ^ n := Int.pow_pos (by omega)
theorem lval_lt {xs : List Int} (h : inR xs) : lval xs < 16777216 ^ xs.length := by
  induction xs with
  | nil => simp [lval]
  | cons x r ih =>
    obtain ⟨h1, h2⟩ := inR_cons.1 h
    have := ih h2
    simp only [lval, List.length_cons, Int.pow_succ]
    omega
theorem lval_zeros (n : Nat) : lval (List.replicate n 0) = 0 := by
  induction n with
  | zero => rfl
  | succ n ih => simp [List.replicate_succ, lval, ih]
theorem limbs_val (n : Nat) : lval (limbs n) = n := by
  induction n using Nat.strongRecOn with
  | ind n ih =>
    by_cases h : n = 0
    · subst h; rw [limbs_zero]; rfl
    · rw [limbs_pos n (by omega), lval, ih (n / 16777216) (by omega)]
      omega
theorem limbs_inR (n : Nat) : inR (limbs n) := by
  induction n using Nat.strongRecOn with
  | ind n ih =>
    by_cases h : n = 0
    · subst h; rw [limbs_zero]; exact inR_nil
    · rw [limbs_pos n (by omega)]
      exact inR_cons.2 ⟨by omega, ih (n / 16777216) (by omega)⟩
/-- No nought at the end. -/
def noZ (xs : List Int) : Prop := ∀ h : xs ≠ [], xs.getLast h ≠ 0
theorem limbs_noZ (n : Nat) : noZ (limbs n) := by
  induction n using Nat.strongRecOn with
  | ind n ih =>
    intro hne
    by_cases h : n = 0
    · subst h; exact absurd limbs_zero hne
    · have e := limbs_pos n (by omega)
      by_cases hq : n / 16777216 = 0
      · have e2 : limbs n = [((n % 16777216 : Nat) : Int)] := by rw [e, hq, limbs_zero]
        simp only [e2, List.getLast_singleton]
        omega
      · have hne2 : limbs (n / 16777216) ≠ [] := by rw [limbs_pos _ (by omega)]; simp
        have := ih (n / 16777216) (by omega) hne2
        simp only [e]
        rwa [List.getLast_cons hne2]
/-- A list with right limbs and no nought at the end is the one right list. -/
theorem limbs_of {xs : List Int} (h : inR xs) (hz : noZ xs) : xs = limbs (lval xs).toNat := by
  induction xs with
  | nil => simp [lval, limbs_zero]
  | cons x r ih =>
    obtain ⟨h1, h2⟩ := inR_cons.1 h
    have hr0 := lval_nonneg h2
    have hzr : noZ r := fun hne => by
      have := hz (by simp)
      rwa [List.getLast_cons hne] at this
    have ih := ih h2 hzr
    have hpos : 0 < lval (x :: r) := by
      simp only [lval]
      by_cases hr : r = []
      · subst hr
        have := hz (by simp)
        simp at this
        simp [lval]; omega
      · have : lval r ≠ 0 := fun e => by
          rw [e] at ih
          simp [limbs_zero] at ih
          exact hr ih
        omega
    rw [limbs_pos _ (by omega)]
    have e1 : (lval (x :: r)).toNat % 16777216 = x.toNat := by simp only [lval]; omega
    have e2 : (lval (x :: r)).toNat / 16777216 = (lval r).toNat := by simp only [lval]; omega
    rw [e1, e2, ← ih]
    congr 1
    omega
/-- How long the right list is. -/
theorem limbs_len_le (n k : Nat) (h : n < 16777216 ^ k) : (limbs n).length ≤ k := by
  induction k generalizing n with
  | zero =>
    have : n = 0 := by simpa using h
    subst this; rw [limbs_zero]; simp
  | succ k ih =>
    by_cases h0 : n = 0
    · subst h0; rw [limbs_zero]; simp
    · rw [limbs_pos n (by omega), List.length_cons]
      have := ih (n / 16777216) (by rw [Nat.pow_succ] at h; omega)
      omega
theorem limbs_lt (n : Nat) : n < 16777216 ^ (limbs n).length := by
  have h := lval_lt (limbs_inR n)
  rw [limbs_val] at h
  have e : ((16777216 ^ (limbs n).length : Nat) : Int) = (16777216 : Int) ^ (limbs n).length := by simp
  omega
theorem limbs_len_mono {m n : Nat} (h : m ≤ n) : (limbs m).length ≤ (limbs n).length := limbs_len_le m _ (Nat.lt_of_le_of_lt h (limbs_lt n))

/-- NatOk. -/
def okL (xs : List Int) : Prop := xs.length ≤ 48 ∧ inR xs ∧ noZ xs
theorem okL_eq {xs : List Int} (h : okL xs) : xs = limbs (lval xs).toNat := limbs_of h.2.1 h.2.2
/-- The number of a list that is NatOk. -/
def num (xs : List Int) : Nat := (lval xs).toNat
theorem num_val {xs : List Int} (h : inR xs) : (num xs : Int) = lval xs := by
  have := lval_nonneg h
  unfold num; omega
theorem okL_limbs {n : Nat} (h : (limbs n).length ≤ 48) : okL (limbs n) := ⟨h, limbs_inR n, limbs_noZ n⟩
theorem num_limbs (n : Nat) : num (limbs n) = n := by unfold num; rw [limbs_val]; simp

/-- Where noughts stand at the end, the rest stands for the same number. -/
theorem lval_trim (xs : List Int) (n : Nat) (h : ∀ j, n ≤ j → j < xs.length → xs.getD j 0 = 0) : lval (xs.take n) = lval xs := by
  by_cases hn : n < xs.length
  · have e : xs.drop n = List.replicate (xs.length - n) 0 := by
      apply List.ext_getElem
      · simp
      · intro i h1 h2
        have hi : n + i < xs.length := by rw [List.length_drop] at h1; omega
        have := h (n + i) (by omega) hi
        rw [List.getD_eq_getElem?_getD, List.getElem?_eq_getElem hi] at this
        simpa using this
    have := lval_append (xs.take n) (xs.drop n)
    rw [List.take_append_drop, e, lval_zeros] at this
    omega
  · rw [List.take_of_length_le (by omega)]

/-- What is cut at its last limb that is no nought is the right list. -/
theorem trim_limbs (xs : List Int) (n : Nat) (hr : inR xs) (hn : n ≤ xs.length) (h : ∀ j, n ≤ j → j < xs.length → xs.getD j 0 = 0) (h0 : 0 < n → xs.getD (n - 1) 0 ≠ 0) : xs.take n = limbs (num xs) := by
  have e := limbs_of (inR_take hr n) (fun hne => by
    have hpos : 0 < n := by
      rcases Nat.eq_zero_or_pos n with rfl | h
      · simp at hne
      · exact h
    have := h0 hpos
    rw [List.getLast_eq_getElem]
    have hl : (xs.take n).length = n := by rw [List.length_take]; omega
    rw [List.getD_eq_getElem?_getD, List.getElem?_eq_getElem (by omega : n - 1 < xs.length)] at this
    simp only [hl, List.getElem_take]
    simpa using this)
  rw [e, lval_trim xs n h]
  rfl

end Go.Proofs.YtnojigofojjopaaDoor
