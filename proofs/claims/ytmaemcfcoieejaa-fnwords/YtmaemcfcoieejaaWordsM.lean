/- FnWords: a word and its bits tell the same number (no walk). -/
import Derived.Test.YtmaemcfcoieejaaBitsB
import Derived.Test.YtmaemcfcoieejaaRawOf
namespace Go.Proofs.Ytmaemcfcoieejaa
open Go.RowKit
set_option linter.unusedSimpArgs false

/-- One sign read. -/
def rdStep (n : Int) (c : UInt8) : Int := if c.toNat = 49 then 2 * n + 1 else if c.toNat = 48 then 2 * n else n
def readB (l : List UInt8) : Int := l.foldl rdStep 0
theorem rd_snoc (l : List UInt8) (c : UInt8) : readB (l ++ [c]) = rdStep (readB l) c := by unfold readB; rw [List.foldl_append]; rfl
theorem rdStep_le {n : Int} (h : 0 ≤ n) (c : UInt8) : n ≤ rdStep n c := by
  unfold rdStep
  split
  · omega
  · split <;> omega
theorem rd_fold (r : List UInt8) : ∀ n : Int, 0 ≤ n → n ≤ r.foldl rdStep n := by
  induction r with
  | nil => intro n _; exact Int.le_refl _
  | cons c r ih =>
    intro n h
    have h1 := rdStep_le h c
    exact Int.le_trans h1 (ih _ (by omega))
theorem rd_pos (l : List UInt8) : 0 ≤ readB l := rd_fold l 0 (Int.le_refl _)
theorem rd_take (l : List UInt8) (k : Nat) : readB (l.take k) ≤ readB l := by
  have e : readB l = (l.drop k).foldl rdStep (readB (l.take k)) := by
    unfold readB
    rw [← List.foldl_append, List.take_append_drop]
  rw [e]
  exact rd_fold _ _ (rd_pos _)
theorem take_rd (s : ByteArray) (k : Nat) (h : k < s.size) : s.data.toList.take (k + 1) = s.data.toList.take k ++ [s[k]] := by
  rw [List.take_succ_eq_append_getElem (by simpa using h)]; rfl
theorem mod_next (x : Int) (j : Nat) : x % 2 ^ (j + 1) = x / 2 ^ j % 2 * 2 ^ j + x % 2 ^ j := by
  have p := two_pow_pos j
  have h1 : (2 : Int) ^ (j + 1) = 2 ^ j * 2 := Int.pow_succ 2 j
  have h2 := Int.mul_ediv_add_emod x (2 ^ j)
  have h3 := Int.mul_ediv_add_emod (x / 2 ^ j) 2
  have m0 := Int.emod_nonneg x (Int.ne_of_gt p)
  have m1 := Int.emod_lt_of_pos x p
  generalize hP : (2 : Int) ^ j = P at *
  generalize hq : x / P = q at *
  generalize hr : x % P = r at *
  generalize hs : q / 2 = s at *
  have hb := Int.emod_two_eq q
  generalize q % 2 = b at *
  rw [h1, ← h2, ← h3]
  have e : P * (2 * s + b) + r = (b * P + r) + P * 2 * s := by
    rw [Int.mul_add, ← Int.mul_assoc, Int.mul_comm P b]
    omega
  rw [e, Int.add_mul_emod_self_left]
  refine Int.emod_eq_of_lt ?_ ?_
  · rcases hb with rfl | rfl <;> omega
  · rcases hb with rfl | rfl <;> omega
theorem rd_bits (x F : Int) : ∀ (j : Nat) (a : Int), (bytesL (bitsFrom x F j)).foldl rdStep a = a * 2 ^ j + x % 2 ^ j := by
  intro j
  induction j with
  | zero => intro a; simp [bitsFrom, bytesL]
  | succ j ih =>
    intro a
    have hb := bit_cases x j
    have e : bytesL (bitsFrom x F (j + 1)) = bytesL (if (j : Int) = F - 1 then [46] else []) ++ (UInt8.ofNat (bitAt8 x j).toNat :: bytesL (bitsFrom x F j)) := by
      unfold bytesL
      rw [bitsFrom, List.map_append, List.map_cons]
    rw [e, List.foldl_append, List.foldl_cons]
    have e1 : (bytesL (if (j : Int) = F - 1 then [46] else [])).foldl rdStep a = a := by
      split
      · rfl
      · rfl
    have e2 : rdStep a (UInt8.ofNat (bitAt8 x j).toNat) = 2 * a + x / 2 ^ j % 2 := by
      rcases hb with ⟨h1, h2⟩ | ⟨h1, h2⟩
      · rw [h1, h2]
        show rdStep a 48 = _
        unfold rdStep
        rw [if_neg (by decide), if_pos (by decide)]
        omega
      · rw [h1, h2]
        show rdStep a 49 = _
        unfold rdStep
        rw [if_pos (by decide)]
    rw [e1, e2, ih, mod_next, Int.pow_succ, Int.add_mul]
    generalize (2 : Int) ^ j = P
    rw [show a * (P * 2) = 2 * a * P by rw [Int.mul_comm P 2, ← Int.mul_assoc, Int.mul_comm a 2]]
    omega
theorem bits_len (x F : Int) : ∀ (j : Nat), ((bitsFrom x F j).length : Int) = j + if 0 < F ∧ F ≤ j then 1 else 0 := by
  intro j
  induction j with
  | zero =>
    rw [if_neg (by omega)]
    rfl
  | succ j ih =>
    rw [bitsFrom, List.length_append, List.length_cons]
    by_cases h : (j : Int) = F - 1
    · rw [if_pos h, if_pos (by omega)]
      rw [if_neg (by omega)] at ih
      simp
      omega
    · rw [if_neg h]
      by_cases h2 : 0 < F ∧ F ≤ j
      · rw [if_pos h2] at ih
        rw [if_pos (by omega)]
        simp
        omega
      · rw [if_neg h2] at ih
        rw [if_neg (by omega)]
        simp
        omega
theorem bytes_len (xs : List Int) : (strOfNums xs).size = xs.length := by
  have h := strOfNums_data xs
  show (strOfNums xs).data.size = _
  rw [← Array.length_toList, h, List.length_map]
theorem word_lt {g : Bool} {m n v : Int} (h : rawR g m n v = true) : wordR g m n v < 2 ^ m.toNat ∧ rawOfR g m n (wordR g m n v) = (v, true) := by
  have h0 := h
  unfold rawR at h
  simp only [Bool.and_eq_true, decide_eq_true_eq] at h
  obtain ⟨⟨k1, k2⟩, k3⟩ := h
  have hf := of_decide_eq_true k1
  have p2 := two_pow_pos m.toNat
  have p4 := two_pow_pos (m - 1).toNat
  have hp : (2 : Int) ^ m.toNat = 2 ^ (m - 1).toNat * 2 := by
    rw [← Int.pow_succ]
    congr 1
    omega
  unfold leastR at k2
  unfold rawOfR wordR
  have hmo : mostR g m n = if g = true then (2 : Int) ^ (m - 1).toNat - 1 else 2 ^ m.toNat - 1 := by unfold mostR; rw [if_pos k1]
  rw [hmo] at k3
  rw [if_pos h0, hmo]
  generalize (2 : Int) ^ m.toNat = P at *
  generalize (2 : Int) ^ (m - 1).toNat = R at *
  cases g
  · rw [if_neg (by simp)] at k2
    rw [if_neg (by simp)] at k3
    have hv : ¬ v < 0 := by omega
    rw [if_neg hv, if_neg (by simp : ¬ (false = true)), if_pos ⟨k1, by omega, by omega⟩, if_neg (by omega)]
    exact ⟨by omega, rfl⟩
  · rw [if_pos ⟨k1, rfl⟩] at k2
    rw [if_pos rfl] at k3
    rw [if_pos rfl]
    by_cases hv : v < 0
    · rw [if_pos hv, if_pos ⟨k1, by omega, by omega⟩, if_pos (by omega)]
      refine ⟨by omega, ?_⟩
      congr 1
      omega
    · rw [if_neg hv, if_pos ⟨k1, by omega, by omega⟩, if_neg (by omega)]
      exact ⟨by omega, rfl⟩
/-- What the law meets where the number fits. -/
theorem words_facts {g : Bool} {m n v : Int} (h : rawR g m n v = true) : readB (bitsR g m n v).data.toList = wordR g m n v ∧ ((bitsR g m n v).size : Int) = m + (if 0 < n then 1 else 0) := by
  obtain ⟨f1, f2, f3, f4, f5, f6⟩ := word_facts h
  obtain ⟨l1, -⟩ := word_lt h
  have e : bitsR g m n v = strOfNums (bitsFrom (wordR g m n v) n m.toNat) := if_pos h
  rw [e]
  generalize wordR g m n v = x at *
  refine ⟨?_, ?_⟩
  · rw [strOfNums_data]
    have := rd_bits x n m.toNat 0
    unfold readB
    unfold bytesL at this
    rw [this, Int.zero_mul, Int.zero_add]
    exact Int.emod_eq_of_lt f1 l1
  · rw [bytes_len, bits_len, Int.toNat_of_nonneg (by omega)]
    by_cases h0 : 0 < n
    · rw [if_pos ⟨h0, f6⟩, if_pos h0]
    · rw [if_neg (by omega), if_neg h0]

end Go.Proofs.Ytmaemcfcoieejaa
