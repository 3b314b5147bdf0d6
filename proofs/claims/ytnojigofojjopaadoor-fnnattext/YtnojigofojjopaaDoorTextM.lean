/- Texts of numbers, some digits at once (plain facts, no program). -/
import Derived.Test.YtnojigofojjopaaDoorBase
import Derived.Lib.ItoaNum
import Derived.Lib.Repeat
namespace Go.Proofs.YtnojigofojjopaaDoor

/-- The last m digits. -/
def digs : Nat → Nat → List UInt8
  | 0, _ => []
  | m + 1, r => digs m (r / 10) ++ [UInt8.ofNat (48 + r % 10)]
theorem dec_step (n : Nat) (h : 10 ≤ n) : Lib.decDigits n = Lib.decDigits (n / 10) ++ [UInt8.ofNat (48 + n % 10)] := by
  rw [Lib.decDigits.eq_1 n, dif_neg (by omega)]
theorem digs_split (m : Nat) : ∀ n, 10 ^ m ≤ n → Lib.decDigits n = Lib.decDigits (n / 10 ^ m) ++ digs m (n % 10 ^ m) := by
  induction m with
  | zero => intro n _; simp [digs]
  | succ m ih =>
    intro n h
    have hp : 0 < 10 ^ m := Nat.pow_pos (by omega)
    have h2 : 10 ^ (m + 1) = 10 * 10 ^ m := by rw [Nat.pow_succ]; omega
    rw [h2] at h ⊢
    have h10 : 10 ≤ n := by omega
    rw [dec_step n h10, ih (n / 10) (by omega), Nat.div_div_eq_div_mul]
    show _ = _ ++ (digs m (n % (10 * 10 ^ m) / 10) ++ [UInt8.ofNat (48 + n % (10 * 10 ^ m) % 10)])
    rw [Nat.mod_mul_right_div_self, Nat.mod_mul_right_mod, List.append_assoc]
theorem digs_zero (m : Nat) : digs m 0 = List.replicate m 48 := by
  induction m with
  | zero => rfl
  | succ m ih =>
    show digs m (0 / 10) ++ [UInt8.ofNat (48 + 0 % 10)] = _
    rw [Nat.zero_div, ih, List.replicate_succ']
    rfl
theorem digs_pad (m : Nat) : ∀ r, r < 10 ^ (m + 1) → (Lib.decDigits r).length ≤ m + 1 ∧ List.replicate (m + 1 - (Lib.decDigits r).length) 48 ++ Lib.decDigits r = digs (m + 1) r := by
  induction m with
  | zero =>
    intro r h
    have hr : r < 10 := by simpa using h
    rw [Lib.decDigits_one hr]
    refine ⟨by simp, ?_⟩
    show _ = digs 0 (r / 10) ++ [UInt8.ofNat (48 + r % 10)]
    rw [Nat.mod_eq_of_lt hr]
    rfl
  | succ m ih =>
    intro r h
    by_cases hr : r < 10
    · rw [Lib.decDigits_one hr]
      refine ⟨by simp, ?_⟩
      show _ = digs (m + 1) (r / 10) ++ [UInt8.ofNat (48 + r % 10)]
      rw [Nat.mod_eq_of_lt hr, Nat.div_eq_of_lt hr, digs_zero]
      rfl
    · have h2 : 10 ^ (m + 1 + 1) = 10 * 10 ^ (m + 1) := by rw [Nat.pow_succ]; omega
      obtain ⟨i1, i2⟩ := ih (r / 10) (by omega)
      rw [dec_step r (by omega)]
      refine ⟨by rw [List.length_append]; simp; omega, ?_⟩
      show _ = digs (m + 1) (r / 10) ++ [UInt8.ofNat (48 + r % 10)]
      rw [← i2, List.length_append, List.append_assoc]
      have e : m + 1 + 1 - ((Lib.decDigits (r / 10)).length + [UInt8.ofNat (48 + r % 10)].length) = m + 1 - (Lib.decDigits (r / 10)).length := by simp
      rw [e]
theorem dec_pos (n : Nat) : 1 ≤ (Lib.decDigits n).length := by
  by_cases h : n < 10
  · rw [Lib.decDigits_one h]; simp
  · rw [dec_step n (by omega)]; simp
theorem dec_len_pow (L n : Nat) (hL : 0 < L) (h : n < 16777216 ^ L) : (Lib.decDigits n).length ≤ 8 * L := by
  have h3 : 16777216 ^ L ≤ (10 ^ 8) ^ L := Nat.pow_le_pow_left (by omega) L
  rw [← Nat.pow_mul] at h3
  obtain ⟨k, hk⟩ : ∃ k, 8 * L = k + 1 := ⟨8 * L - 1, by omega⟩
  rw [hk] at h3 ⊢
  exact (digs_pad k n (Nat.lt_of_lt_of_le h h3)).1
/-- Of a number of at most 98 limbs. -/
theorem dec_len98 (n : Nat) (h : (limbs n).length ≤ 98) : (Lib.decDigits n).length ≤ 784 :=
  dec_len_pow 98 n (by omega) (Nat.lt_of_lt_of_le (limbs_lt n) (Nat.pow_le_pow_right (by omega) h))
/-- The seven digits that are told at once, with noughts ahead. -/
theorem text_seven (m : Nat) (h : 10000000 ≤ m) : Lib.decDigits m = Lib.decDigits (m / 10000000) ++ (List.replicate (7 - (Lib.decDigits (m % 10000000)).length) 48 ++ Lib.decDigits (m % 10000000)) := by
  have h1 := digs_split 7 m (by omega)
  have h2 := (digs_pad 6 (m % 10000000) (Nat.mod_lt _ (by omega))).2
  rw [h2]
  exact h1
theorem seven_len (m : Nat) : (Lib.decDigits (m % 10000000)).length ≤ 7 := (digs_pad 6 (m % 10000000) (Nat.mod_lt _ (by omega))).1
theorem itoa_nat (n : Nat) : Lib.itoa (n : Int) = Lib.decDigits n := by
  unfold Lib.itoa
  rw [if_neg (by omega), Int.toNat_natCast]
theorem repeat_one (c : Nat) : Lib.repeatL [48] c = List.replicate c 48 := by
  have h := Lib.repeatL_replicate 48 1 c
  rw [Nat.mul_one] at h
  exact h
theorem size_list {t : ByteArray} {l : List UInt8} (h : t.data.toList = l) : t.size = l.length := by rw [← h]; rfl
theorem app_toList (a b : ByteArray) : (a ++ b).data.toList = a.data.toList ++ b.data.toList := by rw [ByteArray.data_append]; simp

end Go.Proofs.YtnojigofojjopaaDoor
