/- The program's bit and enter, each by its contract. -/
import Derived.Test.YtdpcobcaodlgiaaGB
import Derived.Test.YtdpcobcaodlgiaaBase
import Derived.Test.YtdpcobcaodlgiaaSB
namespace Go.Proofs.Ytdpcobcaodlgiaa
open Go.RowKit

set_option maxRecDepth 20000 in
set_option maxHeartbeats 1600000 in
/-- bit: one bit of a number. -/
theorem gBit (a oa m k : Nat) (w : World) (hk : k / 24 < 98) (ha : GA w a oa m) :
    Calls Try.prog 118 #[.pointer (some ⟨a, oa, none⟩), .int .i64 k] w fun e w' => e = .returned (.int .u32 ((m / 2 ^ k % 2 : Nat) : Int)) ∧ w' = w := by
  have hb := bit_of (limbs_inR m) k
  rw [num_limbs] at hb
  have cw := ha.word (k / 24) hk
  have gx := inR_getD (limbs_inR m) (k / 24)
  have hq : (k : Int) / 24 = ((k / 24 : Nat) : Int) := by omega
  have hs : (k : Int) % 24 = ((k % 24 : Nat) : Int) := by omega
  have hs1 : k % 24 < 24 := by omega
  have hk2 : k ≤ 100000 := by omega
  obtain ⟨x, hx⟩ : ∃ x, (limbs m).getD (k / 24) 0 = x := ⟨_, rfl⟩
  rw [hx] at hb cw gx
  obtain ⟨z, hz⟩ : ∃ z, m / 2 ^ k % 2 = z := ⟨_, rfl⟩
  rw [hz] at hb ⊢
  clear hx hz ha
  generalize k / 24 = q at *
  generalize k % 24 = s at *
  have P0 := two_pow_pos s
  obtain ⟨P, hP⟩ : ∃ P, (2 : Int) ^ s = P := ⟨_, rfl⟩
  rw [hP] at hb P0
  have hq98 : (q : Int) < 98 := by omega
  have hy0 : 0 ≤ x / P := Int.ediv_nonneg gx.1 (by omega)
  have HB : Hid (x / P % 2 = (z : Int)) := hb
  clear hb
  go_enter Try.func118, Try.ntmps118
  go_wp2
  go_ret
  exact ⟨by rw [← HB.out]; rfl, rfl⟩

theorem enter_step (i : Nat) (c x f A xk lo : Int) (ys : List Int) (hi : ys.length = i) (h : lval ys + 16777216 ^ i * c = f * A + lo) (hx : x = xk * f + c) :
    lval (ys ++ [x % 16777216]) + 16777216 ^ (i + 1) * (x / 16777216) = f * (A + 16777216 ^ i * xk) + lo := by
  rw [lval_snoc, hi, Int.pow_succ]
  have e : x = 16777216 * (x / 16777216) + x % 16777216 := by omega
  have e3 : (16777216 : Int) ^ i * x = 16777216 ^ i * 16777216 * (x / 16777216) + 16777216 ^ i * (x % 16777216) := by
    conv => lhs; rw [e]
    rw [Int.mul_add, ← Int.mul_assoc]
  have e2 : (16777216 : Int) ^ i * x = 16777216 ^ i * (xk * f) + 16777216 ^ i * c := by rw [hx, Int.mul_add]
  have e4 : f * (A + 16777216 ^ i * xk) = f * A + 16777216 ^ i * (xk * f) := by
    rw [Int.mul_add, Int.mul_comm xk f, ← Int.mul_assoc, ← Int.mul_assoc, Int.mul_comm f (16777216 ^ i)]
  omega
theorem entered {ys : List Int} {c f : Int} {m lo L : Nat} (hr : inR ys) (hl : ys.length = L) (hL : (limbs m).length = L) (c0 : 0 ≤ c) (c1 : c < 16777216) (f1 : 1 ≤ f)
    (h : lval ys + 16777216 ^ L * c = f * lval ((limbs m).take L) + lo) (N : Nat) (hN : (N : Int) = m * f + lo) :
    (c = 0 → limbs N = ys) ∧ (0 < c → limbs N = ys ++ [c]) := by
  rw [List.take_of_length_le (Nat.le_of_eq hL), limbs_val] at h
  have hmf : f * (m : Int) = m * f := Int.mul_comm _ _
  rw [hmf, ← hN] at h
  constructor
  · intro hc
    subst hc
    rw [Int.mul_zero, Int.add_zero] at h
    have hnum : num ys = N := by have := num_val hr; omega
    have hz : noZ ys := by
      refine noZ_of ?_
      by_cases h0 : ys = []
      · exact .inl h0
      · refine .inr (fun hz => ?_)
        have hpos : 0 < ys.length := List.length_pos_iff.2 h0
        obtain ⟨t, ht⟩ : ∃ t, ys.length = t + 1 := ⟨ys.length - 1, by omega⟩
        have s1 := lval_split ys t
        have s2 := lval_drop ys t
        rw [show ys.length - 1 = t by omega] at hz
        rw [hz, List.drop_of_length_le (by omega : ys.length ≤ t + 1)] at s2
        simp only [lval, Int.mul_zero, Int.add_zero] at s2
        rw [s2, Int.mul_zero, Int.add_zero] at s1
        have s3 := lval_take_lt hr t
        have hm : (m : Int) ≤ N := by
          have : (m : Int) * 1 ≤ m * f := Int.mul_le_mul_of_nonneg_left f1 (by omega)
          omega
        have s4 : (limbs m).length ≤ t := limbs_len_le m t (by
          have e1 : ((16777216 ^ t : Nat) : Int) = (16777216 : Int) ^ t := by simp
          omega)
        omega
    have := eq_limbs ⟨hr, hz⟩
    rw [hnum] at this
    exact this.symm
  · intro hc
    have hr2 : inR (ys ++ [c]) := inR_append.2 ⟨hr, inR_cons.2 ⟨⟨c0, c1⟩, inR_nil⟩⟩
    have hz : noZ (ys ++ [c]) := fun hne => by simp; omega
    have hv : lval (ys ++ [c]) = N := by rw [lval_snoc, hl]; exact h
    have hnum : num (ys ++ [c]) = N := by have := num_val hr2; omega
    have := eq_limbs ⟨hr2, hz⟩
    rw [hnum] at this
    exact this.symm

end Go.Proofs.Ytdpcobcaodlgiaa
