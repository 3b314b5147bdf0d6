/- The specification's l2Up and NatShl, by their contracts. -/
import Derived.Test.YtlpfjpbnedankaaSB
import Derived.Laws.MakeOwn
namespace Go.Proofs.Ytlpfjpbnedankaa
open Go.RowKit

theorem up_step (i : Nat) (c x f A xk : Int) (ys : List Int) (hi : ys.length = i) (h : lval ys + 16777216 ^ i * c = f * A) (hx : x = xk * f + c) :
    lval (ys ++ [x % 16777216]) + 16777216 ^ (i + 1) * (x / 16777216) = f * (A + 16777216 ^ i * xk) := by
  rw [lval_snoc, hi, Int.pow_succ]
  have e : x = 16777216 * (x / 16777216) + x % 16777216 := by omega
  have e3 : (16777216 : Int) ^ i * x = 16777216 ^ i * 16777216 * (x / 16777216) + 16777216 ^ i * (x % 16777216) := by
    conv => lhs; rw [e]
    rw [Int.mul_add, ← Int.mul_assoc]
  have e2 : (16777216 : Int) ^ i * x = 16777216 ^ i * (xk * f) + 16777216 ^ i * c := by rw [hx, Int.mul_add]
  have e4 : f * (A + 16777216 ^ i * xk) = f * A + 16777216 ^ i * (xk * f) := by
    rw [Int.mul_add, Int.mul_comm xk f, ← Int.mul_assoc, ← Int.mul_assoc, Int.mul_comm f (16777216 ^ i)]
  omega

theorem mul_bd {d f : Int} (d0 : 0 ≤ d) (d1 : d < 16777216) (f0 : 0 < f) (_f1 : f ≤ 8388608) : 0 ≤ d * f ∧ d * f ≤ 16777215 * f := 
  ⟨Int.mul_nonneg d0 (by omega), Int.mul_le_mul_of_nonneg_right (by omega) (by omega)⟩

theorem pow24 (k : Nat) : (16777216 : Int) ^ (k / 24) * 2 ^ (k % 24) = 2 ^ k := by
  have e : (16777216 : Int) = 2 ^ 24 := by decide
  rw [e, ← Int.pow_mul, ← Int.pow_add]
  congr 1
  omega

set_option maxHeartbeats 1600000 in
/-- l2Up: the number times 2^k. -/
theorem sUp (v : Value) (xs : List Int) (k : Nat) (w : World) (h : rowI w v xs) (hr : inR xs) (hl : xs.length ≤ 1048576) (hk : k ≤ 16777216) :
    Calls Try.prog 84 #[v, .int .i64 k] w fun e w' => ∃ v', e = .returned v' ∧ ownsI w' w.heap.size v' (limbs (num xs * 2 ^ k)) ∧ Below w.heap.size w w' := by
  obtain ⟨a, cap, rfl, -⟩ := id h
  obtain ⟨i0, hi, hz0, hz1, hz2⟩ := info_parts Try.info3
  obtain ⟨w1, hmk, hown1, hg1⟩ := run_make_full (P := Try.prog) w w.heap.size 25 3 i0 (.int .i64 0) 1 Try.underlying25 hi hz0 hz1 .i64 .i64 (k / 24) (by rw [hz2]; omega) (by unfold maxLen; omega) (Nat.le_refl _)
  have ec : ((k / 24 : Nat) : Int) = (k : Int) / 24 := by omega
  rw [ec] at hmk
  have hb1 : Below w.heap.size w w1 := (Below.refl _ _).grown hg1 (Nat.le_refl _) (fun k hk => by cases hk)
  have hz : (madeCells (Value.int .i64 0).cells (k / 24 * 1)).toList = (List.replicate (k / 24) (0 : Int)).map (Value.int .i64) := by
    rw [Nat.mul_one]
    have := toList_madeCells_one (Value.int .i64 0) (k / 24)
    rw [List.map_replicate]
    exact this
  have ho1 : ownsI w1 w.heap.size (.slice (some ⟨w.heap.size, 0, none⟩) (k / 24) (k / 24)) (List.replicate (k / 24) 0) := by
    rw [hz] at hown1
    unfold ownsI
    rw [List.length_replicate]
    exact hown1
  have hf0 := two_pow_pos (k % 24)
  have hf1 : (2 : Int) ^ (k % 24) ≤ 8388608 := two_pow_le (show k % 24 ≤ 23 by omega)
  have hm24 : ((k % 24 : Nat) : Int) = (k : Int) % 24 := by omega
  have kp := sPow (k % 24) w1 (by omega)
  rw [hm24] at kp
  have hpw := pow24 k
  obtain ⟨f, hf⟩ : ∃ f, (2 : Int) ^ (k % 24) = f := ⟨_, rfl⟩
  rw [hf] at hf0 hf1 kp hpw
  have HPW : Hid ((16777216 : Int) ^ (k / 24) * f = 2 ^ k) := hpw
  have hrow1 := h.below hb1 (Nat.le_refl _)
  clear hown1 hg1 hi hz0 hz1 hz2 hf hm24 hpw hz ec
  go_enter Try.func84, Try.ntmps84
  go_wp2_with (go_at_call 105; refine kp.mono ?_; rintro e w1 ⟨rfl, rfl⟩)
  go_loopw [5, 7, 8, 9] (fun v c i x wr => ∃ (j : Nat) (cc : Int) (ys : List Int), j ≤ xs.length + 1 ∧ i = .int .i64 j ∧ c = .int .i64 cc ∧ 0 ≤ cc ∧ cc < f ∧ (xs.length < j → cc = 0) ∧ ys.length = j ∧ inR ys ∧ Hid (lval ys + 16777216 ^ j * cc = f * lval (xs.take j)) ∧ ownsI wr w.heap.size v (List.replicate (k / 24) 0 ++ ys) ∧ Below w.heap.size w wr) (fun _ _ i _ _ => xs.length + 1 - (intOf i).toNat)
  case atStart => exact ⟨0, 0, [], by omega, rfl, rfl, by omega, hf0, fun _ => rfl, rfl, inR_nil, by show _ = _; simp [lval], by rw [List.append_nil]; exact ho1, hb1⟩
  case round =>
    obtain ⟨j, cc, ys, hj, rfl, rfl, c0, c1, cz, hol, hoR, HL, hown, hbw⟩ := hrel
    have hsz := hbw.size
    by_cases hlt : j ≤ xs.length
    · have hlt' : (j : Int) ≤ (xs.length : Int) := by omega
      have kl := sLimb _ xs j wr (h.below hbw (Nat.le_refl _))
      have gx := inR_getD hr j
      have HT : Hid (lval (xs.take (j + 1)) = lval (xs.take j) + 16777216 ^ j * xs.getD j 0) := lval_take_succ xs j
      have hxz : xs.length ≤ j → xs.getD j 0 = 0 := fun h => by rw [List.getD_eq_getElem?_getD, List.getElem?_eq_none (by omega)]; rfl
      obtain ⟨xk, hxk⟩ : ∃ xk, xs.getD j 0 = xk := ⟨_, rfl⟩
      rw [hxk] at kl gx HT hxz
      obtain ⟨m0, m1⟩ := mul_bd gx.1 gx.2 hf0 hf1
      have HZ : Hid (xs.length ≤ j → xk = 0) := hxz
      have hlo : (List.replicate (k / 24) (0 : Int) ++ ys).length ≤ 1099511627776 := by rw [List.length_append, List.length_replicate]; omega
      clear hxk hxz gx
      go_wp2_with fail
      refine kl.mono ?_
      rintro e wr ⟨rfl, rfl⟩
      go_wp2_with (at_builtin; refine wpI_app w wr rfl (.tmp 29) (.tmp 32) rfl w.heap.size _ _ _ rfl hown hbw rfl hlo hsz ?_; intro v1 w2 o1 b1)
      go_roundw
      case rel =>
        refine ⟨j + 1, (xk * f + cc) / 16777216, ys ++ [(xk * f + cc) % 16777216], by omega, by go_num, rfl, by omega, by omega, fun h => ?_, by rw [List.length_append, List.length_singleton, hol], inR_append.2 ⟨hoR, inR_cons.2 ⟨by omega, inR_nil⟩⟩, ?_, by rw [← List.append_assoc]; exact o1, b1⟩
        · have z1 := HZ.out (by omega)
          rw [z1, Int.zero_mul]
          omega
        · show _ = _
          rw [HT.out]
          exact up_step j cc _ f _ xk ys hol HL.out rfl
      case measure => simp [intOf]; omega
    · have hlt' : ¬ (j : Int) ≤ (xs.length : Int) := by omega
      have hcz := cz (by omega)
      have hoR' : inR (List.replicate (k / 24) 0 ++ ys) := inR_append.2 ⟨fun x hx => by rw [List.eq_of_mem_replicate hx]; omega, hoR⟩
      have hnum : num (List.replicate (k / 24) 0 ++ ys) = num xs * 2 ^ k := by
        have h1 := num_val hoR'
        have h2 := num_val hr
        have h3 := HL.out
        rw [hcz, Int.mul_zero, Int.add_zero, List.take_of_length_le (by omega)] at h3
        rw [lval_append, lval_zeros, List.length_replicate, Int.zero_add, h3, ← Int.mul_assoc, HPW.out, ← h2] at h1
        have e : ((num xs * 2 ^ k : Nat) : Int) = 2 ^ k * (num xs : Int) := by simp [Int.mul_comm]
        omega
      have hrow := hown.row
      have hlo : (List.replicate (k / 24) (0 : Int) ++ ys).length ≤ 1073741824 := by rw [List.length_append, List.length_replicate]; omega
      have kt := sTrim _ _ wr hrow hoR' hlo
      rw [hnum] at kt
      clear HL hcz hnum hoR' hrow
      go_wp2_with fail
      refine kt.mono ?_
      rintro e w2 ⟨v1, rfl, o1, b1⟩
      go_wp2
      go_ret
      exact ⟨_, rfl, ownsI_mono o1 hsz, hbw.trans (b1.mono hsz)⟩

end Go.Proofs.Ytlpfjpbnedankaa
