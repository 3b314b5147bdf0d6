/- The specification's l3Root, by its contract. -/
import Derived.Test.YtddakeohamefiaaBase
import Derived.Test.YtddakeohamefiaaOne
import Derived.Test.YtddakeohamefiaaSB
namespace Go.Proofs.Ytddakeohamefiaa
open Go.RowKit

set_option maxHeartbeats 3200000 in
/-- l3Root: the root, rounded down. -/
theorem sRoot (va : Value) (xs : List Int) (w : World) (ha : rowI w va xs) (hx : inR xs ∧ noZ xs) (hlx : xs.length ≤ 400000) :
    Calls Try.prog 78 #[va] w fun e w' => ∃ v, e = .returned v ∧ ownsI w' w.heap.size v (limbs (isqrt (num xs))) ∧ Below w.heap.size w w' := by
  obtain ⟨a1, cap1, rfl, -⟩ := id ha
  have ho := made_own w
  have hb0 : Below w.heap.size w (w.alloc (.cells #[] 3)) := (Below.refl _ _).alloc (Nat.le_refl _) _
  have hn0 := sBits _ xs (w.alloc (.cells #[] 3)) (ha.below hb0 (Nat.le_refl _)) hx (by omega)
  have hbl := nbits_len hx.1
  have hNx := lt_nbits (num xs)
  have HY : Hid (xs = limbs (num xs)) := eq_limbs hx
  obtain ⟨n, hn⟩ : ∃ n, num xs = n := ⟨_, rfl⟩
  rw [hn] at hn0 hbl hNx HY
  obtain ⟨N, hN⟩ : ∃ N, nbits n = N := ⟨_, rfl⟩
  rw [hN] at hn0 hbl hNx
  have HNX : Hid (n < 2 ^ N) := hNx
  have HNN : Hid (num xs = n) := hn
  have HLEN : Hid ((limbs n).length = xs.length) := by show _ = _; rw [← HY.out]
  clear hN hNx hn
  go_enter Try.func78, Try.ntmps78
  go_wp2_with fail
  refine hn0.mono ?_
  rintro e w2 ⟨rfl, rfl⟩
  clear hn0
  go_wp2
  go_loopw [3, 4] (fun v i wr => ∃ (m r : Nat), m ≤ (N + 1) / 2 + 1 ∧ i = .int .i64 ((m : Int) - 1) ∧ Hid (r * r ≤ n ∧ n < (r + 2 ^ m) * (r + 2 ^ m)) ∧ ownsI wr w.heap.size v (limbs r) ∧ Below w.heap.size w wr) (fun _ i _ => (intOf i + 1).toNat)
  case atStart =>
    refine ⟨(N + 1) / 2 + 1, 0, Nat.le_refl _, by go_num, ⟨Nat.zero_le _, ?_⟩, by rw [limbs_zero]; exact ho, hb0⟩
    rw [Nat.zero_add, ← Nat.pow_add]
    exact Nat.lt_of_lt_of_le HNX.out (Nat.pow_le_pow_right (by omega) (by omega))
  case round =>
    obtain ⟨m, r, hm, rfl, HR, hrest, hbw⟩ := hrel
    have hsz := hbw.size
    cases m with
    | zero =>
      have hr := isqrt_unique HR.out.1 HR.out.2
      rw [hr] at hrest
      have HE : Hid (n = num xs) := HNN.out.symm
      have hm1 : ((0 : Nat) : Int) - 1 = -1 := rfl
      rw [hm1]
      clear hr hm1 HR
      go_wp2
      go_ret
      exact ⟨_, rfl, by rw [← HE.out]; exact hrest, hbw⟩
    | succ k =>
      have hk1 : ((k + 1 : Nat) : Int) - 1 = (k : Int) := by omega
      rw [hk1]
      clear hk1
      have HS : Hid (if (r + 2 ^ k) * (r + 2 ^ k) ≤ n then (r + 2 ^ k) * (r + 2 ^ k) ≤ n ∧ n < (r + 2 ^ k + 2 ^ k) * (r + 2 ^ k + 2 ^ k) else r * r ≤ n ∧ n < (r + 2 ^ k) * (r + 2 ^ k)) := root_step HR.out.1 (by rw [show 2 * 2 ^ k = 2 ^ (k + 1) by rw [Nat.pow_succ]; omega]; exact HR.out.2)
      have hrn : r ≤ n := by
        have := HR.out.1
        by_cases h : r = 0
        · omega
        · have := Nat.le_mul_of_pos_right r (Nat.pos_of_ne_zero h); omega
      have hl1 := limbs_len_mono hrn
      rw [HLEN.out] at hl1
      have hl2 := pow2_limbs k
      have hl3 := add_limbs r (2 ^ k) (xs.length + 2) (by omega) (by omega)
      have hl4 := mul_limbs (r + 2 ^ k) (r + 2 ^ k)
      have ku := sUp _ [1] k (wr.alloc (.cells #[.int .i64 1] 3)) (one_row wr) inR_one (by simp) (by omega)
      rw [num_one, Nat.one_mul] at ku
      have HRR : Hid (r ≤ n) := hrn
      clear hrn
      have hrow0 := hrest.row
      go_wp2_with fail
      refine ku.mono ?_
      rintro e w3 ⟨v3, rfl, o3, b3⟩
      have B3 : Below wr.heap.size wr w3 := ((Below.refl wr.heap.size wr).alloc (Nat.le_refl _) _).trans (b3.mono (by simp))
      have o3' : ownsI w3 wr.heap.size v3 (limbs (2 ^ k)) := ownsI_mono o3 (by simp)
      clear ku b3 o3
      have kp := sPlus _ _ (limbs r) (limbs (2 ^ k)) w3 (hrow0.below B3 (Nat.le_refl _)) o3'.row (limbs_inR _) (limbs_inR _) (by omega) (by omega)
      rw [num_limbs, num_limbs] at kp
      go_wp2_with fail
      refine kp.mono ?_
      rintro e w4 ⟨v4, rfl, o4, b4⟩
      have B4 : Below wr.heap.size wr w4 := B3.trans (b4.mono B3.size)
      have o4' : ownsI w4 w.heap.size v4 (limbs (r + 2 ^ k)) := ownsI_mono o4 (Nat.le_trans hsz B3.size)
      clear kp b4 o4 o3' B3
      have kt := sTimes _ _ (limbs (r + 2 ^ k)) (limbs (r + 2 ^ k)) w4 o4'.row o4'.row (limbs_inR _) (limbs_inR _) (by omega) (by omega)
      rw [num_limbs] at kt
      go_wp2_with fail
      refine kt.mono ?_
      rintro e w5 ⟨v5, rfl, o5, b5⟩
      have B5 : Below wr.heap.size wr w5 := B4.trans (b5.mono B4.size)
      have o4'' := o4'.below b5 (Nat.le_refl _)
      have hr5 := hrest.below B5 (Nat.le_refl _)
      have kc := sCmp _ _ (limbs ((r + 2 ^ k) * (r + 2 ^ k))) xs w5 o5.row (ha.below (hbw.trans (B5.mono hsz)) (Nat.le_refl _)) (limbs_inR _) hx.1 (by omega) (by omega)
      rw [num_limbs, HNN.out] at kc
      clear kt o4' B4 b5 o5 hrest
      have hBB := hbw.trans (B5.mono hsz)
      by_cases hge : (r + 2 ^ k) * (r + 2 ^ k) ≤ n
      · have hc := cmpI_le hge
        have hcb := cmpI_bd ((r + 2 ^ k) * (r + 2 ^ k)) n
        obtain ⟨c, hcc⟩ : ∃ c, cmpI ((r + 2 ^ k) * (r + 2 ^ k)) n = c := ⟨_, rfl⟩
        rw [hcc] at kc hc hcb
        have HS2 := HS.out
        rw [if_pos hge] at HS2
        have HS3 : Hid ((r + 2 ^ k) * (r + 2 ^ k) ≤ n ∧ n < (r + 2 ^ k + 2 ^ k) * (r + 2 ^ k + 2 ^ k)) := HS2
        clear hcc hge HS2 HS
        go_wp2_with fail
        refine kc.mono ?_
        rintro e w5 ⟨rfl, rfl⟩
        go_wp2
        go_roundw
        case rel => exact ⟨k, r + 2 ^ k, by omega, by go_num, HS3, o4'', hBB⟩
        case measure => simp [intOf] <;> omega
      · have hc := cmpI_gt (Nat.lt_of_not_le hge)
        have hcb := cmpI_bd ((r + 2 ^ k) * (r + 2 ^ k)) n
        obtain ⟨c, hcc⟩ : ∃ c, cmpI ((r + 2 ^ k) * (r + 2 ^ k)) n = c := ⟨_, rfl⟩
        rw [hcc] at kc hc hcb
        have HS2 := HS.out
        rw [if_neg hge] at HS2
        have HS3 : Hid (r * r ≤ n ∧ n < (r + 2 ^ k) * (r + 2 ^ k)) := HS2
        clear hcc hge HS2 HS
        go_wp2_with fail
        refine kc.mono ?_
        rintro e w5 ⟨rfl, rfl⟩
        go_wp2
        go_roundw
        case rel => exact ⟨k, r, by omega, by go_num, HS3, hr5, hBB⟩
        case measure => simp [intOf] <;> omega

end Go.Proofs.Ytddakeohamefiaa
