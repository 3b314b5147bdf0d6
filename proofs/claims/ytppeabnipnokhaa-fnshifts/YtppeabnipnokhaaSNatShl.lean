/- The specification's NatShl, by its contract. -/
import Derived.Test.YtppeabnipnokhaaSUp
import Derived.Test.YtppeabnipnokhaaSFits
namespace Go.Proofs.Ytppeabnipnokhaa
open Go.RowKit

set_option maxHeartbeats 1600000 in
theorem sNatShl (va : Value) (xs : List Int) (k : Int) (w : World) (ha : rowI w va xs) (hlx : xs.length ≤ 1048576) :
    Calls Try.prog 20 #[va, .int .i64 k] w (ansI w (shlR xs k)) := by
  have ka := sNatOk va xs w ha (by omega)
  have ho := made_own w
  cases hox : okB xs
  · have HE : Hid (shlR xs k = ([], false)) := by show _ = _; rw [shlR, if_neg (by rw [hox]; simp)]
    rw [hox] at ka
    clear hox ha
    go_enter Try.func20, Try.ntmps20
    go_wp2_with (go_at_call 10; refine ka.mono ?_; rintro e w ⟨rfl, rfl⟩)
    go_ret2
    exact ⟨_, by rw [HE.out]; rfl, by rw [HE.out]; exact ho, (Below.refl _ _).alloc (Nat.le_refl _) _⟩
  · rw [hox] at ka
    by_cases hk : 0 ≤ k ∧ k ≤ 1152
    · have hok1 := (okB_iff xs).1 hox
      obtain ⟨n, rfl⟩ : ∃ n : Nat, k = n := ⟨k.toNat, by omega⟩
      have hn : n ≤ 1152 := by omega
      have kb := in_yes n 0 1152 w (by omega) (by omega)
      have HE : Hid (shlR xs n = ((if (limbs (num xs * 2 ^ n)).length ≤ 48 then limbs (num xs * 2 ^ n) else []), decide ((limbs (num xs * 2 ^ n)).length ≤ 48))) := by
        show _ = _
        rw [shlR, if_pos ⟨hox, hk.1, hk.2⟩, fitR, Int.toNat_natCast]
        by_cases h : (limbs (num xs * 2 ^ n)).length ≤ 48
        · rw [if_pos h, if_pos h, decide_eq_true h]
        · rw [if_neg h, if_neg h, decide_eq_false h]
      have kc := sUp va xs n w ha hok1.2.1 hlx (by omega)
      have hll : (limbs (num xs * 2 ^ n)).length ≤ 1073741824 := by
        have h1 := okL_lt hok1
        have h2 : (2 : Nat) ^ n ≤ 16777216 ^ 48 := by
          have := Nat.pow_le_pow_right (by omega : 0 < 2) hn
          exact Nat.le_trans this (by decide +kernel)
        have h3 : num xs * 2 ^ n < 16777216 ^ 48 * 16777216 ^ 48 := 
          Nat.mul_lt_mul_of_lt_of_le h1 h2 (Nat.pow_pos (by omega))
        rw [← Nat.pow_add] at h3
        have := limbs_len_le (num xs * 2 ^ n) 96 h3
        omega
      clear hox ha hok1 ho hk
      go_enter Try.func20, Try.ntmps20
      go_wp2_with fail
      refine ka.mono ?_
      rintro e w ⟨rfl, rfl⟩
      go_wp2_with fail
      refine kb.mono ?_
      rintro e w ⟨rfl, rfl⟩
      go_wp2_with fail
      refine kc.mono ?_
      rintro e w1 ⟨v1, rfl, o1, b1⟩
      go_wp2_with fail
      refine (sFits v1 _ w.heap.size w1 o1 b1.size hll).mono ?_
      rintro e w2 ⟨v2, rfl, o2, b2⟩
      go_wp2
      go_ret2
      exact ⟨_, by rw [HE.out]; rfl, by rw [HE.out]; exact o2, b1.trans (b2.mono b1.size)⟩
    · have HE : Hid (shlR xs k = ([], false)) := by show _ = _; rw [shlR, if_neg (fun h => hk h.2)]
      have kb := in_no k 0 1152 w hk
      clear hox ha hk
      go_enter Try.func20, Try.ntmps20
      go_wp2_with fail
      refine ka.mono ?_
      rintro e w ⟨rfl, rfl⟩
      go_wp2_with fail
      refine kb.mono ?_
      rintro e w ⟨rfl, rfl⟩
      go_wp2
      go_ret2
      exact ⟨_, by rw [HE.out]; rfl, by rw [HE.out]; exact ho, (Below.refl _ _).alloc (Nat.le_refl _) _⟩

end Go.Proofs.Ytppeabnipnokhaa
