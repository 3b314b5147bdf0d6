/- The specification's NatPow, by its contract. -/
import Derived.Test.YtnojigofojjopaaDoorSRoot
import Derived.Test.YtnojigofojjopaaDoorSNatOf
import Derived.Test.YtnojigofojjopaaDoorOne
namespace Go.Proofs.YtnojigofojjopaaDoor
open Go.RowKit

theorem fit_pow {n i k : Nat} (hik : i ≤ k) (h : ¬ (limbs (n ^ i)).length ≤ 48) : ¬ (limbs (n ^ k)).length ≤ 48 := by
  intro hk
  apply h
  by_cases hn : n = 0
  · subst hn
    by_cases hi : i = 0
    · subst hi; rw [Nat.pow_zero]; exact Nat.le_trans (limbs_len_le 1 1 (by decide)) (by omega)
    · rw [Nat.zero_pow (by omega), limbs_zero]; simp
  · exact Nat.le_trans (limbs_len_mono (Nat.pow_le_pow_right (by omega) hik)) hk

set_option maxHeartbeats 1600000 in
theorem sNatPow (n k : Int) (w : World) : Calls Tryd.prog 22 #[.int .i64 n, .int .i64 k] w (ansI w (powR n k)) := by
  have ho := made_own w
  by_cases hn : 0 ≤ n ∧ n ≤ 16777215
  · have ka := in_yes n 0 16777215 w hn.1 hn.2
    by_cases hk : 0 ≤ k ∧ k ≤ 1000
    · have kb := in_yes k 0 1000 w hk.1 hk.2
      obtain ⟨m, rfl⟩ : ∃ m : Nat, n = m := ⟨n.toNat, by omega⟩
      obtain ⟨j, rfl⟩ : ∃ j : Nat, k = j := ⟨k.toNat, by omega⟩
      have HE : Hid (powR m j = fitR (m ^ j)) := by show _ = _; rw [powR, if_pos ⟨hn.1, hn.2, hk.1, hk.2⟩, Int.toNat_natCast, Int.toNat_natCast]
      have kc := sNatOf m w (by omega)
      rw [ofR, if_neg (by omega), Int.toNat_natCast] at kc
      have hlm : (limbs m).length ≤ 1 := limbs_len_le m 1 (by omega)
      have hj := hk.2
      clear hn hk
      go_enter Tryd.func22, Tryd.ntmps22
      go_wp2_with fail
      refine ka.mono ?_
      rintro e w ⟨rfl, rfl⟩
      go_wp2_with fail
      refine kb.mono ?_
      rintro e w ⟨rfl, rfl⟩
      go_wp2_with fail
      refine kc.mono ?_
      rintro e w1 ⟨v1, rfl, o1, b1⟩
      have l1 : limbs 1 = [1] := by rw [limbs_pos 1 (by omega), show 1 / 16777216 = 0 by decide, limbs_zero]; rfl
      have oo := one_own w1
      rw [← l1] at oo
      have r1 := o1.row.below ((Below.refl w1.heap.size w1).alloc (Nat.le_refl _) (.cells #[.int .i64 1] 3)) (Nat.le_refl _)
      have s1 := b1.size
      go_wp2
      go_loopw [8, 9] (fun v i wr => ∃ (q : Nat), q ≤ j ∧ i = .int .i64 q ∧ (limbs (m ^ q)).length ≤ 48 ∧ ownsI wr w.heap.size v (limbs (m ^ q)) ∧ rowI wr v1 (limbs m) ∧ Below w.heap.size w wr) (fun _ i _ => j - (intOf i).toNat)
      case atStart => exact ⟨0, Nat.zero_le _, rfl, by rw [Nat.pow_zero, l1]; decide, ownsI_mono oo s1, r1, b1.alloc s1 _⟩
      case round =>
        obtain ⟨q, hq, rfl, hq48, hown, hrow, hbw⟩ := hrel
        have hsz := hbw.size
        by_cases hlt : q < j
        · have hlt' : (q : Int) < (j : Int) := by omega
          have kt := sTimes u8 v1 (limbs (m ^ q)) (limbs m) wr hown.row hrow (limbs_inR _) (limbs_inR _) (by omega) (by omega)
          rw [num_limbs, num_limbs, ← Nat.pow_succ] at kt
          by_cases hfit : (limbs (m ^ (q + 1))).length ≤ 48
          · have hfit' : ((limbs (m ^ (q + 1))).length : Int) ≤ 48 := by omega
            clear hown
            go_wp2_with fail
            refine kt.mono ?_
            rintro e w3 ⟨v3, rfl, o3, b3⟩
            have hr3 := hrow.below b3 (Nat.le_refl _)
            have B3 := hbw.trans (b3.mono hsz)
            have o3' := ownsI_mono o3 hsz
            obtain ⟨a3, c3, rfl, -⟩ := o3.row
            clear o3 b3 kt hrow
            go_wp2
            go_roundw
            case rel => exact ⟨q + 1, by omega, by go_num, hfit, o3', hr3, B3⟩
            case measure => simp [intOf] <;> omega
          · have hfit' : (48 : Int) < ((limbs (m ^ (q + 1))).length : Int) := by omega
            have HF : Hid (fitR (m ^ j) = ([], false)) := by show _ = _; rw [fitR, if_neg (fit_pow (show q + 1 ≤ j by omega) hfit)]
            clear hown
            go_wp2_with fail
            refine kt.mono ?_
            rintro e w3 ⟨v3, rfl, o3, b3⟩
            have B3 := hbw.trans (b3.mono hsz)
            have s3 := b3.size
            obtain ⟨a3, c3, rfl, -⟩ := o3.row
            have o9 := made_own w3
            clear o3 b3 kt hrow
            go_wp2
            go_ret2
            exact ⟨_, by rw [HE.out, HF.out]; rfl, by rw [HE.out, HF.out]; exact ownsI_mono o9 (Nat.le_trans hsz s3), B3.alloc (Nat.le_trans hsz s3) _⟩
        · have hqj : q = j := by omega
          subst hqj
          have HF : Hid (fitR (m ^ q) = (limbs (m ^ q), true)) := by show _ = _; rw [fitR, if_pos hq48]
          go_wp2
          go_ret2
          exact ⟨_, by rw [HE.out, HF.out]; rfl, by rw [HE.out, HF.out]; exact hown, hbw⟩
    · have HE : Hid (powR n k = ([], false)) := by show _ = _; rw [powR, if_neg (fun h => hk h.2.2)]
      have kb := in_no k 0 1000 w hk
      clear hn hk
      go_enter Tryd.func22, Tryd.ntmps22
      go_wp2_with fail
      refine ka.mono ?_
      rintro e w ⟨rfl, rfl⟩
      go_wp2_with fail
      refine kb.mono ?_
      rintro e w ⟨rfl, rfl⟩
      go_wp2
      go_ret2
      exact ⟨_, by rw [HE.out]; rfl, by rw [HE.out]; exact ho, (Below.refl _ _).alloc (Nat.le_refl _) _⟩
  · have HE : Hid (powR n k = ([], false)) := by show _ = _; rw [powR, if_neg (fun h => hn ⟨h.1, h.2.1⟩)]
    have ka := in_no n 0 16777215 w hn
    clear hn
    go_enter Tryd.func22, Tryd.ntmps22
    go_wp2_with fail
    refine ka.mono ?_
    rintro e w ⟨rfl, rfl⟩
    go_wp2
    go_ret2
    exact ⟨_, by rw [HE.out]; rfl, by rw [HE.out]; exact ho, (Below.refl _ _).alloc (Nat.le_refl _) _⟩

end Go.Proofs.YtnojigofojjopaaDoor
