/- The specification's l2Cmp, by its contract. -/
import Derived.Test.YtlpfjpbnedankaaSLimb
import Derived.Test.YtlpfjpbnedankaaSMax
namespace Go.Proofs.Ytlpfjpbnedankaa
open Go.RowKit

set_option maxHeartbeats 1600000 in
/-- l2Cmp. -/
theorem sCmp (va vb : Value) (xs ys : List Int) (w : World) (ha : rowI w va xs) (hb : rowI w vb ys) (hxr : inR xs) (hyr : inR ys) (hlx : xs.length ≤ 1048576) (hly : ys.length ≤ 1048576) :
    Calls Try.prog 87 #[va, vb] w fun e w' => e = .returned (.int .i64 (cmpI (num xs) (num ys))) ∧ w' = w := by
  obtain ⟨a1, cap1, rfl, -⟩ := id ha
  obtain ⟨a2, cap2, rfl, -⟩ := id hb
  go_enter Try.func87, Try.ntmps87
  go_wp2_with (go_at_call 108; refine (sMax xs.length ys.length w).mono ?_; rintro e w ⟨rfl, rfl⟩)
  go_loop [5, 6, 7] (fun i p q => ∃ k : Nat, k ≤ max xs.length ys.length ∧ i = .int .i64 ((k : Int) - 1) ∧ lval (xs.drop k) = lval (ys.drop k)) (fun i _ _ => (intOf i + 1).toNat)
  case atStart => exact ⟨max xs.length ys.length, Nat.le_refl _, by go_num, by rw [List.drop_of_length_le (by omega), List.drop_of_length_le (by omega)]⟩
  case round =>
    obtain ⟨k, hk, rfl, hd⟩ := hrel
    have HD : Hid (lval (xs.drop k) = lval (ys.drop k)) := hd
    clear hd
    by_cases hk0 : k = 0
    · subst hk0
      have HE : Hid (cmpI (num xs) (num ys) = 0) := by
        have h1 := num_val hxr
        have h2 := num_val hyr
        have h3 := HD.out
        rw [List.drop_zero, List.drop_zero] at h3
        show _ = _
        rw [cmpI, if_neg (by omega), if_neg (by omega)]
      go_wp2
      go_ret
      exact ⟨by rw [HE.out]; rfl, rfl⟩
    · obtain ⟨m, rfl⟩ : ∃ m, k = m + 1 := ⟨k - 1, by omega⟩
      have hm : ((m + 1 : Nat) : Int) - 1 = (m : Int) := by omega
      have dx := lval_drop xs m
      have dy := lval_drop ys m
      have cx := sLimb _ xs m w ha
      have cy := sLimb _ ys m w hb
      have gx := inR_getD hxr m
      have gy := inR_getD hyr m
      obtain ⟨xk, hxk⟩ : ∃ xk, xs.getD m 0 = xk := ⟨_, rfl⟩
      obtain ⟨yk, hyk⟩ : ∃ yk, ys.getD m 0 = yk := ⟨_, rfl⟩
      rw [hxk] at gx dx cx
      rw [hyk] at gy dy cy
      have hdd := HD.out
      rw [hm]
      clear hxk hyk HD hm
      by_cases h1 : xk < yk
      · have HE : Hid (cmpI (num xs) (num ys) = -1) := by
          show _ = _
          rw [cmpI, if_pos (cmp_lt hxr hyr m (by omega))]
        clear dx dy hdd gx gy
        go_wp2_with fail
        refine cx.mono ?_
        rintro e w ⟨rfl, rfl⟩
        go_wp2_with fail
        refine cy.mono ?_
        rintro e w ⟨rfl, rfl⟩
        go_wp2
        go_ret
        exact ⟨by rw [HE.out]; rfl, rfl⟩
      · by_cases h2 : yk < xk
        · have HE : Hid (cmpI (num xs) (num ys) = 1) := by
            have h3 := cmp_lt hyr hxr m (by omega)
            show _ = _
            rw [cmpI, if_neg (by omega), if_pos h3]
          clear dx dy hdd gx gy
          go_wp2_with fail
          refine cx.mono ?_
          rintro e w ⟨rfl, rfl⟩
          go_wp2_with fail
          refine cy.mono ?_
          rintro e w ⟨rfl, rfl⟩
          go_wp2
          go_ret
          exact ⟨by rw [HE.out]; rfl, rfl⟩
        · have hnext : Hid (lval (xs.drop m) = lval (ys.drop m)) := by show _ = _; omega
          clear dx dy hdd gx gy
          go_wp2_with fail
          refine cx.mono ?_
          rintro e w ⟨rfl, rfl⟩
          go_wp2_with fail
          refine cy.mono ?_
          rintro e w ⟨rfl, rfl⟩
          go_wp2
          go_round
          case rel => exact ⟨m, by omega, rfl, hnext.out⟩
          case measure => simp [intOf]

end Go.Proofs.Ytlpfjpbnedankaa
