/- The program's NatPow, by its contract. -/
import Derived.Test.YtnojigofojjopaaDoorGPow
import Derived.Test.YtnojigofojjopaaDoorGList
namespace Go.Proofs.YtnojigofojjopaaDoor
open Go.RowKit

set_option maxHeartbeats 3200000 in
theorem iNatPow (n k : Int) (w : World) : Calls Tryd.prog 21 #[.int .i64 n, .int .i64 k] w (ansI w (powR n k)) := by
  by_cases h1 : n < 0
  · have HR : Hid (powR n k = ([], false)) := by show _ = _; unfold powR; rw [if_neg (by omega)]
    have q1 : decide (n < 0) = true := decide_eq_true (by omega)
    go_enter Tryd.func21, Tryd.ntmps21
    go_wp2
    go_ret2
    exact ⟨_, by rw [HR.out]; rfl, by rw [HR.out]; exact nil_own _ _, Below.refl _ _⟩
  by_cases h2 : 16777215 < n
  · have HR : Hid (powR n k = ([], false)) := by show _ = _; unfold powR; rw [if_neg (by omega)]
    have q1 : decide (n < 0) = false := decide_eq_false (by omega)
    have q2 : decide ((16777215 : Int) < n) = true := decide_eq_true (by omega)
    go_enter Tryd.func21, Tryd.ntmps21
    go_wp2
    go_ret2
    exact ⟨_, by rw [HR.out]; rfl, by rw [HR.out]; exact nil_own _ _, Below.refl _ _⟩
  by_cases h3 : k < 0
  · have HR : Hid (powR n k = ([], false)) := by show _ = _; unfold powR; rw [if_neg (by omega)]
    have q1 : decide (n < 0) = false := decide_eq_false (by omega)
    have q2 : decide ((16777215 : Int) < n) = false := decide_eq_false (by omega)
    have q3 : decide (k < 0) = true := decide_eq_true (by omega)
    go_enter Tryd.func21, Tryd.ntmps21
    go_wp2
    go_ret2
    exact ⟨_, by rw [HR.out]; rfl, by rw [HR.out]; exact nil_own _ _, Below.refl _ _⟩
  by_cases h4 : 1000 < k
  · have HR : Hid (powR n k = ([], false)) := by show _ = _; unfold powR; rw [if_neg (by omega)]
    have q1 : decide (n < 0) = false := decide_eq_false (by omega)
    have q2 : decide ((16777215 : Int) < n) = false := decide_eq_false (by omega)
    have q3 : decide (k < 0) = false := decide_eq_false (by omega)
    have q4 : decide ((1000 : Int) < k) = true := decide_eq_true (by omega)
    go_enter Tryd.func21, Tryd.ntmps21
    go_wp2
    go_ret2
    exact ⟨_, by rw [HR.out]; rfl, by rw [HR.out]; exact nil_own _ _, Below.refl _ _⟩
  obtain ⟨m, rfl⟩ : ∃ m : Nat, n = m := ⟨n.toNat, by omega⟩
  obtain ⟨j, rfl⟩ : ∃ j : Nat, k = j := ⟨k.toNat, by omega⟩
  have HE : Hid (powR m j = fitR (m ^ j)) := by show _ = _; rw [powR, if_pos ⟨by omega, by omega, by omega, by omega⟩, Int.toNat_natCast, Int.toNat_natCast]
  have hlm : (limbs m).length ≤ 1 := limbs_len_le m 1 (by omega)
  have hj : j ≤ 1000 := by omega
  have hm : m ≤ 16777215 := by omega
  have q1 : decide ((m : Int) < 0) = false := decide_eq_false h1
  have q2 : decide ((16777215 : Int) < (m : Int)) = false := decide_eq_false h2
  have q3 : decide ((j : Int) < 0) = false := decide_eq_false h3
  have q4 : decide ((1000 : Int) < (j : Int)) = false := decide_eq_false h4
  have kP := gPow m j w hm hj
  clear h1 h2 h3 h4
  go_enter Tryd.func21, Tryd.ntmps21
  go_wp2_with fail
  refine kP.mono ?_
  rintro e w1 ⟨N, rfl, hN, hor, b1⟩
  have HE2 : Hid (powR m j = fitR N) := by
    show _ = _
    rw [HE.out]
    rcases hor with e | ⟨q1, q2⟩
    · rw [e]
    · unfold fitR
      rw [if_neg (by omega), if_neg (by omega)]
  clear hor
  have hbs := b1.size
  go_wp2_with fail
  refine (gList N w1 (by omega)).mono ?_
  rintro e w5 ⟨v5, rfl, o5, b5⟩
  go_wp2
  go_ret2
  exact ⟨_, by rw [HE2.out]; rfl, by rw [HE2.out]; exact ownsI_mono o5 hbs, b1.trans (b5.mono hbs)⟩

end Go.Proofs.YtnojigofojjopaaDoor
