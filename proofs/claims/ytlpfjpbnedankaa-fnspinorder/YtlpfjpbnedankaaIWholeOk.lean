/- The program's WholeOk, by its contract. -/
import Derived.Test.YtlpfjpbnedankaaBase
import Derived.Test.YtlpfjpbnedankaaGB
namespace Go.Proofs.Ytlpfjpbnedankaa
open Go.RowKit

set_option maxHeartbeats 1600000 in
theorem iWholeOk (va : Value) (a : Wh) (w : World) (ha : rowW w va a) (hl : a.2.length ≤ 1048576) :
    Calls Try.prog 66 #[va] w fun e w' => e = .returned (.bool (okW a)) ∧ Below w.heap.size w w' := by
  obtain ⟨s, rfl, hs⟩ := ha
  obtain ⟨n, xs⟩ := a
  have ka := fun W (h : Below w.heap.size w W) => iNatOk s xs W (hs.below h (Nat.le_refl _)) (by show xs.length ≤ _; have : xs.length ≤ 1048576 := hl; omega)
  obtain ⟨ad, cap, rfl, -⟩ := id hs
  have hw : okW (n, xs) = (okB xs && (!n || decide (0 < xs.length))) := rfl
  have HW : Hid (okW (n, xs) = (okB xs && (!n || decide (0 < xs.length)))) := hw
  obtain ⟨b, hb⟩ : ∃ b, okB xs = b := ⟨_, rfl⟩
  rw [hb] at HW ka
  clear hw hb hs
  by_cases h0 : xs.length = 0
  · have e0 : ((xs.length : Int) == 0) = true := by rw [h0]; rfl
    have HP : Hid (decide (0 < xs.length) = false) := by show _ = _; rw [h0]; rfl
    clear h0
    cases b <;> cases n
    all_goals
      go_enter Try.func66, Try.ntmps66
      go_wp2_with fail
      refine (ka _ ((Below.refl w.heap.size w).alloc (Nat.le_refl _) _)).mono ?_
      rintro e w1 ⟨rfl, rfl⟩
      go_wp2
      go_ret
      exact ⟨by rw [HW.out, HP.out]; simp, (Below.refl w.heap.size w).alloc (Nat.le_refl _) _⟩
  · have e0 : ((xs.length : Int) == 0) = false := by rw [beq_eq_false_iff_ne]; omega
    have HP : Hid (decide (0 < xs.length) = true) := decide_eq_true (by omega)
    clear h0
    cases b <;> cases n
    all_goals
      go_enter Try.func66, Try.ntmps66
      go_wp2_with fail
      refine (ka _ ((Below.refl w.heap.size w).alloc (Nat.le_refl _) _)).mono ?_
      rintro e w1 ⟨rfl, rfl⟩
      go_wp2
      go_ret
      exact ⟨by rw [HW.out, HP.out]; simp, (Below.refl w.heap.size w).alloc (Nat.le_refl _) _⟩

end Go.Proofs.Ytlpfjpbnedankaa
