/- The specification's WholeOk, by its contract. -/
import Derived.Test.YtlpfjpbnedankaaBase
namespace Go.Proofs.Ytlpfjpbnedankaa
open Go.RowKit

set_option maxHeartbeats 1600000 in
theorem sWholeOk (va : Value) (a : Wh) (w : World) (ha : rowW w va a) (hl : a.2.length ≤ 1048576) :
    Calls Try.prog 81 #[va] w fun e w' => e = .returned (.bool (okW a)) ∧ Below w.heap.size w w' := by
  obtain ⟨s, rfl, hs⟩ := ha
  obtain ⟨n, xs⟩ := a
  have ka := fun W (h : Below w.heap.size w W) => sNatOk s xs W (hs.below h (Nat.le_refl _)) (by show xs.length ≤ _; have : xs.length ≤ 1048576 := hl; omega)
  obtain ⟨ad, cap, rfl, -⟩ := id hs
  have hw : okW (n, xs) = (okB xs && (!n || decide (0 < xs.length))) := rfl
  have HW : Hid (okW (n, xs) = (okB xs && (!n || decide (0 < xs.length)))) := hw
  obtain ⟨b, hb⟩ : ∃ b, okB xs = b := ⟨_, rfl⟩
  rw [hb] at HW ka
  have hp : decide ((0 : Int) < (xs.length : Int)) = decide (0 < xs.length) := by simp
  clear hw hb hs
  cases b <;> cases n
  all_goals
    go_enter Try.func81, Try.ntmps81
    go_wp2_with fail
    refine (ka _ ((Below.refl w.heap.size w).alloc (Nat.le_refl _) _)).mono ?_
    rintro e w1 ⟨rfl, rfl⟩
    go_wp2
    go_ret
    exact ⟨by rw [HW.out]; simp, (Below.refl w.heap.size w).alloc (Nat.le_refl _) _⟩

end Go.Proofs.Ytlpfjpbnedankaa
