/- The specification's NatRoot, by its contract. -/
import Derived.Test.YthgjpccimiddfaaSRoot
namespace Go.Proofs.Ythgjpccimiddfaa
open Go.RowKit

set_option maxHeartbeats 1600000 in
theorem sNatRoot (va : Value) (xs : List Int) (w : World) (ha : rowI w va xs) (hlx : xs.length ≤ 1048576) :
    Calls Try.prog 30 #[va] w (ansI w (rootR xs)) := by
  have ka := sNatOk va xs w ha (by omega)
  have ho := made_own w
  cases hox : okB xs
  · have HE : Hid (rootR xs = ([], false)) := by show _ = _; rw [rootR, if_neg (by rw [hox]; simp)]
    rw [hox] at ka
    clear hox ha
    go_enter Try.func30, Try.ntmps30
    go_wp2_with (go_at_call 36; refine ka.mono ?_; rintro e w ⟨rfl, rfl⟩)
    go_ret2
    exact ⟨_, by rw [HE.out]; rfl, by rw [HE.out]; exact ho, (Below.refl _ _).alloc (Nat.le_refl _) _⟩
  · have hok1 := (okB_iff xs).1 hox
    have HE : Hid (rootR xs = (limbs (isqrt (num xs)), true)) := by show _ = _; rw [rootR, if_pos hox]
    have h48 := hok1.1
    have kd := sRoot va xs w ha hok1.2 (by omega)
    rw [hox] at ka
    clear hox ha hok1 ho h48
    go_enter Try.func30, Try.ntmps30
    go_wp2_with fail
    refine ka.mono ?_
    rintro e w ⟨rfl, rfl⟩
    go_wp2_with fail
    refine kd.mono ?_
    rintro e w1 ⟨v1, rfl, o1, b1⟩
    go_wp2
    go_ret2
    exact ⟨_, by rw [HE.out]; rfl, by rw [HE.out]; exact o1, b1⟩

end Go.Proofs.Ythgjpccimiddfaa
