/- The specification's NatShr, by its contract. -/
import Derived.Test.YthgjpccimiddfaaSDown
namespace Go.Proofs.Ythgjpccimiddfaa
open Go.RowKit

set_option maxHeartbeats 1600000 in
theorem sNatShr (va : Value) (xs : List Int) (k : Int) (w : World) (ha : rowI w va xs) (hlx : xs.length ≤ 1048576) :
    Calls Try.prog 26 #[va, .int .i64 k] w (ansI w (shrR xs k)) := by
  have ka := sNatOk va xs w ha (by omega)
  have ho := made_own w
  cases hox : okB xs
  · have HE : Hid (shrR xs k = ([], false)) := by show _ = _; rw [shrR, if_neg (by rw [hox]; simp)]
    rw [hox] at ka
    clear hox ha
    go_enter Try.func26, Try.ntmps26
    go_wp2_with (go_at_call 36; refine ka.mono ?_; rintro e w ⟨rfl, rfl⟩)
    go_ret2
    exact ⟨_, by rw [HE.out]; rfl, by rw [HE.out]; exact ho, (Below.refl _ _).alloc (Nat.le_refl _) _⟩
  · rw [hox] at ka
    by_cases hk : 0 ≤ k ∧ k ≤ 1152
    · have hok1 := (okB_iff xs).1 hox
      obtain ⟨n, rfl⟩ : ∃ n : Nat, k = n := ⟨k.toNat, by omega⟩
      have hn : n ≤ 1152 := by omega
      have kb := in_yes n 0 1152 w (by omega) (by omega)
      have HE : Hid (shrR xs n = (limbs (num xs / 2 ^ n), true)) := by
        show _ = _
        rw [shrR, if_pos ⟨hox, hk.1, hk.2⟩, Int.toNat_natCast]
      have kc := sDown va xs n w ha hok1.2.1 hlx (by omega)
      clear hox ha hok1 ho hk
      go_enter Try.func26, Try.ntmps26
      go_wp2_with fail
      refine ka.mono ?_
      rintro e w ⟨rfl, rfl⟩
      go_wp2_with fail
      refine kb.mono ?_
      rintro e w ⟨rfl, rfl⟩
      go_wp2_with fail
      refine kc.mono ?_
      rintro e w1 ⟨v1, rfl, o1, b1⟩
      go_wp2
      go_ret2
      exact ⟨_, by rw [HE.out]; rfl, by rw [HE.out]; exact o1, b1⟩
    · have HE : Hid (shrR xs k = ([], false)) := by show _ = _; rw [shrR, if_neg (fun h => hk h.2)]
      have kb := in_no k 0 1152 w hk
      clear hox ha hk
      go_enter Try.func26, Try.ntmps26
      go_wp2_with fail
      refine ka.mono ?_
      rintro e w ⟨rfl, rfl⟩
      go_wp2_with fail
      refine kb.mono ?_
      rintro e w ⟨rfl, rfl⟩
      go_wp2
      go_ret2
      exact ⟨_, by rw [HE.out]; rfl, by rw [HE.out]; exact ho, (Below.refl _ _).alloc (Nat.le_refl _) _⟩

end Go.Proofs.Ythgjpccimiddfaa
