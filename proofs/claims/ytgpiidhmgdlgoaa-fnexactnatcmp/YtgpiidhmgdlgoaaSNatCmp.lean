/- The specification's NatCmp, by its contract. -/
import Derived.Test.YtgpiidhmgdlgoaaSCmp
namespace Go.Proofs.Ytgpiidhmgdlgoaa
open Go.RowKit

set_option maxHeartbeats 1600000 in
theorem sNatCmp (va vb : Value) (xs ys : List Int) (w : World) (ha : rowI w va xs) (hb : rowI w vb ys) (hlx : xs.length ≤ 1048576) (hly : ys.length ≤ 1048576) :
    Calls Try.prog 23 #[va, vb] w fun e w' => e = .returned (.int .i64 (cmpR xs ys)) ∧ w' = w := by
  have ka := sNatOk va xs w ha (by omega)
  have kb := sNatOk vb ys w hb (by omega)
  cases hox : okB xs
  · have HE : Hid (cmpR xs ys = -2) := by show _ = _; rw [cmpR, if_neg (by rw [hox]; simp)]
    rw [hox] at ka
    clear hox kb ha hb
    go_enter Try.func23, Try.ntmps23
    go_wp2_with (go_at_call 45; refine ka.mono ?_; rintro e w ⟨rfl, rfl⟩)
    go_ret
    exact ⟨by rw [HE.out]; rfl, rfl⟩
  · rw [hox] at ka
    cases hoy : okB ys
    · have HE : Hid (cmpR xs ys = -2) := by show _ = _; rw [cmpR, if_neg (by rw [hoy]; simp)]
      rw [hoy] at kb
      clear hox hoy ha hb
      go_enter Try.func23, Try.ntmps23
      go_wp2_with fail
      refine ka.mono ?_
      rintro e w ⟨rfl, rfl⟩
      go_wp2_with fail
      refine kb.mono ?_
      rintro e w ⟨rfl, rfl⟩
      go_wp2
      go_ret
      exact ⟨by rw [HE.out]; rfl, rfl⟩
    · have HE : Hid (cmpR xs ys = cmpI (num xs) (num ys)) := by show _ = _; rw [cmpR, if_pos ⟨hox, hoy⟩]
      have kc := sCmp va vb xs ys w ha hb ((okB_iff xs).1 hox).2.1 ((okB_iff ys).1 hoy).2.1 hlx hly
      rw [hoy] at kb
      clear hox hoy ha hb
      go_enter Try.func23, Try.ntmps23
      go_wp2_with fail
      refine ka.mono ?_
      rintro e w ⟨rfl, rfl⟩
      go_wp2_with fail
      refine kb.mono ?_
      rintro e w ⟨rfl, rfl⟩
      go_wp2_with fail
      refine kc.mono ?_
      rintro e w ⟨rfl, rfl⟩
      go_wp2
      go_ret
      exact ⟨by rw [HE.out]; rfl, rfl⟩

end Go.Proofs.Ytgpiidhmgdlgoaa
