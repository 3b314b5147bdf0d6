/- The specification's NatSub, by its contract. -/
import Derived.Test.YthgjpccimiddfaaSCmp
import Derived.Test.YthgjpccimiddfaaSLess
namespace Go.Proofs.Ythgjpccimiddfaa
open Go.RowKit

set_option maxHeartbeats 1600000 in
theorem sNatSub (va vb : Value) (xs ys : List Int) (w : World) (ha : rowI w va xs) (hb : rowI w vb ys) (hlx : xs.length ≤ 1048576) (hly : ys.length ≤ 1048576) :
    Calls Try.prog 20 #[va, vb] w (ansI w (subR xs ys)) := by
  have ka := sNatOk va xs w ha (by omega)
  have kb := sNatOk vb ys w hb (by omega)
  have ho := made_own w
  cases hox : okB xs
  · have HE : Hid (subR xs ys = ([], false)) := by show _ = _; rw [subR, if_neg (by rw [hox]; simp)]
    rw [hox] at ka
    clear hox kb ha hb
    go_enter Try.func20, Try.ntmps20
    go_wp2_with (go_at_call 36; refine ka.mono ?_; rintro e w ⟨rfl, rfl⟩)
    go_ret2
    exact ⟨_, by rw [HE.out]; rfl, by rw [HE.out]; exact ho, (Below.refl _ _).alloc (Nat.le_refl _) _⟩
  · rw [hox] at ka
    cases hoy : okB ys
    · have HE : Hid (subR xs ys = ([], false)) := by show _ = _; rw [subR, if_neg (by rw [hoy]; simp)]
      rw [hoy] at kb
      clear hox hoy ha hb
      go_enter Try.func20, Try.ntmps20
      go_wp2_with fail
      refine ka.mono ?_
      rintro e w ⟨rfl, rfl⟩
      go_wp2_with fail
      refine kb.mono ?_
      rintro e w ⟨rfl, rfl⟩
      go_wp2
      go_ret2
      exact ⟨_, by rw [HE.out]; rfl, by rw [HE.out]; exact ho, (Below.refl _ _).alloc (Nat.le_refl _) _⟩
    · have hok1 := (okB_iff xs).1 hox
      have hok2 := (okB_iff ys).1 hoy
      have kc := sCmp va vb xs ys w ha hb hok1.2.1 hok2.2.1 hlx hly
      rw [hoy] at kb
      by_cases hge : num ys ≤ num xs
      · have HE : Hid (subR xs ys = (limbs (num xs - num ys), true)) := by show _ = _; rw [subR, if_pos ⟨hox, hoy, hge⟩]
        have hyl : ys.length ≤ xs.length := by
          have e1 := okL_eq hok1
          have e2 := okL_eq hok2
          rw [e1, e2]
          exact limbs_len_mono hge
        have kd := sLess va vb xs ys w ha hb hok1.2.1 hok2.2.1 hlx hyl hge
        have hci : ¬ (cmpI (num xs) (num ys) < 0) := by
          unfold cmpI
          rw [if_neg (by omega)]
          split <;> omega
        obtain ⟨ci, hci'⟩ : ∃ ci, cmpI (num xs) (num ys) = ci := ⟨_, rfl⟩
        rw [hci'] at hci kc
        clear hox hoy ha hb hok1 hok2 ho hci' hyl hge
        go_enter Try.func20, Try.ntmps20
        go_wp2_with fail
        refine ka.mono ?_
        rintro e w ⟨rfl, rfl⟩
        go_wp2_with fail
        refine kb.mono ?_
        rintro e w ⟨rfl, rfl⟩
        go_wp2_with fail
        refine kc.mono ?_
        rintro e w ⟨rfl, rfl⟩
        go_wp2_with fail
        refine kd.mono ?_
        rintro e w1 ⟨v1, rfl, o1, b1⟩
        go_wp2
        go_ret2
        exact ⟨_, by rw [HE.out]; rfl, by rw [HE.out]; exact o1, b1⟩
      · have HE : Hid (subR xs ys = ([], false)) := by show _ = _; rw [subR, if_neg (fun h => hge h.2.2)]
        have hci : cmpI (num xs) (num ys) < 0 := by
          unfold cmpI
          rw [if_pos (by omega)]; omega
        obtain ⟨ci, hci'⟩ : ∃ ci, cmpI (num xs) (num ys) = ci := ⟨_, rfl⟩
        rw [hci'] at hci kc
        clear hox hoy ha hb hok1 hok2 hci' hge
        go_enter Try.func20, Try.ntmps20
        go_wp2_with fail
        refine ka.mono ?_
        rintro e w ⟨rfl, rfl⟩
        go_wp2_with fail
        refine kb.mono ?_
        rintro e w ⟨rfl, rfl⟩
        go_wp2_with fail
        refine kc.mono ?_
        rintro e w ⟨rfl, rfl⟩
        go_wp2
        go_ret2
        exact ⟨_, by rw [HE.out]; rfl, by rw [HE.out]; exact ho, (Below.refl _ _).alloc (Nat.le_refl _) _⟩

end Go.Proofs.Ythgjpccimiddfaa
