/- The specification's NatAdd, by its contract. -/
import Derived.Test.YtppeabnipnokhaaSPlus
import Derived.Test.YtppeabnipnokhaaSFits
namespace Go.Proofs.Ytppeabnipnokhaa
open Go.RowKit

set_option maxHeartbeats 1600000 in
theorem sNatAdd (va vb : Value) (xs ys : List Int) (w : World) (ha : rowI w va xs) (hb : rowI w vb ys) (hlx : xs.length ≤ 1048576) (hly : ys.length ≤ 1048576) :
    Calls Try.prog 13 #[va, vb] w (ansI w (addR xs ys)) := by
  have ka := sNatOk va xs w ha (by omega)
  have kb := sNatOk vb ys w hb (by omega)
  have ho := made_own w
  cases hox : okB xs
  · have HE : Hid (addR xs ys = ([], false)) := by show _ = _; rw [addR, if_neg (by rw [hox]; simp)]
    rw [hox] at ka
    clear hox kb ha hb
    go_enter Try.func13, Try.ntmps13
    go_wp2_with (go_at_call 10; refine ka.mono ?_; rintro e w ⟨rfl, rfl⟩)
    go_ret2
    exact ⟨_, by rw [HE.out]; rfl, by rw [HE.out]; exact ho, (Below.refl _ _).alloc (Nat.le_refl _) _⟩
  · rw [hox] at ka
    cases hoy : okB ys
    · have HE : Hid (addR xs ys = ([], false)) := by show _ = _; rw [addR, if_neg (by rw [hoy]; simp)]
      rw [hoy] at kb
      clear hox hoy ha hb
      go_enter Try.func13, Try.ntmps13
      go_wp2_with fail
      refine ka.mono ?_
      rintro e w ⟨rfl, rfl⟩
      go_wp2_with fail
      refine kb.mono ?_
      rintro e w ⟨rfl, rfl⟩
      go_wp2
      go_ret2
      exact ⟨_, by rw [HE.out]; rfl, by rw [HE.out]; exact ho, (Below.refl _ _).alloc (Nat.le_refl _) _⟩
    · have hok1 := (okB_iff xs).1 hox
      have hok2 := (okB_iff ys).1 hoy
      have HE : Hid (addR xs ys = ((if (limbs (num xs + num ys)).length ≤ 48 then limbs (num xs + num ys) else []), decide ((limbs (num xs + num ys)).length ≤ 48))) := by
        show _ = _
        rw [addR, if_pos ⟨hox, hoy⟩, fitR]
        by_cases h : (limbs (num xs + num ys)).length ≤ 48
        · rw [if_pos h, if_pos h, decide_eq_true h]
        · rw [if_neg h, if_neg h, decide_eq_false h]
      have kc := sPlus va vb xs ys w ha hb hok1.2.1 hok2.2.1 hlx hly
      have hll : (limbs (num xs + num ys)).length ≤ 1073741824 := by
        have h1 := lval_lt hok1.2.1
        have h2 := lval_lt hok2.2.1
        have h3 := num_val hok1.2.1
        have h4 := num_val hok2.2.1
        have h5 := pow_le hok1.1
        have h6 := pow_le hok2.1
        have h7 : (16777216 : Int) ^ 49 = 16777216 * 16777216 ^ 48 := by rw [Int.pow_succ]; omega
        have h8 : ((16777216 ^ 49 : Nat) : Int) = (16777216 : Int) ^ 49 := by simp
        have h9 := pow_pos 48
        have := limbs_len_le (num xs + num ys) 49 (by omega)
        omega
      rw [hoy] at kb
      clear hox hoy ha hb hok1 hok2 ho
      go_enter Try.func13, Try.ntmps13
      go_wp2_with fail
      refine ka.mono ?_
      rintro e w ⟨rfl, rfl⟩
      go_wp2_with fail
      refine kb.mono ?_
      rintro e w ⟨rfl, rfl⟩
      go_wp2_with fail
      refine kc.mono ?_
      rintro e w1 ⟨v1, rfl, o1, b1⟩
      go_wp2_with fail
      refine (sFits v1 _ w.heap.size w1 o1 b1.size hll).mono ?_
      rintro e w2 ⟨v2, rfl, o2, b2⟩
      go_wp2
      go_ret2
      exact ⟨_, by rw [HE.out]; rfl, by rw [HE.out]; exact o2, b1.trans (b2.mono b1.size)⟩

end Go.Proofs.Ytppeabnipnokhaa
