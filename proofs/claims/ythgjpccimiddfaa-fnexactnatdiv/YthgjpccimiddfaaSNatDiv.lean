/- The specification's NatDiv, by its contract. -/
import Derived.Test.YthgjpccimiddfaaSDiv
namespace Go.Proofs.Ythgjpccimiddfaa
open Go.RowKit

/-- Two lists and a flag are answered, each list in memory of its own. -/
def ansII (w : World) (r : List Int × List Int × Bool) (e : Ending) (w' : World) : Prop := ∃ v0 v1, e = .returned (.tuple #[v0, v1, .bool r.2.2]) ∧ ownsI w' w.heap.size v0 r.1 ∧ ownsI w' w.heap.size v1 r.2.1 ∧ (v0.ownBlock = none ∨ v0.ownBlock ≠ v1.ownBlock) ∧ Below w.heap.size w w'

theorem made_two (w : World) : ∃ v0 v1, v0 = Value.slice (some ⟨w.heap.size, 0, none⟩) 0 0 ∧ v1 = Value.slice (some ⟨w.heap.size + 1, 0, none⟩) 0 0 ∧ ownsI ((w.alloc (.cells #[] 3)).alloc (.cells #[] 3)) w.heap.size v0 [] ∧ ownsI ((w.alloc (.cells #[] 3)).alloc (.cells #[] 3)) w.heap.size v1 [] ∧ (v0.ownBlock = none ∨ v0.ownBlock ≠ v1.ownBlock) ∧ Below w.heap.size w ((w.alloc (.cells #[] 3)).alloc (.cells #[] 3)) := by
  have h0 := made_own w
  have h1 := made_own (w.alloc (.cells #[] 3))
  have e : (w.alloc (.cells #[] 3)).heap.size = w.heap.size + 1 := by simp
  rw [e] at h1
  have b1 : Below w.heap.size w (w.alloc (.cells #[] 3)) := (Below.refl _ _).alloc (Nat.le_refl _) _
  refine ⟨_, _, rfl, rfl, World.ownsRow.alloc h0 _, ownsI_mono h1 (by omega), .inr (by simp [Value.ownBlock]), b1.alloc b1.size _⟩

set_option maxHeartbeats 1600000 in
theorem sNatDiv (va vb : Value) (xs ys : List Int) (w : World) (ha : rowI w va xs) (hb : rowI w vb ys) (hlx : xs.length ≤ 1048576) (hly : ys.length ≤ 1048576) :
    Calls Try.prog 28 #[va, vb] w (ansII w (divR xs ys)) := by
  have ka := sNatOk va xs w ha (by omega)
  have kb := sNatOk vb ys w hb (by omega)
  obtain ⟨v0, v1, e0, e1, o0, o1, d01, bb⟩ := made_two w
  obtain ⟨a2, cap2, rfl, -⟩ := id hb
  cases hox : okB xs
  · have HE : Hid (divR xs ys = ([], [], false)) := by show _ = _; rw [divR, if_neg (by rw [hox]; simp)]
    rw [hox] at ka
    clear hox kb ha hb
    go_enter Try.func28, Try.ntmps28
    go_wp2_with (go_at_call 36; refine ka.mono ?_; rintro e w ⟨rfl, rfl⟩)
    go_ret3
    subst e0 e1
    exact ⟨_, _, by rw [HE.out]; rfl, by rw [HE.out]; exact o0, by rw [HE.out]; exact o1, d01, bb⟩
  · rw [hox] at ka
    cases hoy : okB ys
    · have HE : Hid (divR xs ys = ([], [], false)) := by show _ = _; rw [divR, if_neg (by rw [hoy]; simp)]
      rw [hoy] at kb
      clear hox hoy ha hb
      go_enter Try.func28, Try.ntmps28
      go_wp2_with fail
      refine ka.mono ?_
      rintro e w ⟨rfl, rfl⟩
      go_wp2_with fail
      refine kb.mono ?_
      rintro e w ⟨rfl, rfl⟩
      go_wp2
      go_ret3
      subst e0 e1
      exact ⟨_, _, by rw [HE.out]; rfl, by rw [HE.out]; exact o0, by rw [HE.out]; exact o1, d01, bb⟩
    · rw [hoy] at kb
      by_cases h0 : ys = []
      · have HE : Hid (divR xs ys = ([], [], false)) := by show _ = _; rw [divR, if_neg (fun h => h.2.2 h0)]
        have hl0 : ((ys.length : Int) == 0) = true := by rw [h0]; rfl
        clear hox hoy ha hb h0
        go_enter Try.func28, Try.ntmps28
        go_wp2_with fail
        refine ka.mono ?_
        rintro e w ⟨rfl, rfl⟩
        go_wp2_with fail
        refine kb.mono ?_
        rintro e w ⟨rfl, rfl⟩
        go_wp2
        go_ret3
        subst e0 e1
        exact ⟨_, _, by rw [HE.out]; rfl, by rw [HE.out]; exact o0, by rw [HE.out]; exact o1, d01, bb⟩
      · have hok1 := (okB_iff xs).1 hox
        have hok2 := (okB_iff ys).1 hoy
        have HE : Hid (divR xs ys = (limbs (num xs / num ys), limbs (num xs % num ys), true)) := by show _ = _; rw [divR, if_pos ⟨hox, hoy, h0⟩]
        have hd : 0 < num ys := by
          apply Nat.pos_of_ne_zero
          intro h
          have := eq_limbs hok2.2
          rw [h, limbs_zero] at this
          exact h0 this
        have hl0 : ((ys.length : Int) == 0) = false := by
          rw [beq_eq_false_iff_ne]
          intro h
          exact h0 (List.eq_nil_of_length_eq_zero (by omega))
        have h48 := hok1.1
        have h48' := hok2.1
        have kd := sDiv va _ xs ys w ha hb hok1.2 hok2.2 (by omega) (by omega) hd
        clear hox hoy ha hb h0 hd o0 o1 d01 bb e0 e1 h48 h48' hok1 hok2
        go_enter Try.func28, Try.ntmps28
        go_wp2_with fail
        refine ka.mono ?_
        rintro e w ⟨rfl, rfl⟩
        go_wp2_with fail
        refine kb.mono ?_
        rintro e w ⟨rfl, rfl⟩
        go_wp2_with fail
        refine kd.mono ?_
        rintro e w1 ⟨v1, v2, rfl, o1, o2, d12, b1⟩
        go_wp2
        go_ret3
        exact ⟨_, _, by rw [HE.out]; rfl, by rw [HE.out]; exact o1, by rw [HE.out]; exact o2, d12, b1⟩

end Go.Proofs.Ythgjpccimiddfaa
