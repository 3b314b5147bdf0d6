/- The program's whole and negated, each by its contract. -/
import Derived.Test.YtjelmbkngjlefaaSFrom
import Derived.Test.YtjelmbkngjlefaaGB
import Derived.Deep.RegionHeld
namespace Go.Proofs.Ytjelmbkngjlefaa
open Go.RowKit
set_option linter.unusedSimpArgs false

theorem nilW (w : World) (base : Nat) : ownsW w base (.agg #[.bool false, .slice none 0 0]) (false, []) := ⟨_, rfl, nil_own w base⟩

set_option maxRecDepth 20000 in
set_option maxHeartbeats 1600000 in
/-- whole: sign and limbs, where there are not too many. -/
theorem sWhole (b : Nat) (z : Int) (w : World) (h : SG w b z) :
    Calls Try.prog 42 #[.pointer (some ⟨b, 0, none⟩)] w fun e w' => ∃ v, e = .returned (.tuple #[v, .bool (fitW z).2]) ∧ ownsW w' w.heap.size v (fitW z).1 ∧ Below w.heap.size w w' := by
  have hl := h.mag.len
  have hlt := h.lt
  have B0 := below1 w (.cells #[.bool false, .slice none 0 0] 28)
  have X0 := BoxW.made w (.bool false) (.slice none 0 0) 28
  have S0 := h.below B0 hlt
  have hs0 : (w.alloc (.cells #[.bool false, .slice none 0 0] 28)).heap.size = w.heap.size + 1 := by simp
  have kL := fun W => gList z.natAbs W hl
  clear h
  by_cases h48 : (limbs z.natAbs).length ≤ 48
  · have HF : Hid (fitW z = (mkW z, true)) := by show _ = _; rw [fitW, if_pos h48]
    have hfr : fitR z.natAbs = (limbs z.natAbs, true) := by unfold fitR; rw [if_pos h48]
    simp only [hfr] at kL
    have HM : Hid (mkW z = (decide (z < 0), limbs z.natAbs)) := rfl
    clear h48 hfr
    go_enter Try.func42, Try.ntmps42
    go_wp2_with (first | (go_at_call 63; fail) | ((with_reducible (refine wpL_id ?_)); refine wpA_load rfl (.tmp 9) rfl b 1 z.natAbs rfl S0.mag ?_))
    generalize w.alloc (.cells #[.bool false, .slice none 0 0] 28) = w0 at *
    refine (kL _).mono ?_
    rintro e w1 ⟨v1, rfl, o1, b1⟩
    have S1 := S0.below b1 S0.lt
    have X1 := X0.below b1 (Nat.le_refl _)
    have B1 := B0.trans (b1.mono B0.size)
    obtain ⟨ad, cap, rfl, -⟩ := o1.row
    have c0 := S1.sign
    have d0 := X1.c0
    have d1 := X1.c1
    have f0 := X1.f0
    have f1 := X1.f1
    obtain ⟨g, hg⟩ : ∃ g, decide (z < 0) = g := ⟨_, rfl⟩
    rw [hg] at c0 HM
    obtain ⟨xs, hxs⟩ : ∃ xs, limbs z.natAbs = xs := ⟨_, rfl⟩
    have o1' : ownsI w1 w0.heap.size (.slice ad xs.length cap) xs := by rw [← hxs]; exact o1
    rw [hxs] at HM
    have HO : Hid (ownsI w1 w0.heap.size (.slice ad xs.length cap) xs) := o1'
    have hne : ¬ (b = w.heap.size) := by omega
    have HZ : Hid (limbs z.natAbs = xs) := hxs
    rw [hxs]
    clear o1 o1' S1 X1 S0 X0 b1 kL hxs hg
    go_wp2
    (try simp only [Exit.inBlock, Exit.then])
    refine bodyPost_ret (v := .tuple #[.agg #[.bool g, .slice ad xs.length cap], .bool true]) ?_ rfl ⟨_, by rw [HF.out], ?_, ?_⟩
    · rw [results_cell_tmp rfl]
      go_simp
    · rw [HF.out]
      show ownsW _ _ _ (mkW z)
      rw [HM.out]
      refine ⟨_, rfl, ?_⟩
      have o2 := ownsRow_setCell_below (a := ⟨w.heap.size, 0, none⟩) HO.out (by show w.heap.size < w0.heap.size; omega) (.bool g)
      have o3 := ownsRow_setCell_below (a := ⟨w.heap.size, 1, none⟩) o2 (by show w.heap.size < w0.heap.size; omega) (.slice ad xs.length cap)
      exact ownsRow_mono o3 (by omega)
    · exact (B1.setCell (p := ⟨w.heap.size, 0, none⟩) (Nat.le_refl _) _).setCell (p := ⟨w.heap.size, 1, none⟩) (Nat.le_refl _) _
  · have HF : Hid (fitW z = ((false, []), false)) := by show _ = _; rw [fitW, if_neg h48]
    have hfr : fitR z.natAbs = ([], false) := by unfold fitR; rw [if_neg h48]
    simp only [hfr] at kL
    clear h48 hfr
    go_enter Try.func42, Try.ntmps42
    go_wp2_with (first | (go_at_call 63; fail) | ((with_reducible (refine wpL_id ?_)); refine wpA_load rfl (.tmp 9) rfl b 1 z.natAbs rfl S0.mag ?_))
    generalize w.alloc (.cells #[.bool false, .slice none 0 0] 28) = w0 at *
    refine (kL _).mono ?_
    rintro e w1 ⟨v1, rfl, o1, b1⟩
    have X1 := X0.below b1 (Nat.le_refl _)
    have B1 := B0.trans (b1.mono B0.size)
    have d0 := X1.c0
    have d1 := X1.c1
    have f0 := X1.f0
    have f1 := X1.f1
    clear o1 X1 S0 X0 b1 kL
    go_wp2
    (try simp only [Exit.inBlock, Exit.then])
    refine bodyPost_ret (v := .tuple #[.agg #[.bool false, .slice none 0 0], .bool false]) ?_ rfl ⟨_, by rw [HF.out], ?_, ?_⟩
    · rw [results_cell_tmp rfl]
      go_simp
    · rw [HF.out]
      exact nilW _ _
    · exact (B1.setCell (p := ⟨w.heap.size, 0, none⟩) (Nat.le_refl _) _).setCell (p := ⟨w.heap.size, 1, none⟩) (Nat.le_refl _) _

end Go.Proofs.Ytjelmbkngjlefaa
