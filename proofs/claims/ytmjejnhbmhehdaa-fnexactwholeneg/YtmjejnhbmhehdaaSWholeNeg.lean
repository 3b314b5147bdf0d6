/- The specification's WholeNeg, by its contract. -/
import Derived.Test.YtmjejnhbmhehdaaSWNeg
import Derived.Test.YtmjejnhbmhehdaaSWholeOk
namespace Go.Proofs.Ytmjejnhbmhehdaa
open Go.RowKit

set_option maxRecDepth 20000 in
set_option maxHeartbeats 1600000 in
theorem sWholeNeg (va : Value) (a : Wh) (w : World) (ha : rowW w va a) (hla : a.2.length ≤ 1048576) :
    Calls Try.prog 18 #[va] w fun e w' => ∃ v, e = .returned v ∧ ownsW w' w.heap.size v (wnegR a) ∧ Below w.heap.size w w' := by
  have ka := fun W (h : Below w.heap.size w W) => sWholeOk va a W (ha.below h (Nat.le_refl _)) hla
  have kc : okW a = true → ∀ W, Below w.heap.size w W → Calls Try.prog 43 #[va] W fun e w' => ∃ v, e = .returned v ∧ ownsW w' W.heap.size v (wnegR a) ∧ Below W.heap.size W w' := by
    intro h1 W h
    rw [wnegR, if_pos h1]
    have e1 := mkW_of h1
    have l1 : (limbs (valW a).natAbs).length ≤ 1048576 := by have : (mkW (valW a)).2.length ≤ 1048576 := by rw [← e1]; exact hla
                                                             exact this
    exact sWNeg va (valW a) W (by rw [← e1]; exact ha.below h (Nat.le_refl _)) l1
  obtain ⟨s, rfl, hs⟩ := ha
  obtain ⟨a1, c1, rfl, -⟩ := hs
  have HE : Hid (okW a ≠ true → wnegR a = (false, [])) := fun h => by rw [wnegR, if_neg h]
  obtain ⟨rn, hrn⟩ : ∃ r, wnegR a = r := ⟨_, rfl⟩
  rw [hrn] at kc HE
  rw [hrn]
  -- the boxes
  have s1 : (w.alloc (.cells #[.bool a.1, .slice a1 a.2.length c1] 24)).heap.size = w.heap.size + 1 := by simp
  have A1 := (BoxW.made w (.bool a.1) (.slice a1 a.2.length c1) 24).below (below1 _ (.cells #[.bool false, .slice none 0 0] 24)) (Nat.le_refl _)
  have R1 := BoxW.made (w.alloc (.cells #[.bool a.1, .slice a1 a.2.length c1] 24)) (.bool false) (.slice none 0 0) 24
  rw [s1] at R1
  have B := below2 w (.cells #[.bool a.1, .slice a1 a.2.length c1] 24) (.cells #[.bool false, .slice none 0 0] 24)
  obtain ⟨oa, hoa⟩ : ∃ x, okW a = x := ⟨_, rfl⟩
  rw [hoa] at ka kc HE
  clear s1 hoa hrn
  cases oa
  · have HE2 : rn = (false, []) := HE.out (by simp)
    subst HE2
    clear kc HE
    go_enter Try.func18, Try.ntmps18
    go_wp2_with fail
    refine (ka _ B).mono ?_
    rintro e w1 ⟨rfl, b1⟩
    have B2 := B.trans (b1.mono B.size)
    have R2 := R1.below b1 (Nat.le_refl _)
    have c0 := R2.c0
    have c1' := R2.c1
    have f0 := R2.f0
    have f1 := R2.f1
    have HB : Hid (Below w.heap.size w ((w1.setCell ⟨w.heap.size + 1, 0, none⟩ (.bool false)).setCell ⟨w.heap.size + 1, 1, none⟩ (.slice none 0 0))) := (B2.setCell (p := ⟨w.heap.size + 1, 0, none⟩) (by show w.heap.size ≤ w.heap.size + 1; omega) (.bool false)).setCell (p := ⟨w.heap.size + 1, 1, none⟩) (by show w.heap.size ≤ w.heap.size + 1; omega) (.slice none 0 0)
    clear A1 R1 B b1 B2
    go_wp2
    (try simp only [Exit.inBlock, Exit.then])
    refine bodyPost_ret (v := .agg #[.bool false, .slice none 0 0]) ?_ rfl ⟨_, rfl, ⟨_, rfl, World.ownsRow_nil _ _ _ _⟩, HB.out⟩
    rw [results_cell1 rfl]
    go_simp
  · have kC := kc rfl
    clear kc HE
    go_enter Try.func18, Try.ntmps18
    go_wp2_with fail
    refine (ka _ B).mono ?_
    rintro e w1 ⟨rfl, b1⟩
    have B2 := B.trans (b1.mono B.size)
    have A2 := A1.below b1 (Nat.le_refl _)
    have R2 := R1.below b1 (Nat.le_refl _)
    have d0 := A2.c0
    have d1 := A2.c1
    clear A1 R1 B b1
    go_wp2_with fail
    refine (kC _ B2).mono ?_
    rintro e w2 ⟨v2, rfl, o2, b2⟩
    have B3 := B2.trans (b2.mono B2.size)
    have R3 := R2.below b2 (Nat.le_refl _)
    have c0 := R3.c0
    have c1' := R3.c1
    have f0 := R3.f0
    have f1 := R3.f1
    have hi1 := R2.hi
    obtain ⟨nb, lb⟩ := rn
    obtain ⟨s2, rfl, q2⟩ := o2
    obtain ⟨ad2, cp2, rfl, -⟩ := q2.row
    have o6 := ownsRow_setCell_below (a := ⟨w.heap.size + 1, 0, none⟩) q2 (by exact hi1) (.bool nb)
    have o7 := ownsRow_setCell_below (a := ⟨w.heap.size + 1, 1, none⟩) o6 (by exact hi1) (.slice ad2 lb.length cp2)
    have HO : Hid (World.ownsRow _ w.heap.size 3 1 (.slice ad2 lb.length cp2) lb.length (lb.map (Value.int .i64))) := ownsRow_mono o7 B2.size
    have HB : Hid (Below w.heap.size w _) := (B3.setCell (p := ⟨w.heap.size + 1, 0, none⟩) (by show w.heap.size ≤ w.heap.size + 1; omega) (.bool nb)).setCell (p := ⟨w.heap.size + 1, 1, none⟩) (by show w.heap.size ≤ w.heap.size + 1; omega) (.slice ad2 lb.length cp2)
    clear o6 o7 q2 d0 d1 A2 R2 R3 b2 B2 B3
    go_wp2
    (try simp only [Exit.inBlock, Exit.then])
    refine bodyPost_ret (v := .agg #[.bool nb, .slice ad2 lb.length cp2]) ?_ rfl ⟨_, rfl, ⟨_, rfl, HO.out⟩, HB.out⟩
    rw [results_cell1 rfl]
    go_simp

end Go.Proofs.Ytmjejnhbmhehdaa
