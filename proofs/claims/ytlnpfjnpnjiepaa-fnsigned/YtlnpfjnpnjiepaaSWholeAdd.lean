/- The specification's WholeAdd, by its contract. -/
import Derived.Test.YtlnpfjnpnjiepaaSW
namespace Go.Proofs.Ytlnpfjnpnjiepaa
open Go.RowKit

set_option maxRecDepth 20000 in
set_option maxHeartbeats 1600000 in
theorem sWholeAdd (va vb : Value) (a b : Wh) (w : World) (ha : rowW w va a) (hb : rowW w vb b) (hla : a.2.length ≤ 1048576) (hlb : b.2.length ≤ 1048576) :
    Calls Try.prog 14 #[va, vb] w fun e w' => ∃ v, e = .returned (.tuple #[v, .bool (waddR a b).2]) ∧ ownsW w' w.heap.size v (waddR a b).1 ∧ Below w.heap.size w w' := by
  have ka := fun W (h : Below w.heap.size w W) => sWholeOk va a W (ha.below h (Nat.le_refl _)) hla
  have kb := fun W (h : Below w.heap.size w W) => sWholeOk vb b W (hb.below h (Nat.le_refl _)) hlb
  have kc : okW a = true → okW b = true → ∀ W, Below w.heap.size w W → Calls Try.prog 42 #[va, vb] W fun e w' => ∃ v, e = .returned v ∧ ownsW w' W.heap.size v (mkW (valW a + valW b)) ∧ Below W.heap.size W w' := by
    intro h1 h2 W h
    have e1 := mkW_of h1
    have e2 := mkW_of h2
    have l1 : (limbs (valW a).natAbs).length ≤ 1000000 := by
      have h3 := ((okW_iff a).1 h1).1.1
      have : (mkW (valW a)).2.length ≤ 48 := by rw [← e1]; exact h3
      have h4 : (limbs (valW a).natAbs).length ≤ 48 := this
      omega
    have l2 : (limbs (valW b).natAbs).length ≤ 1000000 := by
      have h3 := ((okW_iff b).1 h2).1.1
      have : (mkW (valW b)).2.length ≤ 48 := by rw [← e2]; exact h3
      have h4 : (limbs (valW b).natAbs).length ≤ 48 := this
      omega
    exact sWAdd va vb (valW a) (valW b) W (by rw [← e1]; exact ha.below h (Nat.le_refl _)) (by rw [← e2]; exact hb.below h (Nat.le_refl _)) l1 l2
  have kf := fun v base W (h : ownsW W base v (mkW (valW a + valW b))) => sWFits v (valW a + valW b) base W h
  obtain ⟨s, rfl, hs⟩ := ha
  obtain ⟨t, rfl, ht⟩ := hb
  obtain ⟨a1, c1, rfl, -⟩ := hs
  obtain ⟨a2, c2, rfl, -⟩ := ht
  have HE : Hid ((¬ (okW a = true ∧ okW b = true) → waddR a b = ((false, []), false)) ∧ (okW a = true → okW b = true → fitW (valW a + valW b) = waddR a b)) := ⟨fun h => by rw [waddR, if_neg h], fun h1 h2 => by rw [waddR, if_pos ⟨h1, h2⟩]⟩
  obtain ⟨z, hz⟩ : ∃ z, valW a + valW b = z := ⟨_, rfl⟩
  rw [hz] at kc kf HE
  obtain ⟨rn, hrn⟩ : ∃ r, waddR a b = r := ⟨_, rfl⟩
  rw [hrn] at HE
  rw [hrn]
  -- the boxes
  have s1 : (w.alloc (.cells #[.bool a.1, .slice a1 a.2.length c1] 26)).heap.size = w.heap.size + 1 := by simp
  have s2 : ((w.alloc (.cells #[.bool a.1, .slice a1 a.2.length c1] 26)).alloc (.cells #[.bool b.1, .slice a2 b.2.length c2] 26)).heap.size = w.heap.size + 1 + 1 := by simp
  have A1 := ((BoxW.made w (.bool a.1) (.slice a1 a.2.length c1) 26).below (below1 _ (.cells #[.bool b.1, .slice a2 b.2.length c2] 26)) (Nat.le_refl _)).below (below1 _ (.cells #[.bool false, .slice none 0 0] 26)) (Nat.le_refl _)
  have C1 := (BoxW.made (w.alloc (.cells #[.bool a.1, .slice a1 a.2.length c1] 26)) (.bool b.1) (.slice a2 b.2.length c2) 26).below (below1 _ (.cells #[.bool false, .slice none 0 0] 26)) (Nat.le_refl _)
  rw [s1] at C1
  have R1 := BoxW.made ((w.alloc (.cells #[.bool a.1, .slice a1 a.2.length c1] 26)).alloc (.cells #[.bool b.1, .slice a2 b.2.length c2] 26)) (.bool false) (.slice none 0 0) 26
  rw [s2] at R1
  have B := below3 w (.cells #[.bool a.1, .slice a1 a.2.length c1] 26) (.cells #[.bool b.1, .slice a2 b.2.length c2] 26) (.cells #[.bool false, .slice none 0 0] 26)
  obtain ⟨oa, hoa⟩ : ∃ x, okW a = x := ⟨_, rfl⟩
  obtain ⟨ob, hob⟩ : ∃ x, okW b = x := ⟨_, rfl⟩
  rw [hoa] at ka kc HE
  rw [hob] at kb kc HE
  clear s1 s2 hoa hob hz hrn
  cases oa
  · have HE2 : rn = ((false, []), false) := HE.out.1 (by simp)
    subst HE2
    clear kb kc HE kf
    go_enter Try.func14, Try.ntmps14
    go_wp2_with fail
    refine (ka _ B).mono ?_
    rintro e w9 ⟨rfl, b1⟩
    have B9 := B.trans (b1.mono B.size)
    have R9 := R1.below b1 (Nat.le_refl _)
    clear A1 C1 R1 B b1
    have c0 := R9.c0
    have c1' := R9.c1
    have f0 := R9.f0
    have f1 := R9.f1
    have HB : Hid (Below w.heap.size w ((w9.setCell ⟨w.heap.size + 1 + 1, 0, none⟩ (.bool false)).setCell ⟨w.heap.size + 1 + 1, 1, none⟩ (.slice none 0 0))) := (B9.setCell (p := ⟨w.heap.size + 1 + 1, 0, none⟩) (by show w.heap.size ≤ w.heap.size + 1 + 1; omega) (.bool false)).setCell (p := ⟨w.heap.size + 1 + 1, 1, none⟩) (by show w.heap.size ≤ w.heap.size + 1 + 1; omega) (.slice none 0 0)
    go_wp2
    (try simp only [Exit.inBlock, Exit.then])
    refine bodyPost_ret (v := .tuple #[.agg #[.bool false, .slice none 0 0], .bool false]) ?_ rfl ⟨_, rfl, ⟨_, rfl, World.ownsRow_nil _ _ _ _⟩, HB.out⟩
    rw [results_cell_tmp rfl]
    go_simp
  cases ob
  · have HE2 : rn = ((false, []), false) := HE.out.1 (by simp)
    subst HE2
    clear kc HE kf
    go_enter Try.func14, Try.ntmps14
    go_wp2_with fail
    refine (ka _ B).mono ?_
    rintro e w1 ⟨rfl, b1⟩
    have B2 := B.trans (b1.mono B.size)
    have C2 := C1.below b1 (Nat.le_refl _)
    have R2 := R1.below b1 (Nat.le_refl _)
    have d0 := C2.c0
    have d1 := C2.c1
    clear A1 C1 R1 B b1
    go_wp2_with fail
    refine (kb _ B2).mono ?_
    rintro e w9 ⟨rfl, b2⟩
    have B9 := B2.trans (b2.mono B2.size)
    have R9 := R2.below b2 (Nat.le_refl _)
    clear d0 d1 C2 R2 B2 b2
    have c0 := R9.c0
    have c1' := R9.c1
    have f0 := R9.f0
    have f1 := R9.f1
    have HB : Hid (Below w.heap.size w ((w9.setCell ⟨w.heap.size + 1 + 1, 0, none⟩ (.bool false)).setCell ⟨w.heap.size + 1 + 1, 1, none⟩ (.slice none 0 0))) := (B9.setCell (p := ⟨w.heap.size + 1 + 1, 0, none⟩) (by show w.heap.size ≤ w.heap.size + 1 + 1; omega) (.bool false)).setCell (p := ⟨w.heap.size + 1 + 1, 1, none⟩) (by show w.heap.size ≤ w.heap.size + 1 + 1; omega) (.slice none 0 0)
    go_wp2
    (try simp only [Exit.inBlock, Exit.then])
    refine bodyPost_ret (v := .tuple #[.agg #[.bool false, .slice none 0 0], .bool false]) ?_ rfl ⟨_, rfl, ⟨_, rfl, World.ownsRow_nil _ _ _ _⟩, HB.out⟩
    rw [results_cell_tmp rfl]
    go_simp
  · have kC := kc rfl rfl
    have HF : Hid (fitW z = rn) := HE.out.2 rfl rfl
    clear kc HE
    go_enter Try.func14, Try.ntmps14
    go_wp2_with fail
    refine (ka _ B).mono ?_
    rintro e w1 ⟨rfl, b1⟩
    have B2 := B.trans (b1.mono B.size)
    have A2 := A1.below b1 (Nat.le_refl _)
    have C2 := C1.below b1 (Nat.le_refl _)
    have R2 := R1.below b1 (Nat.le_refl _)
    have d0 := C2.c0
    have d1 := C2.c1
    clear A1 C1 R1 B b1
    go_wp2_with fail
    refine (kb _ B2).mono ?_
    rintro e w2 ⟨rfl, b2⟩
    have B3 := B2.trans (b2.mono B2.size)
    have A3 := A2.below b2 (Nat.le_refl _)
    have C3 := C2.below b2 (Nat.le_refl _)
    have R3 := R2.below b2 (Nat.le_refl _)
    clear d0 d1 A2 C2 R2 B2 b2
    have d0 := C3.c0
    have d1 := C3.c1
    have g0 := A3.c0
    have g1 := A3.c1
    go_wp2_with fail
    refine (kC _ B3).mono ?_
    rintro e w3 ⟨v3, rfl, o3, b3⟩
    have B4 := B3.trans (b3.mono B3.size)
    have R4 := R3.below b3 (Nat.le_refl _)
    have hi1 := R3.hi
    clear d0 d1 g0 g1 A3 C3 R3 b3
    go_wp2_with fail
    refine (kf v3 _ w3 o3).mono ?_
    rintro e w4 ⟨v4, rfl, o4, b4⟩
    rw [HF.out] at o4
    rw [HF.out]
    have B5 := B4.trans (b4.mono B4.size)
    have R5 := R4.below b4 (Nat.le_refl _)
    have c0 := R5.c0
    have c1' := R5.c1
    have f0 := R5.f0
    have f1 := R5.f1
    obtain ⟨⟨nb, lb⟩, rb⟩ := rn
    obtain ⟨s2, rfl, q2⟩ := o4
    obtain ⟨ad2, cp2, rfl, -⟩ := q2.row
    have o6 := ownsRow_setCell_below (a := ⟨w.heap.size + 1 + 1, 0, none⟩) q2 (by exact hi1) (.bool nb)
    have o7 := ownsRow_setCell_below (a := ⟨w.heap.size + 1 + 1, 1, none⟩) o6 (by exact hi1) (.slice ad2 lb.length cp2)
    have HO : Hid (World.ownsRow _ w.heap.size 3 1 (.slice ad2 lb.length cp2) lb.length (lb.map (Value.int .i64))) := ownsRow_mono o7 B3.size
    have HB : Hid (Below w.heap.size w _) := (B5.setCell (p := ⟨w.heap.size + 1 + 1, 0, none⟩) (by show w.heap.size ≤ w.heap.size + 1 + 1; omega) (.bool nb)).setCell (p := ⟨w.heap.size + 1 + 1, 1, none⟩) (by show w.heap.size ≤ w.heap.size + 1 + 1; omega) (.slice ad2 lb.length cp2)
    clear o6 o7 q2 R5 b4 B3 B4 B5 R4
    go_wp2
    (try simp only [Exit.inBlock, Exit.then])
    refine bodyPost_ret (v := .tuple #[.agg #[.bool nb, .slice ad2 lb.length cp2], .bool rb]) ?_ rfl ⟨_, rfl, ⟨_, rfl, HO.out⟩, HB.out⟩
    rw [results_cell_tmp rfl]
    go_simp

end Go.Proofs.Ytlnpfjnpnjiepaa
