/- The specification's l4Scale and WholeShift, each by its contract. -/
import Derived.Test.YtlnpfjnpnjiepaaSWFloor
import Derived.Test.YtlnpfjnpnjiepaaSW
namespace Go.Proofs.Ytlnpfjnpnjiepaa
open Go.RowKit

set_option maxRecDepth 20000 in
set_option maxHeartbeats 1600000 in
theorem sWScale (va : Value) (x k : Int) (w : World) (ha : rowW w va (mkW x)) (hlx : (limbs x.natAbs).length ≤ 10000) (h1 : -100000 ≤ k) (h2 : k ≤ 100000) :
    Calls Try.prog 54 #[va, .int .i64 k] w fun e w' => ∃ v, e = .returned v ∧ ownsW w' w.heap.size v (mkW (scaleI x k)) ∧ Below w.heap.size w w' := by
  by_cases hk : 0 ≤ k
  · obtain ⟨j, rfl⟩ : ∃ j : Nat, k = (j : Int) := ⟨k.toNat, by omega⟩
    have kU := fun W (h : Below w.heap.size w W) => sWUp va x j W (ha.below h (Nat.le_refl _)) hlx (by omega)
    have hz : scaleI x (j : Int) = x * 2 ^ j := by unfold scaleI; rw [if_pos hk]; simp
    rw [← hz] at kU
    obtain ⟨nr, lr, hm5⟩ : ∃ nb lb, mkW (scaleI x (j : Int)) = (nb, lb) := ⟨_, _, rfl⟩
    rw [hm5] at kU
    rw [hm5]
    obtain ⟨s, rfl, hs⟩ := ha
    obtain ⟨a1, c1, rfl, -⟩ := hs
    generalize (mkW x).1 = na at *
    generalize (mkW x).2.length = len at *
    have s1 : (w.alloc (.cells #[.bool na, .slice a1 len c1] 26)).heap.size = w.heap.size + 1 := by simp
    have R1 := BoxW.made (w.alloc (.cells #[.bool na, .slice a1 len c1] 26)) (.bool false) (.slice none 0 0) 26
    rw [s1] at R1
    have B := below2 w (.cells #[.bool na, .slice a1 len c1] 26) (.cells #[.bool false, .slice none 0 0] 26)
    have hi1 := R1.lt4
    clear s1 hm5 hz
    go_enter Try.func54, Try.ntmps54
    go_wp2_with fail
    refine (kU _ B).mono ?_
    rintro e w2 ⟨v2, rfl, o2, b2⟩
    have B3 := B.trans (b2.mono B.size)
    have R3 := R1.below b2 (Nat.le_refl _)
    have c0 := R3.c0
    have c1' := R3.c1
    have f0 := R3.f0
    have f1 := R3.f1
    obtain ⟨s2, rfl, q2⟩ := o2
    obtain ⟨ad2, cp2, rfl, -⟩ := q2.row
    have o6 := ownsRow_setCell_below (a := ⟨w.heap.size + 1, 0, none⟩) q2 (by exact hi1) (.bool nr)
    have o7 := ownsRow_setCell_below (a := ⟨w.heap.size + 1, 1, none⟩) o6 (by exact hi1) (.slice ad2 lr.length cp2)
    have HO : Hid (World.ownsRow _ w.heap.size 3 1 (.slice ad2 lr.length cp2) lr.length (lr.map (Value.int .i64))) := ownsRow_mono o7 B.size
    have HB : Hid (Below w.heap.size w _) := (B3.setCell (p := ⟨w.heap.size + 1, 0, none⟩) (by show w.heap.size ≤ w.heap.size + 1; omega) (.bool nr)).setCell (p := ⟨w.heap.size + 1, 1, none⟩) (by show w.heap.size ≤ w.heap.size + 1; omega) (.slice ad2 lr.length cp2)
    clear o6 o7 q2 R1 R3 b2 B B3
    go_wp2
    (try simp only [Exit.inBlock, Exit.then])
    refine bodyPost_ret (v := .agg #[.bool nr, .slice ad2 lr.length cp2]) ?_ rfl ⟨_, rfl, ⟨_, rfl, HO.out⟩, HB.out⟩
    rw [results_cell1 rfl]
    go_simp
  · obtain ⟨j, hj⟩ : ∃ j : Nat, -k = (j : Int) := ⟨(-k).toNat, by omega⟩
    have kU := fun W (h : Below w.heap.size w W) => sWFloor va x j W (ha.below h (Nat.le_refl _)) hlx (by omega)
    have hz : scaleI x k = x / 2 ^ j := by unfold scaleI; rw [if_neg hk, hj]; simp
    rw [← hz] at kU
    have hj2 : (j : Int) = 0 - k := by omega
    rw [hj2] at kU
    obtain ⟨nr, lr, hm5⟩ : ∃ nb lb, mkW (scaleI x k) = (nb, lb) := ⟨_, _, rfl⟩
    rw [hm5] at kU
    rw [hm5]
    obtain ⟨s, rfl, hs⟩ := ha
    obtain ⟨a1, c1, rfl, -⟩ := hs
    generalize (mkW x).1 = na at *
    generalize (mkW x).2.length = len at *
    have s1 : (w.alloc (.cells #[.bool na, .slice a1 len c1] 26)).heap.size = w.heap.size + 1 := by simp
    have R1 := BoxW.made (w.alloc (.cells #[.bool na, .slice a1 len c1] 26)) (.bool false) (.slice none 0 0) 26
    rw [s1] at R1
    have B := below2 w (.cells #[.bool na, .slice a1 len c1] 26) (.cells #[.bool false, .slice none 0 0] 26)
    have hi1 := R1.lt4
    clear s1 hm5 hz hj hj2
    go_enter Try.func54, Try.ntmps54
    go_wp2_with fail
    (try rw [Int.zero_sub] at kU)
    (try rw [Int.zero_sub])
    refine (kU _ B).mono ?_
    rintro e w2 ⟨v2, rfl, o2, b2⟩
    have B3 := B.trans (b2.mono B.size)
    have R3 := R1.below b2 (Nat.le_refl _)
    have c0 := R3.c0
    have c1' := R3.c1
    have f0 := R3.f0
    have f1 := R3.f1
    obtain ⟨s2, rfl, q2⟩ := o2
    obtain ⟨ad2, cp2, rfl, -⟩ := q2.row
    have o6 := ownsRow_setCell_below (a := ⟨w.heap.size + 1, 0, none⟩) q2 (by exact hi1) (.bool nr)
    have o7 := ownsRow_setCell_below (a := ⟨w.heap.size + 1, 1, none⟩) o6 (by exact hi1) (.slice ad2 lr.length cp2)
    have HO : Hid (World.ownsRow _ w.heap.size 3 1 (.slice ad2 lr.length cp2) lr.length (lr.map (Value.int .i64))) := ownsRow_mono o7 B.size
    have HB : Hid (Below w.heap.size w _) := (B3.setCell (p := ⟨w.heap.size + 1, 0, none⟩) (by show w.heap.size ≤ w.heap.size + 1; omega) (.bool nr)).setCell (p := ⟨w.heap.size + 1, 1, none⟩) (by show w.heap.size ≤ w.heap.size + 1; omega) (.slice ad2 lr.length cp2)
    clear o6 o7 q2 R1 R3 b2 B B3
    go_wp2
    (try simp only [Exit.inBlock, Exit.then])
    refine bodyPost_ret (v := .agg #[.bool nr, .slice ad2 lr.length cp2]) ?_ rfl ⟨_, rfl, ⟨_, rfl, HO.out⟩, HB.out⟩
    rw [results_cell1 rfl]
    go_simp

theorem wshiftR_len (a : Wh) (k : Int) : (wshiftR a k).1.2.length ≤ 1048576 := by
  unfold wshiftR
  split
  · exact fitW_len _
  · simp

set_option maxRecDepth 20000 in
set_option maxHeartbeats 1600000 in
theorem sWholeShift (va : Value) (a : Wh) (k : Int) (w : World) (ha : rowW w va a) (hla : a.2.length ≤ 1048576) :
    Calls Try.prog 21 #[va, .int .i64 k] w fun e w' => ∃ v, e = .returned (.tuple #[v, .bool (wshiftR a k).2]) ∧ ownsW w' w.heap.size v (wshiftR a k).1 ∧ Below w.heap.size w w' := by
  have ka := fun W (h : Below w.heap.size w W) => sWholeOk va a W (ha.below h (Nat.le_refl _)) hla
  have kc : okW a = true → -1152 ≤ k ∧ k ≤ 1152 → ∀ W, Below w.heap.size w W → Calls Try.prog 54 #[va, .int .i64 k] W fun e w' => ∃ v, e = .returned v ∧ ownsW w' W.heap.size v (mkW (scaleI (valW a) k)) ∧ Below W.heap.size W w' := by
    intro h1 hk W h
    have e1 := mkW_of h1
    have l1 : (limbs (valW a).natAbs).length ≤ 10000 := by
      have h3 := ((okW_iff a).1 h1).1.1
      have : (mkW (valW a)).2.length ≤ 48 := by rw [← e1]; exact h3
      have h4 : (limbs (valW a).natAbs).length ≤ 48 := this
      omega
    exact sWScale va (valW a) k W (by rw [← e1]; exact ha.below h (Nat.le_refl _)) l1 (by omega) (by omega)
  have kf := fun v base W (h : ownsW W base v (mkW (scaleI (valW a) k))) => sWFits v (scaleI (valW a) k) base W h
  obtain ⟨s, rfl, hs⟩ := ha
  obtain ⟨a1, c1, rfl, -⟩ := hs
  have HE : Hid ((¬ (okW a = true ∧ -1152 ≤ k ∧ k ≤ 1152) → wshiftR a k = ((false, []), false)) ∧ (okW a = true → -1152 ≤ k ∧ k ≤ 1152 → fitW (scaleI (valW a) k) = wshiftR a k)) := ⟨fun h => by rw [wshiftR, if_neg h], fun h1 h2 => by rw [wshiftR, if_pos ⟨h1, h2⟩]⟩
  obtain ⟨z, hz⟩ : ∃ z, scaleI (valW a) k = z := ⟨_, rfl⟩
  rw [hz] at kc kf HE
  obtain ⟨rn, hrn⟩ : ∃ r, wshiftR a k = r := ⟨_, rfl⟩
  rw [hrn] at HE
  rw [hrn]
  have s1 : (w.alloc (.cells #[.bool a.1, .slice a1 a.2.length c1] 26)).heap.size = w.heap.size + 1 := by simp
  have A1 := (BoxW.made w (.bool a.1) (.slice a1 a.2.length c1) 26).below (below1 _ (.cells #[.bool false, .slice none 0 0] 26)) (Nat.le_refl _)
  have R1 := BoxW.made (w.alloc (.cells #[.bool a.1, .slice a1 a.2.length c1] 26)) (.bool false) (.slice none 0 0) 26
  rw [s1] at R1
  have B := below2 w (.cells #[.bool a.1, .slice a1 a.2.length c1] 26) (.cells #[.bool false, .slice none 0 0] 26)
  obtain ⟨oa, hoa⟩ : ∃ x, okW a = x := ⟨_, rfl⟩
  rw [hoa] at ka kc HE
  clear s1 hoa hz hrn
  cases oa
  · have HE2 : rn = ((false, []), false) := HE.out.1 (by simp)
    subst HE2
    clear kc HE kf
    go_enter Try.func21, Try.ntmps21
    go_wp2_with fail
    refine (ka _ B).mono ?_
    rintro e w9 ⟨rfl, b1⟩
    have B9 := B.trans (b1.mono B.size)
    have R9 := R1.below b1 (Nat.le_refl _)
    clear A1 R1 B b1
    have c0 := R9.c0
    have c1' := R9.c1
    have f0 := R9.f0
    have f1 := R9.f1
    have HB : Hid (Below w.heap.size w ((w9.setCell ⟨w.heap.size + 1, 0, none⟩ (.bool false)).setCell ⟨w.heap.size + 1, 1, none⟩ (.slice none 0 0))) := (B9.setCell (p := ⟨w.heap.size + 1, 0, none⟩) (by show w.heap.size ≤ w.heap.size + 1; omega) (.bool false)).setCell (p := ⟨w.heap.size + 1, 1, none⟩) (by show w.heap.size ≤ w.heap.size + 1; omega) (.slice none 0 0)
    go_wp2
    (try simp only [Exit.inBlock, Exit.then])
    refine bodyPost_ret (v := .tuple #[.agg #[.bool false, .slice none 0 0], .bool false]) ?_ rfl ⟨_, rfl, ⟨_, rfl, World.ownsRow_nil _ _ _ _⟩, HB.out⟩
    rw [results_cell_tmp rfl]
    go_simp
  by_cases hk : -1152 ≤ k ∧ k ≤ 1152
  · have kI := fun W => in_yes k (-1152) 1152 W hk.1 hk.2
    have kC := kc rfl hk
    have HF : Hid (fitW z = rn) := HE.out.2 rfl hk
    clear kc HE hk
    go_enter Try.func21, Try.ntmps21
    go_wp2_with fail
    refine (ka _ B).mono ?_
    rintro e w1 ⟨rfl, b1⟩
    have B2 := B.trans (b1.mono B.size)
    have A2 := A1.below b1 (Nat.le_refl _)
    have R2 := R1.below b1 (Nat.le_refl _)
    clear A1 R1 B b1
    have d0 := A2.c0
    have d1 := A2.c1
    go_wp2_with fail
    refine (kI _).mono ?_
    rintro e w2 ⟨rfl, rfl⟩
    go_wp2_with fail
    refine (kC _ B2).mono ?_
    rintro e w3 ⟨v3, rfl, o3, b3⟩
    have B4 := B2.trans (b3.mono B2.size)
    have R4 := R2.below b3 (Nat.le_refl _)
    have hi1 := R2.lt4
    clear d0 d1 A2 R2 b3
    go_wp2_with fail
    refine (kf v3 _ w3 o3).mono ?_
    rintro e w4 ⟨v4, rfl, o4, b4⟩
    rw [HF.out] at o4
    rw [HF.out]
    have B5 := B4.trans (b4.mono B4.size)
    have R5 := R4.below b4 (Nat.le_refl _)
    have c0 := R5.c0
    have c1' := R5.c1
    have f0 := R5.f0
    have f1 := R5.f1
    obtain ⟨⟨nb, lb⟩, rb⟩ := rn
    obtain ⟨s2, rfl, q2⟩ := o4
    obtain ⟨ad2, cp2, rfl, -⟩ := q2.row
    have o6 := ownsRow_setCell_below (a := ⟨w.heap.size + 1, 0, none⟩) q2 (by exact hi1) (.bool nb)
    have o7 := ownsRow_setCell_below (a := ⟨w.heap.size + 1, 1, none⟩) o6 (by exact hi1) (.slice ad2 lb.length cp2)
    have HO : Hid (World.ownsRow _ w.heap.size 3 1 (.slice ad2 lb.length cp2) lb.length (lb.map (Value.int .i64))) := ownsRow_mono o7 B2.size
    have HB : Hid (Below w.heap.size w _) := (B5.setCell (p := ⟨w.heap.size + 1, 0, none⟩) (by show w.heap.size ≤ w.heap.size + 1; omega) (.bool nb)).setCell (p := ⟨w.heap.size + 1, 1, none⟩) (by show w.heap.size ≤ w.heap.size + 1; omega) (.slice ad2 lb.length cp2)
    clear o6 o7 q2 R5 b4 B2 B4 B5 R4
    go_wp2
    (try simp only [Exit.inBlock, Exit.then])
    refine bodyPost_ret (v := .tuple #[.agg #[.bool nb, .slice ad2 lb.length cp2], .bool rb]) ?_ rfl ⟨_, rfl, ⟨_, rfl, HO.out⟩, HB.out⟩
    rw [results_cell_tmp rfl]
    go_simp
  · have kI := fun W => in_no k (-1152) 1152 W hk
    have HE2 : rn = ((false, []), false) := HE.out.1 (by intro q; exact hk q.2)
    subst HE2
    clear kc HE kf hk
    go_enter Try.func21, Try.ntmps21
    go_wp2_with fail
    refine (ka _ B).mono ?_
    rintro e w9 ⟨rfl, b1⟩
    have B9 := B.trans (b1.mono B.size)
    have R9 := R1.below b1 (Nat.le_refl _)
    clear A1 R1 B b1
    have c0 := R9.c0
    have c1' := R9.c1
    have f0 := R9.f0
    have f1 := R9.f1
    have HB : Hid (Below w.heap.size w ((w9.setCell ⟨w.heap.size + 1, 0, none⟩ (.bool false)).setCell ⟨w.heap.size + 1, 1, none⟩ (.slice none 0 0))) := (B9.setCell (p := ⟨w.heap.size + 1, 0, none⟩) (by show w.heap.size ≤ w.heap.size + 1; omega) (.bool false)).setCell (p := ⟨w.heap.size + 1, 1, none⟩) (by show w.heap.size ≤ w.heap.size + 1; omega) (.slice none 0 0)
    go_wp2_with fail
    refine (kI _).mono ?_
    rintro e w2 ⟨rfl, rfl⟩
    go_wp2
    (try simp only [Exit.inBlock, Exit.then])
    refine bodyPost_ret (v := .tuple #[.agg #[.bool false, .slice none 0 0], .bool false]) ?_ rfl ⟨_, rfl, ⟨_, rfl, World.ownsRow_nil _ _ _ _⟩, HB.out⟩
    rw [results_cell_tmp rfl]
    go_simp

end Go.Proofs.Ytlnpfjnpnjiepaa
