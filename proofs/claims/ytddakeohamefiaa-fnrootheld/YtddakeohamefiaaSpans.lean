/- The program's spans made of spans: alone, addSpans, subSpans, negSpan, widerSpan, each by its contract. -/
import Derived.Test.YtddakeohamefiaaSgPM
import Derived.Test.YtddakeohamefiaaSTB
import Derived.Test.YtddakeohamefiaaSWhole
namespace Go.Proofs.Ytddakeohamefiaa
open Go.RowKit
set_option linter.unusedSimpArgs false

/-- A span whose ends are these two. -/
def spanE (x y : Int) (w : World) (e : Ending) (w' : World) : Prop := ∃ c d : Nat, e = .returned (.agg #[.pointer (some ⟨c, 0, none⟩), .pointer (some ⟨d, 0, none⟩)]) ∧ SG w' c x ∧ SG w' d y ∧ Below w.heap.size w w'

set_option maxRecDepth 20000 in
set_option maxHeartbeats 6400000 in
theorem negSpan_c (p q : Nat) (x y : Int) (w : World) (sp : SG w p x) (sq : SG w q y) :
    Calls Try.prog 46 #[.agg #[.pointer (some ⟨p, 0, none⟩), .pointer (some ⟨q, 0, none⟩)]] w (spanE (-y) (-x) w) := by
  have kS := fun W h1 => sNegated q y W h1
  have kP := fun W h1 => sNegated p x W h1
  unfold spanE
  generalize -x = d1 at *
  generalize -y = d2 at *
  have s1 : (w.alloc (.cells #[.pointer (some ⟨p, 0, none⟩), .pointer (some ⟨q, 0, none⟩)] 54)).heap.size = w.heap.size + 1 := by simp
  have E0 := ((BoxW.made w (.pointer (some ⟨p, 0, none⟩)) (.pointer (some ⟨q, 0, none⟩)) 54).below (below1 _ (.cells #[.pointer none, .pointer none] 54)) (Nat.le_refl _))
  have R0 := BoxW.made (w.alloc (.cells #[.pointer (some ⟨p, 0, none⟩), .pointer (some ⟨q, 0, none⟩)] 54)) (.pointer none) (.pointer none) 54
  rw [s1] at R0
  have B0 := below2 w (.cells #[.pointer (some ⟨p, 0, none⟩), .pointer (some ⟨q, 0, none⟩)] 54) (.cells #[.pointer none, .pointer none] 54)
  have sp0 := sp.below B0 sp.lt
  have sq0 := sq.below B0 sq.lt
  clear s1 sp sq
  go_enter Try.func46, Try.ntmps46
  go_wp2_with fail
  generalize (w.alloc (.cells #[.pointer (some ⟨p, 0, none⟩), .pointer (some ⟨q, 0, none⟩)] 54)).alloc (.cells #[.pointer none, .pointer none] 54) = w0 at *
  have bd' := (Below.refl w0.heap.size w0).drew
  have E3 := E0.below bd' (Nat.le_refl _)
  have R3 := R0.below bd' (Nat.le_refl _)
  have B3 := B0.trans (bd'.mono B0.size)
  have sp3 := sp0.below bd' sp0.lt
  have sq3 := sq0.below bd' sq0.lt
  refine wp_region_held_drew (S := fun W => W.cell? ⟨w.heap.size, 0, none⟩ = some (.pointer (some ⟨p, 0, none⟩)) ∧ W.cell? ⟨w.heap.size, 1, none⟩ = some (.pointer (some ⟨q, 0, none⟩))) (by kernel_rfl) ⟨E3.c0, E3.c1⟩ ?_
  intro hHeld
  generalize w0.drew = w3 at *
  refine takeH 0 (some 3) (.pointer (some ⟨w.heap.size, 1, none⟩)) rfl rfl (by kernel_rfl) (by kernel_rfl) (by kernel_rfl) (fun _ _ _ h => h) (Or.inl ⟨rfl, fun W hW => by obtain _ := hW; go_simp⟩) (by assumption) ?_
  simp only [Act.put, List.setIfInBounds_toArray, List.set_cons_zero, List.set_cons_succ]
  refine takeH 1 (some 4) (.pointer (some ⟨q, 0, none⟩)) rfl rfl (by kernel_rfl) (by kernel_rfl) (by kernel_rfl) (fun _ _ _ h => h) (Or.inl ⟨rfl, fun W hW => by obtain ⟨_, _c⟩ := hW; go_simp⟩) (by assumption) ?_
  simp only [Act.put, List.setIfInBounds_toArray, List.set_cons_zero, List.set_cons_succ]
  refine takeH 3 (some 6) (.pointer (some ⟨w.heap.size, 0, none⟩)) rfl rfl (by kernel_rfl) (by kernel_rfl) (by kernel_rfl) (fun _ _ _ h => h) (Or.inl ⟨rfl, fun W hW => by obtain _ := hW; go_simp⟩) (by assumption) ?_
  simp only [Act.put, List.setIfInBounds_toArray, List.set_cons_zero, List.set_cons_succ]
  refine takeH 4 (some 7) (.pointer (some ⟨p, 0, none⟩)) rfl rfl (by kernel_rfl) (by kernel_rfl) (by kernel_rfl) (fun _ _ _ h => h) (Or.inl ⟨rfl, fun W hW => by obtain ⟨_c, _⟩ := hW; go_simp⟩) (by assumption) ?_
  simp only [Act.put, List.setIfInBounds_toArray, List.set_cons_zero, List.set_cons_succ]
  refine oneH 2 rfl (by kernel_rfl) (fun K' hK => ?_)
  go_simp
  refine (kS _ sq3).mono ?_
  rintro e w4 ⟨c, rfl, hc, sc, b4⟩
  have E4 := E3.below b4 (Nat.le_refl _)
  have R4 := R3.below b4 (Nat.le_refl _)
  have B4 := B3.trans (b4.mono B3.size)
  have sp4 := sp3.below b4 sp3.lt
  have sq4 := sq3.below b4 sq3.lt
  refine hK _ _ ⟨E4.c0, E4.c1⟩ ?_
  clear hK
  refine oneH 5 rfl (by kernel_rfl) (fun K' hK => ?_)
  go_simp
  refine (kP _ sp4).mono ?_
  rintro e w5 ⟨d, rfl, hd, sd, b5⟩
  have E5 := E4.below b5 (Nat.le_refl _)
  have R5 := R4.below b5 (Nat.le_refl _)
  have B5 := B4.trans (b5.mono B4.size)
  have sp5 := sp4.below b5 sp4.lt
  have sq5 := sq4.below b5 sq4.lt
  have sc5 := sc.below b5 sc.lt
  refine hK _ _ ⟨E5.c0, E5.c1⟩ ?_
  clear hK
  have H5 : (fun W => W.cell? ⟨w.heap.size, 0, none⟩ = some (.pointer (some ⟨p, 0, none⟩)) ∧ W.cell? ⟨w.heap.size, 1, none⟩ = some (.pointer (some ⟨q, 0, none⟩))) w5 := ⟨E5.c0, E5.c1⟩
  refine takeH 6 (some 9) (.agg #[.pointer (some ⟨c, 0, none⟩), .pointer (some ⟨d, 0, none⟩)]) rfl rfl (by kernel_rfl) (by kernel_rfl) (by kernel_rfl) (fun _ _ _ h => h) (Or.inl ⟨rfl, fun W hW => by obtain _ := hW; go_simp⟩) (by assumption) ?_
  simp only [Act.put, List.setIfInBounds_toArray, List.set_cons_zero, List.set_cons_succ]
  have hR5 := R5.hi
  have hR3 := R3.hi
  have hR4 := R4.hi
  have E7 := E5.tn ((tnC w5 (w.heap.size + 1) 0 (.pointer (some ⟨c, 0, none⟩))).trans (tnC _ (w.heap.size + 1) 1 (.pointer (some ⟨d, 0, none⟩)))) (fun k hk hs => by simp at hk hs; omega)
  have r0 := R5.c0
  have f0 := R5.f0
  have r1 := R5.c1
  have f1 := R5.f1
  refine oneH 7 rfl (by kernel_rfl) (fun K' hK => ?_)
  go_simp
  refine hK _ _ ⟨E7.c0, E7.c1⟩ ?_
  clear hK
  refine wpAnyH_done (by kernel_rfl) ?_ _
  have HC : Hid (SG _ c _) := sc5.tn ((tnC w5 (w.heap.size + 1) 0 (.pointer (some ⟨c, 0, none⟩))).trans (tnC _ (w.heap.size + 1) 1 (.pointer (some ⟨d, 0, none⟩)))) (fun h => by simp at h; omega)
  have HD : Hid (SG _ d _) := sd.tn ((tnC w5 (w.heap.size + 1) 0 (.pointer (some ⟨c, 0, none⟩))).trans (tnC _ (w.heap.size + 1) 1 (.pointer (some ⟨d, 0, none⟩)))) (fun h => by simp at h; omega)
  have HB : Hid (Below w.heap.size w _) := ((B5.setCell (p := ⟨w.heap.size + 1, 0, none⟩) (by show w.heap.size ≤ w.heap.size + 1; omega) (.pointer (some ⟨c, 0, none⟩))).setCell (p := ⟨w.heap.size + 1, 1, none⟩) (by show w.heap.size ≤ w.heap.size + 1; omega) (.pointer (some ⟨d, 0, none⟩)))
  clear hHeld H5 E0 E3 E4 E5 R0 R3 R4 R5 E7 B0 B3 B4 B5 b4 b5 bd' sc sc5 sd kS kP sp0 sp3 sp4 sp5 sq0 sq3 sq4 sq5
  go_wp2
  (try simp only [Exit.inBlock, Exit.then])
  refine bodyPost_ret (v := .agg #[.pointer (some ⟨c, 0, none⟩), .pointer (some ⟨d, 0, none⟩)]) ?_ rfl ⟨_, _, rfl, HC.out, HD.out, HB.out⟩
  rw [results_cell1 rfl]
  go_simp


set_option maxRecDepth 20000 in
set_option maxHeartbeats 6400000 in
theorem widerSpan_c (p q : Nat) (x y k : Int) (w : World) (sp : SG w p x) (sq : SG w q y) (m1 : (limbs x.natAbs).length ≤ 97) (m2 : (limbs y.natAbs).length ≤ 97) (h0 : -9223372036854775808 ≤ k) (h1 : k ≤ 9223372036854775807) (m3 : (limbs k.natAbs).length ≤ 97) :
    Calls Try.prog 45 #[.agg #[.pointer (some ⟨p, 0, none⟩), .pointer (some ⟨q, 0, none⟩)], .int .i64 k] w (spanE (x - k) (y + k) w) := by
  have kO := fun W => sOf k W h0 h1
  have kS := fun {m} W h1 h2 => sgMinus p m x k W h1 h2 m1 m3
  have kP := fun {m} W h1 h2 => sgPlus q m y k W h1 h2 m2 m3
  unfold spanE
  clear m1 m2 m3
  generalize x - k = d1 at *
  generalize y + k = d2 at *
  have s1 : (w.alloc (.cells #[.pointer (some ⟨p, 0, none⟩), .pointer (some ⟨q, 0, none⟩)] 54)).heap.size = w.heap.size + 1 := by simp
  have E0 := ((BoxW.made w (.pointer (some ⟨p, 0, none⟩)) (.pointer (some ⟨q, 0, none⟩)) 54).below (below1 _ (.cells #[.pointer none, .pointer none] 54)) (Nat.le_refl _))
  have R0 := BoxW.made (w.alloc (.cells #[.pointer (some ⟨p, 0, none⟩), .pointer (some ⟨q, 0, none⟩)] 54)) (.pointer none) (.pointer none) 54
  rw [s1] at R0
  have B0 := below2 w (.cells #[.pointer (some ⟨p, 0, none⟩), .pointer (some ⟨q, 0, none⟩)] 54) (.cells #[.pointer none, .pointer none] 54)
  have sp0 := sp.below B0 sp.lt
  have sq0 := sq.below B0 sq.lt
  clear s1 sp sq
  go_enter Try.func45, Try.ntmps45
  go_wp2_with fail
  refine (kO _).mono ?_
  generalize (w.alloc (.cells #[.pointer (some ⟨p, 0, none⟩), .pointer (some ⟨q, 0, none⟩)] 54)).alloc (.cells #[.pointer none, .pointer none] 54) = w0 at *
  rintro e w1 ⟨m, rfl, hm, sm, b1⟩
  have E1 := E0.below b1 (Nat.le_refl _)
  have R1 := R0.below b1 (Nat.le_refl _)
  have B1 := B0.trans (b1.mono B0.size)
  have sp1 := sp0.below b1 sp0.lt
  have sq1 := sq0.below b1 sq0.lt
  have sm1 := sm
  clear E0 R0 B0 b1 sm kO sp0 sq0
  go_wp2_with fail
  have bd' := (Below.refl w1.heap.size w1).drew
  have E3 := E1.below bd' (Nat.le_refl _)
  have R3 := R1.below bd' (Nat.le_refl _)
  have B3 := B1.trans (bd'.mono B1.size)
  have sp3 := sp1.below bd' sp1.lt
  have sq3 := sq1.below bd' sq1.lt
  have sm3 := sm1.below bd' sm1.lt
  refine wp_region_held_drew (S := fun W => W.cell? ⟨w.heap.size, 0, none⟩ = some (.pointer (some ⟨p, 0, none⟩)) ∧ W.cell? ⟨w.heap.size, 1, none⟩ = some (.pointer (some ⟨q, 0, none⟩))) (by kernel_rfl) ⟨E3.c0, E3.c1⟩ ?_
  intro hHeld
  generalize w1.drew = w3 at *
  refine takeH 0 (some 8) (.pointer (some ⟨w.heap.size, 0, none⟩)) rfl rfl (by kernel_rfl) (by kernel_rfl) (by kernel_rfl) (fun _ _ _ h => h) (Or.inl ⟨rfl, fun W hW => by obtain _ := hW; go_simp⟩) (by assumption) ?_
  simp only [Act.put, List.setIfInBounds_toArray, List.set_cons_zero, List.set_cons_succ]
  refine takeH 1 (some 9) (.pointer (some ⟨p, 0, none⟩)) rfl rfl (by kernel_rfl) (by kernel_rfl) (by kernel_rfl) (fun _ _ _ h => h) (Or.inl ⟨rfl, fun W hW => by obtain ⟨_c, _⟩ := hW; go_simp⟩) (by assumption) ?_
  simp only [Act.put, List.setIfInBounds_toArray, List.set_cons_zero, List.set_cons_succ]
  refine takeH 2 (some 10) (.pointer (some ⟨m, 0, none⟩)) rfl rfl (by kernel_rfl) (by kernel_rfl) (by kernel_rfl) (fun _ _ _ h => h) (Or.inl ⟨rfl, fun W hW => by obtain _ := hW; go_simp⟩) (by assumption) ?_
  simp only [Act.put, List.setIfInBounds_toArray, List.set_cons_zero, List.set_cons_succ]
  refine takeH 4 (some 12) (.pointer (some ⟨w.heap.size, 1, none⟩)) rfl rfl (by kernel_rfl) (by kernel_rfl) (by kernel_rfl) (fun _ _ _ h => h) (Or.inl ⟨rfl, fun W hW => by obtain _ := hW; go_simp⟩) (by assumption) ?_
  simp only [Act.put, List.setIfInBounds_toArray, List.set_cons_zero, List.set_cons_succ]
  refine takeH 5 (some 13) (.pointer (some ⟨q, 0, none⟩)) rfl rfl (by kernel_rfl) (by kernel_rfl) (by kernel_rfl) (fun _ _ _ h => h) (Or.inl ⟨rfl, fun W hW => by obtain ⟨_, _c⟩ := hW; go_simp⟩) (by assumption) ?_
  simp only [Act.put, List.setIfInBounds_toArray, List.set_cons_zero, List.set_cons_succ]
  refine takeH 6 (some 14) (.pointer (some ⟨m, 0, none⟩)) rfl rfl (by kernel_rfl) (by kernel_rfl) (by kernel_rfl) (fun _ _ _ h => h) (Or.inl ⟨rfl, fun W hW => by obtain _ := hW; go_simp⟩) (by assumption) ?_
  simp only [Act.put, List.setIfInBounds_toArray, List.set_cons_zero, List.set_cons_succ]
  refine oneH 3 rfl (by kernel_rfl) (fun K' hK => ?_)
  go_simp
  refine (kS _ sp3 sm3).mono ?_
  rintro e w4 ⟨c, rfl, hc, sc, b4⟩
  have E4 := E3.below b4 (Nat.le_refl _)
  have R4 := R3.below b4 (Nat.le_refl _)
  have B4 := B3.trans (b4.mono B3.size)
  have sp4 := sp3.below b4 sp3.lt
  have sq4 := sq3.below b4 sq3.lt
  have sm4 := sm3.below b4 sm3.lt
  refine hK _ _ ⟨E4.c0, E4.c1⟩ ?_
  clear hK
  refine oneH 7 rfl (by kernel_rfl) (fun K' hK => ?_)
  go_simp
  refine (kP _ sq4 sm4).mono ?_
  rintro e w5 ⟨d, rfl, hd, sd, b5⟩
  have E5 := E4.below b5 (Nat.le_refl _)
  have R5 := R4.below b5 (Nat.le_refl _)
  have B5 := B4.trans (b5.mono B4.size)
  have sp5 := sp4.below b5 sp4.lt
  have sq5 := sq4.below b5 sq4.lt
  have sm5 := sm4.below b5 sm4.lt
  have sc5 := sc.below b5 sc.lt
  refine hK _ _ ⟨E5.c0, E5.c1⟩ ?_
  clear hK
  have H5 : (fun W => W.cell? ⟨w.heap.size, 0, none⟩ = some (.pointer (some ⟨p, 0, none⟩)) ∧ W.cell? ⟨w.heap.size, 1, none⟩ = some (.pointer (some ⟨q, 0, none⟩))) w5 := ⟨E5.c0, E5.c1⟩
  refine takeH 8 (some 16) (.agg #[.pointer (some ⟨c, 0, none⟩), .pointer (some ⟨d, 0, none⟩)]) rfl rfl (by kernel_rfl) (by kernel_rfl) (by kernel_rfl) (fun _ _ _ h => h) (Or.inl ⟨rfl, fun W hW => by obtain _ := hW; go_simp⟩) (by assumption) ?_
  simp only [Act.put, List.setIfInBounds_toArray, List.set_cons_zero, List.set_cons_succ]
  have hR5 := R5.hi
  have hR3 := R3.hi
  have hR4 := R4.hi
  have E7 := E5.tn ((tnC w5 (w.heap.size + 1) 0 (.pointer (some ⟨c, 0, none⟩))).trans (tnC _ (w.heap.size + 1) 1 (.pointer (some ⟨d, 0, none⟩)))) (fun k hk hs => by simp at hk hs; omega)
  have r0 := R5.c0
  have f0 := R5.f0
  have r1 := R5.c1
  have f1 := R5.f1
  refine oneH 9 rfl (by kernel_rfl) (fun K' hK => ?_)
  go_simp
  refine hK _ _ ⟨E7.c0, E7.c1⟩ ?_
  clear hK
  refine wpAnyH_done (by kernel_rfl) ?_ _
  have HC : Hid (SG _ c _) := sc5.tn ((tnC w5 (w.heap.size + 1) 0 (.pointer (some ⟨c, 0, none⟩))).trans (tnC _ (w.heap.size + 1) 1 (.pointer (some ⟨d, 0, none⟩)))) (fun h => by simp at h; omega)
  have HD : Hid (SG _ d _) := sd.tn ((tnC w5 (w.heap.size + 1) 0 (.pointer (some ⟨c, 0, none⟩))).trans (tnC _ (w.heap.size + 1) 1 (.pointer (some ⟨d, 0, none⟩)))) (fun h => by simp at h; omega)
  have HB : Hid (Below w.heap.size w _) := ((B5.setCell (p := ⟨w.heap.size + 1, 0, none⟩) (by show w.heap.size ≤ w.heap.size + 1; omega) (.pointer (some ⟨c, 0, none⟩))).setCell (p := ⟨w.heap.size + 1, 1, none⟩) (by show w.heap.size ≤ w.heap.size + 1; omega) (.pointer (some ⟨d, 0, none⟩)))
  clear hHeld H5 E1 E3 E4 E5 R1 R3 R4 R5 E7 B1 B3 B4 B5 b4 b5 bd' sc sc5 sd kS kP sp1 sp3 sp4 sp5 sq1 sq3 sq4 sq5 sm1 sm3 sm4 sm5
  go_wp2
  (try simp only [Exit.inBlock, Exit.then])
  refine bodyPost_ret (v := .agg #[.pointer (some ⟨c, 0, none⟩), .pointer (some ⟨d, 0, none⟩)]) ?_ rfl ⟨_, _, rfl, HC.out, HD.out, HB.out⟩
  rw [results_cell1 rfl]
  go_simp


end Go.Proofs.Ytddakeohamefiaa
