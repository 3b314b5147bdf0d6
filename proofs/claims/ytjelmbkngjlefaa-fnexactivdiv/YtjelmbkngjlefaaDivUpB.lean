/- The specification's l4DivUp, by its contract. -/
import Derived.Test.YtjelmbkngjlefaaSWDiv
import Derived.Test.YtjelmbkngjlefaaWB
import Derived.Test.YtjelmbkngjlefaaVB
import Derived.Test.YtjelmbkngjlefaaGB
namespace Go.Proofs.Ytjelmbkngjlefaa
open Go.RowKit
set_option linter.unusedSimpArgs false

theorem div_abs (z D : Int) (hD : 0 < D) : (z / D).natAbs ≤ z.natAbs := by
  rcases Int.le_total 0 z with h | h
  · have a := Int.ediv_le_self D h
    have b := Int.ediv_nonneg h (Int.le_of_lt hD)
    omega
  · have a : z ≤ z / D := by
      rw [Int.le_ediv_iff_mul_le hD]
      have : z * D ≤ z * 1 := Int.mul_le_mul_of_nonpos_left h (by omega)
      omega
    have b := Int.ediv_nonpos_of_nonpos_of_neg h hD
    omega

set_option maxRecDepth 20000 in
set_option maxHeartbeats 3200000 in
theorem sWDivUp (va vb : Value) (x y : Int) (w : World) (ha : rowW w va (mkW x)) (hb : rowW w vb (mkW y)) (hlx : (limbs x.natAbs).length ≤ 10000) (hly : (limbs y.natAbs).length ≤ 10000) (hy : 0 < y) :
    Calls Try.prog 50 #[va, vb] w fun e w' => ∃ v, e = .returned v ∧ ownsW w' w.heap.size v (mkW (-(-x / y))) ∧ Below w.heap.size w w' := by
  have kA := fun W (h : Below w.heap.size w W) => sWNeg va x W (ha.below h (Nat.le_refl _)) (by omega)
  have kB := fun v W (h : Below w.heap.size w W) q => sWDiv v vb (-x) y W q (hb.below h (Nat.le_refl _)) (by rw [Int.natAbs_neg]; exact hlx) hly hy
  have hc : (limbs (-x / y).natAbs).length ≤ 10000 := Nat.le_trans (limbs_len_mono (div_abs (-x) y hy)) (by rw [Int.natAbs_neg]; exact hlx)
  have kC := fun va W h => sWNeg va (-x / y) W h (by omega)
  generalize mkW (-(-x / y)) = m at *
  obtain ⟨n1, l1⟩ := m
  obtain ⟨s, rfl, hs⟩ := ha
  obtain ⟨ad, cap, rfl, -⟩ := id hs
  obtain ⟨t, rfl, ht⟩ := hb
  obtain ⟨bd, cap2, rfl, -⟩ := id ht
  obtain ⟨g, hg⟩ : ∃ g, (mkW x).1 = g := ⟨_, rfl⟩
  obtain ⟨len, hlen⟩ : ∃ l, (mkW x).2.length = l := ⟨_, rfl⟩
  obtain ⟨h, hh⟩ : ∃ g, (mkW y).1 = g := ⟨_, rfl⟩
  obtain ⟨lenb, hlenb⟩ : ∃ l, (mkW y).2.length = l := ⟨_, rfl⟩
  rw [hg, hlen] at kA
  rw [hh, hlenb] at kB
  rw [hg, hlen, hh, hlenb]
  clear hs hg hlen ht hh hlenb hc hlx hly hy
  have s1 : (w.alloc (.cells #[.bool g, .slice ad len cap] 28)).heap.size = w.heap.size + 1 := by simp
  have s2 : ((w.alloc (.cells #[.bool g, .slice ad len cap] 28)).alloc (.cells #[.bool h, .slice bd lenb cap2] 28)).heap.size = w.heap.size + 1 + 1 := by simp
  have X0 := ((BoxW.made w (.bool g) (.slice ad len cap) 28).below (below1 _ (.cells #[.bool h, .slice bd lenb cap2] 28)) (Nat.le_refl _)).below (below1 _ (.cells #[.bool false, .slice none 0 0] 28)) (Nat.le_refl _)
  have Y0 := (BoxW.made (w.alloc (.cells #[.bool g, .slice ad len cap] 28)) (.bool h) (.slice bd lenb cap2) 28).below (below1 _ (.cells #[.bool false, .slice none 0 0] 28)) (Nat.le_refl _)
  rw [s1] at Y0
  have R0 := BoxW.made ((w.alloc (.cells #[.bool g, .slice ad len cap] 28)).alloc (.cells #[.bool h, .slice bd lenb cap2] 28)) (.bool false) (.slice none 0 0) 28
  rw [s2] at R0
  have B0 := below3 w (.cells #[.bool g, .slice ad len cap] 28) (.cells #[.bool h, .slice bd lenb cap2] 28) (.cells #[.bool false, .slice none 0 0] 28)
  clear s1 s2
  go_enter Try.func50, Try.ntmps50
  go_wp2_with fail
  generalize ((w.alloc (.cells #[.bool g, .slice ad len cap] 28)).alloc (.cells #[.bool h, .slice bd lenb cap2] 28)).alloc (.cells #[.bool false, .slice none 0 0] 28) = w0 at *
  have bd2 := (Below.refl w0.heap.size w0).drew
  have X3 := X0.below bd2 (Nat.le_refl _)
  have Y3 := Y0.below bd2 (Nat.le_refl _)
  have R3 := R0.below bd2 (Nat.le_refl _)
  have B3 := B0.trans (bd2.mono B0.size)
  refine wp_region_held_drew (S := fun W => W.cell? ⟨w.heap.size, 0, none⟩ = some (.bool g) ∧ W.cell? ⟨w.heap.size, 1, none⟩ = some (.slice ad len cap) ∧ W.cell? ⟨w.heap.size + 1, 0, none⟩ = some (.bool h) ∧ W.cell? ⟨w.heap.size + 1, 1, none⟩ = some (.slice bd lenb cap2)) (by kernel_rfl) ⟨X3.c0, X3.c1, Y3.c0, Y3.c1⟩ ?_
  intro hHeld
  generalize w0.drew = w3 at *
  refine takeH 0 (some 5) (.agg #[.bool g, .slice ad len cap]) rfl rfl (by kernel_rfl) (by kernel_rfl) (by kernel_rfl) (fun _ _ _ h => h) (Or.inl ⟨rfl, fun W hW => by obtain ⟨_a, _b, _⟩ := hW; go_simp⟩) (by assumption) ?_
  simp only [Act.put, List.setIfInBounds_toArray, List.set_cons_zero, List.set_cons_succ]
  refine takeH 2 (some 7) (.agg #[.bool h, .slice bd lenb cap2]) rfl rfl (by kernel_rfl) (by kernel_rfl) (by kernel_rfl) (fun _ _ _ h => h) (Or.inl ⟨rfl, fun W hW => by obtain ⟨_, _, _a, _b⟩ := hW; go_simp⟩) (by assumption) ?_
  simp only [Act.put, List.setIfInBounds_toArray, List.set_cons_zero, List.set_cons_succ]
  refine oneH 1 rfl (by kernel_rfl) (fun K' hK => ?_)
  go_simp
  refine (kA _ B3).mono ?_
  rintro e w4 ⟨v4, rfl, o4, b4⟩
  have X4 := X3.below b4 (Nat.le_refl _)
  have Y4 := Y3.below b4 (Nat.le_refl _)
  have R4 := R3.below b4 (Nat.le_refl _)
  have B4 := B3.trans (b4.mono B3.size)
  have q4 := o4.row
  refine hK _ _ ⟨X4.c0, X4.c1, Y4.c0, Y4.c1⟩ ?_
  clear hK
  refine oneH 3 rfl (by kernel_rfl) (fun K' hK => ?_)
  go_simp
  refine (kB v4 _ B4 q4).mono ?_
  rintro e w5 ⟨v5, rfl, o5, b5⟩
  have X5 := X4.below b5 (Nat.le_refl _)
  have Y5 := Y4.below b5 (Nat.le_refl _)
  have R5 := R4.below b5 (Nat.le_refl _)
  have B5 := B4.trans (b5.mono B4.size)
  have q5 := o5.row
  refine hK _ _ ⟨X5.c0, X5.c1, Y5.c0, Y5.c1⟩ ?_
  clear hK
  refine oneH 4 rfl (by kernel_rfl) (fun K' hK => ?_)
  go_simp
  refine (kC v5 _ q5).mono ?_
  rintro e w6 ⟨v6, rfl, o6, b6⟩
  have X6 := X5.below b6 (Nat.le_refl _)
  have Y6 := Y5.below b6 (Nat.le_refl _)
  have R6 := R5.below b6 (Nat.le_refl _)
  have B6 := B5.trans (b6.mono B5.size)
  refine hK _ _ ⟨X6.c0, X6.c1, Y6.c0, Y6.c1⟩ ?_
  clear hK
  obtain ⟨s3, rfl, q3⟩ := o6
  obtain ⟨ad3, cp3, rfl, -⟩ := q3.row
  have q3' : ownsI w6 w5.heap.size (.slice ad3 l1.length cp3) l1 := q3
  have hR := R5.hi
  have r0 := R6.c0
  have r1 := R6.c1
  have f0 := R6.f0
  have f1 := R6.f1
  have X7 := X6.tn ((tnC w6 (w.heap.size + 1 + 1) 0 (.bool n1)).trans (tnC _ (w.heap.size + 1 + 1) 1 (.slice ad3 l1.length cp3))) (fun k hk hs => by simp at hk hs; omega)
  have Y7 := Y6.tn ((tnC w6 (w.heap.size + 1 + 1) 0 (.bool n1)).trans (tnC _ (w.heap.size + 1 + 1) 1 (.slice ad3 l1.length cp3))) (fun k hk hs => by simp at hk hs; omega)
  refine oneH 5 rfl (by kernel_rfl) (fun K' hK => ?_)
  go_simp
  refine hK _ _ ⟨X7.c0, X7.c1, Y7.c0, Y7.c1⟩ ?_
  clear hK
  refine wpAnyH_done (by kernel_rfl) ?_ _
  have HO : Hid (ownsI _ w5.heap.size (.slice ad3 l1.length cp3) l1) := ((q3'.other (w.heap.size + 1 + 1) 0 (by omega) (.bool n1)).other (w.heap.size + 1 + 1) 1 (by omega) (.slice ad3 l1.length cp3))
  have HB : Hid (Below w.heap.size w _) := (B6.setCell (p := ⟨w.heap.size + 1 + 1, 0, none⟩) (by show w.heap.size ≤ w.heap.size + 1 + 1; omega) (.bool n1)).setCell (p := ⟨w.heap.size + 1 + 1, 1, none⟩) (by show w.heap.size ≤ w.heap.size + 1 + 1; omega) (.slice ad3 l1.length cp3)
  have hb5 := B5.size
  clear hHeld q4 q5 q3 q3' o4 o5 X0 X3 X4 X5 X6 X7 Y0 Y3 Y4 Y5 Y6 Y7 R0 R3 R4 R5 R6 B0 B3 B4 B5 B6 b4 b5 b6 bd2 kA kB kC
  go_wp2
  (try simp only [Exit.inBlock, Exit.then])
  refine bodyPost_ret (v := .agg #[.bool n1, .slice ad3 l1.length cp3]) ?_ rfl ⟨_, rfl, ⟨_, rfl, ownsI_mono HO.out hb5⟩, HB.out⟩
  rw [results_cell1 rfl]
  go_simp


end Go.Proofs.Ytjelmbkngjlefaa
