/- IvAdd of the specification and of the program, each by its contract. -/
import Derived.Test.YtddakeohamefiaaSVFits
import Derived.Test.YtddakeohamefiaaSIvOk
import Derived.Test.YtddakeohamefiaaSgPM
import Derived.Test.YtddakeohamefiaaWB
import Derived.Test.YtddakeohamefiaaSpans
namespace Go.Proofs.Ytddakeohamefiaa
open Go.RowKit
set_option linter.unusedSimpArgs false

def ivAddR (a b : Vh) : Vh × Bool := if okV a = true ∧ okV b = true then fitV (valW a.1 + valW b.1) (valW a.2 + valW b.2) else (((false, []), (false, [])), false)
theorem ivAddR_len (a b : Vh) : (ivAddR a b).1.1.2.length ≤ 1048576 ∧ (ivAddR a b).1.2.2.length ≤ 1048576 := by
  unfold ivAddR
  split
  · exact fitV_len _ _
  · simp

set_option maxRecDepth 20000 in
set_option maxHeartbeats 6400000 in
theorem sVAdd (va vb : Value) (a b : Vh) (x1 y1 x2 y2 : Int) (w : World) (ha : rowV w va a) (hb : rowV w vb b) (e1 : a.1 = mkW x1) (e2 : a.2 = mkW y1) (e3 : b.1 = mkW x2) (e4 : b.2 = mkW y2) (m1 : (limbs x1.natAbs).length ≤ 48) (m2 : (limbs y1.natAbs).length ≤ 48) (m3 : (limbs x2.natAbs).length ≤ 48) (m4 : (limbs y2.natAbs).length ≤ 48) :
    Calls Try.prog 48 #[va, vb] w fun e w' => ∃ v, e = .returned v ∧ ownsV w' w.heap.size v (mkW (x1 + x2), mkW (y1 + y2)) ∧ Below w.heap.size w w' := by
  have kS : ∀ s u, rowI w s a.1.2 → rowI w u b.1.2 → ∀ W, Below w.heap.size w W → Calls Try.prog 67 #[.agg #[.bool a.1.1, s], .agg #[.bool b.1.1, u]] W fun e w' => ∃ v, e = .returned v ∧ ownsW w' W.heap.size v (mkW (x1 + x2)) ∧ Below W.heap.size W w' :=
    fun s u hs hu W h => sWAdd _ _ x1 x2 W (by rw [← e1]; exact ⟨_, rfl, hs.below h (Nat.le_refl _)⟩) (by rw [← e3]; exact ⟨_, rfl, hu.below h (Nat.le_refl _)⟩) (by omega) (by omega)
  have kP : ∀ t v, rowI w t a.2.2 → rowI w v b.2.2 → ∀ W, Below w.heap.size w W → Calls Try.prog 67 #[.agg #[.bool a.2.1, t], .agg #[.bool b.2.1, v]] W fun e w' => ∃ v, e = .returned v ∧ ownsW w' W.heap.size v (mkW (y1 + y2)) ∧ Below W.heap.size W w' :=
    fun t v ht hv W h => sWAdd _ _ y1 y2 W (by rw [← e2]; exact ⟨_, rfl, ht.below h (Nat.le_refl _)⟩) (by rw [← e4]; exact ⟨_, rfl, hv.below h (Nat.le_refl _)⟩) (by omega) (by omega)
  clear e1 e2 e3 e4 m1 m2 m3 m4
  generalize mkW (x1 + x2) = m1 at *
  generalize mkW (y1 + y2) = m2 at *
  obtain ⟨n1, l1⟩ := m1
  obtain ⟨n2, l2⟩ := m2
  obtain ⟨s, t, rfl, hs, ht⟩ := ha
  obtain ⟨u, v, rfl, hu, hv⟩ := hb
  have kS := kS s u hs hu
  have kP := kP t v ht hv
  obtain ⟨ad, cap, rfl, -⟩ := id hs
  obtain ⟨ae, cbp, rfl, -⟩ := id ht
  obtain ⟨bd, cap2, rfl, -⟩ := id hu
  obtain ⟨be, cbp2, rfl, -⟩ := id hv
  obtain ⟨g, hg⟩ : ∃ g, a.1.1 = g := ⟨_, rfl⟩
  obtain ⟨g', hg'⟩ : ∃ g, a.2.1 = g := ⟨_, rfl⟩
  obtain ⟨h, hh⟩ : ∃ g, b.1.1 = g := ⟨_, rfl⟩
  obtain ⟨h', hh'⟩ : ∃ g, b.2.1 = g := ⟨_, rfl⟩
  obtain ⟨len, hlen⟩ : ∃ l, a.1.2.length = l := ⟨_, rfl⟩
  obtain ⟨len2, hlen2⟩ : ∃ l, a.2.2.length = l := ⟨_, rfl⟩
  obtain ⟨lenb, hlenb⟩ : ∃ l, b.1.2.length = l := ⟨_, rfl⟩
  obtain ⟨lenb2, hlenb2⟩ : ∃ l, b.2.2.length = l := ⟨_, rfl⟩
  rw [hg, hh, hlen, hlenb] at kS
  rw [hg', hh', hlen2, hlenb2] at kP
  rw [hg, hg', hh, hh', hlen, hlen2, hlenb, hlenb2]
  clear hs ht hu hv hg hg' hh hh' hlen hlen2 hlenb hlenb2
  have s1 : (w.alloc (.cells #[.bool g, .slice ad len cap, .bool g', .slice ae len2 cbp] 28)).heap.size = w.heap.size + 1 := by simp
  have s2 : ((w.alloc (.cells #[.bool g, .slice ad len cap, .bool g', .slice ae len2 cbp] 28)).alloc (.cells #[.bool h, .slice bd lenb cap2, .bool h', .slice be lenb2 cbp2] 28)).heap.size = w.heap.size + 1 + 1 := by simp
  have X0 := ((BoxV.made w (.bool g) (.slice ad len cap) (.bool g') (.slice ae len2 cbp) 28).below (below1 _ (.cells #[.bool h, .slice bd lenb cap2, .bool h', .slice be lenb2 cbp2] 28)) (Nat.le_refl _)).below (below1 _ (.cells #[.bool false, .slice none 0 0, .bool false, .slice none 0 0] 28)) (Nat.le_refl _)
  have Y0 := (BoxV.made (w.alloc (.cells #[.bool g, .slice ad len cap, .bool g', .slice ae len2 cbp] 28)) (.bool h) (.slice bd lenb cap2) (.bool h') (.slice be lenb2 cbp2) 28).below (below1 _ (.cells #[.bool false, .slice none 0 0, .bool false, .slice none 0 0] 28)) (Nat.le_refl _)
  rw [s1] at Y0
  have R0 := BoxV.made ((w.alloc (.cells #[.bool g, .slice ad len cap, .bool g', .slice ae len2 cbp] 28)).alloc (.cells #[.bool h, .slice bd lenb cap2, .bool h', .slice be lenb2 cbp2] 28)) (.bool false) (.slice none 0 0) (.bool false) (.slice none 0 0) 28
  rw [s2] at R0
  have B0 := below3 w (.cells #[.bool g, .slice ad len cap, .bool g', .slice ae len2 cbp] 28) (.cells #[.bool h, .slice bd lenb cap2, .bool h', .slice be lenb2 cbp2] 28) (.cells #[.bool false, .slice none 0 0, .bool false, .slice none 0 0] 28)
  clear s1 s2
  go_enter Try.func48, Try.ntmps48
  go_wp2_with fail
  generalize ((w.alloc (.cells #[.bool g, .slice ad len cap, .bool g', .slice ae len2 cbp] 28)).alloc (.cells #[.bool h, .slice bd lenb cap2, .bool h', .slice be lenb2 cbp2] 28)).alloc (.cells #[.bool false, .slice none 0 0, .bool false, .slice none 0 0] 28) = w1 at *
  have bd' := (Below.refl w1.heap.size w1).drew
  have X2 := X0.below bd' (Nat.le_refl _)
  have Y2 := Y0.below bd' (Nat.le_refl _)
  have R2 := R0.below bd' (Nat.le_refl _)
  have B2 := B0.trans (bd'.mono B0.size)
  refine wp_region_held_drew (S := fun W => W.cell? ⟨w.heap.size, 0, none⟩ = some (.bool g) ∧ W.cell? ⟨w.heap.size, 1, none⟩ = some (.slice ad len cap) ∧ W.cell? ⟨w.heap.size, 2, none⟩ = some (.bool g') ∧ W.cell? ⟨w.heap.size, 3, none⟩ = some (.slice ae len2 cbp) ∧ W.cell? ⟨w.heap.size + 1, 0, none⟩ = some (.bool h) ∧ W.cell? ⟨w.heap.size + 1, 1, none⟩ = some (.slice bd lenb cap2) ∧ W.cell? ⟨w.heap.size + 1, 2, none⟩ = some (.bool h') ∧ W.cell? ⟨w.heap.size + 1, 3, none⟩ = some (.slice be lenb2 cbp2)) (by kernel_rfl) ⟨X2.c0, X2.c1, X2.c2, X2.c3, Y2.c0, Y2.c1, Y2.c2, Y2.c3⟩ ?_
  intro hHeld
  generalize w1.drew = w2 at *
  refine takeH 0 (some 5) (.pointer (some ⟨w.heap.size, 0, none⟩)) rfl rfl (by kernel_rfl) (by kernel_rfl) (by kernel_rfl) (fun _ _ _ h => h) (Or.inl ⟨rfl, fun W hW => by obtain _ := hW; go_simp⟩) (by assumption) ?_
  simp only [Act.put, List.setIfInBounds_toArray, List.set_cons_zero, List.set_cons_succ]
  refine takeH 1 (some 6) (.agg #[.bool g, .slice ad len cap]) rfl rfl (by kernel_rfl) (by kernel_rfl) (by kernel_rfl) (fun _ _ _ h => h) (Or.inl ⟨rfl, fun W hW => by obtain ⟨_a, _b, _⟩ := hW; go_simp⟩) (by assumption) ?_
  simp only [Act.put, List.setIfInBounds_toArray, List.set_cons_zero, List.set_cons_succ]
  refine takeH 2 (some 7) (.pointer (some ⟨w.heap.size + 1, 0, none⟩)) rfl rfl (by kernel_rfl) (by kernel_rfl) (by kernel_rfl) (fun _ _ _ h => h) (Or.inl ⟨rfl, fun W hW => by obtain _ := hW; go_simp⟩) (by assumption) ?_
  simp only [Act.put, List.setIfInBounds_toArray, List.set_cons_zero, List.set_cons_succ]
  refine takeH 3 (some 8) (.agg #[.bool h, .slice bd lenb cap2]) rfl rfl (by kernel_rfl) (by kernel_rfl) (by kernel_rfl) (fun _ _ _ h => h) (Or.inl ⟨rfl, fun W hW => by obtain ⟨_, _, _, _, _a, _b, _⟩ := hW; go_simp⟩) (by assumption) ?_
  simp only [Act.put, List.setIfInBounds_toArray, List.set_cons_zero, List.set_cons_succ]
  refine takeH 5 (some 10) (.pointer (some ⟨w.heap.size, 2, none⟩)) rfl rfl (by kernel_rfl) (by kernel_rfl) (by kernel_rfl) (fun _ _ _ h => h) (Or.inl ⟨rfl, fun W hW => by obtain _ := hW; go_simp⟩) (by assumption) ?_
  simp only [Act.put, List.setIfInBounds_toArray, List.set_cons_zero, List.set_cons_succ]
  refine takeH 6 (some 11) (.agg #[.bool g', .slice ae len2 cbp]) rfl rfl (by kernel_rfl) (by kernel_rfl) (by kernel_rfl) (fun _ _ _ h => h) (Or.inl ⟨rfl, fun W hW => by obtain ⟨_, _, _a, _b, _⟩ := hW; go_simp⟩) (by assumption) ?_
  simp only [Act.put, List.setIfInBounds_toArray, List.set_cons_zero, List.set_cons_succ]
  refine takeH 7 (some 12) (.pointer (some ⟨w.heap.size + 1, 2, none⟩)) rfl rfl (by kernel_rfl) (by kernel_rfl) (by kernel_rfl) (fun _ _ _ h => h) (Or.inl ⟨rfl, fun W hW => by obtain _ := hW; go_simp⟩) (by assumption) ?_
  simp only [Act.put, List.setIfInBounds_toArray, List.set_cons_zero, List.set_cons_succ]
  refine takeH 8 (some 13) (.agg #[.bool h', .slice be lenb2 cbp2]) rfl rfl (by kernel_rfl) (by kernel_rfl) (by kernel_rfl) (fun _ _ _ h => h) (Or.inl ⟨rfl, fun W hW => by obtain ⟨_, _, _, _, _, _, _a, _b⟩ := hW; go_simp⟩) (by assumption) ?_
  simp only [Act.put, List.setIfInBounds_toArray, List.set_cons_zero, List.set_cons_succ]
  refine oneH 4 rfl (by kernel_rfl) (fun K' hK => ?_)
  go_simp
  refine (kS _ B2).mono ?_
  rintro e w4 ⟨v4, rfl, o4, b4⟩
  obtain ⟨s3, rfl, q3⟩ := o4
  obtain ⟨ad3, cp3, rfl, -⟩ := q3.row
  have qq4 : ownsI w4 w2.heap.size (.slice ad3 l1.length cp3) l1 := q3
  have X4 := X2.below b4 (Nat.le_refl _)
  have Y4 := Y2.below b4 (Nat.le_refl _)
  have R4 := R2.below b4 (Nat.le_refl _)
  have B4 := B2.trans (b4.mono B2.size)
  refine hK _ _ ⟨X4.c0, X4.c1, X4.c2, X4.c3, Y4.c0, Y4.c1, Y4.c2, Y4.c3⟩ ?_
  clear hK
  refine oneH 9 rfl (by kernel_rfl) (fun K' hK => ?_)
  go_simp
  refine (kP _ B4).mono ?_
  rintro e w6 ⟨v6, rfl, o6, b6⟩
  have X6 := X4.below b6 (Nat.le_refl _)
  have Y6 := Y4.below b6 (Nat.le_refl _)
  have R6 := R4.below b6 (Nat.le_refl _)
  have B6 := B4.trans (b6.mono B4.size)
  refine hK _ _ ⟨X6.c0, X6.c1, X6.c2, X6.c3, Y6.c0, Y6.c1, Y6.c2, Y6.c3⟩ ?_
  clear hK
  obtain ⟨s4, rfl, q4⟩ := o6
  obtain ⟨ad4, cp4, rfl, -⟩ := q4.row
  have q3' := ownsI.below qq4 b6 (Nat.le_refl _)
  have q4' : ownsI w6 w4.heap.size (.slice ad4 l2.length cp4) l2 := q4
  have hap : Apart (blkI (.slice ad3 l1.length cp3)) (blkI (.slice ad4 l2.length cp4)) := apart_of (fun k hk => (qq4.ltb k hk).2) (fun k hk => (q4'.ltb k hk).1)
  have hh2 := R2.hi
  have hh4 := R4.hi
  have r0 := R6.c0
  have f0 := R6.f0
  have r1 := R6.c1
  have f1 := R6.f1
  have r2 := R6.c2
  have f2 := R6.f2
  have r3 := R6.c3
  have f3 := R6.f3
  have H6 : (fun W => W.cell? ⟨w.heap.size, 0, none⟩ = some (.bool g) ∧ W.cell? ⟨w.heap.size, 1, none⟩ = some (.slice ad len cap) ∧ W.cell? ⟨w.heap.size, 2, none⟩ = some (.bool g') ∧ W.cell? ⟨w.heap.size, 3, none⟩ = some (.slice ae len2 cbp) ∧ W.cell? ⟨w.heap.size + 1, 0, none⟩ = some (.bool h) ∧ W.cell? ⟨w.heap.size + 1, 1, none⟩ = some (.slice bd lenb cap2) ∧ W.cell? ⟨w.heap.size + 1, 2, none⟩ = some (.bool h') ∧ W.cell? ⟨w.heap.size + 1, 3, none⟩ = some (.slice be lenb2 cbp2)) w6 := ⟨X6.c0, X6.c1, X6.c2, X6.c3, Y6.c0, Y6.c1, Y6.c2, Y6.c3⟩
  refine takeH 10 (some 15) (.agg #[.bool n1, .slice ad3 l1.length cp3, .bool n2, .slice ad4 l2.length cp4]) rfl rfl (by kernel_rfl) (by kernel_rfl) (by kernel_rfl) (fun _ _ _ h => h) (Or.inl ⟨rfl, fun W hW => by obtain _ := hW; go_simp⟩) (by assumption) ?_
  simp only [Act.put, List.setIfInBounds_toArray, List.set_cons_zero, List.set_cons_succ]
  have X7 := X6.tn ((((tnC w6 (w.heap.size + 1 + 1) 0 (.bool n1)).trans (tnC _ (w.heap.size + 1 + 1) 1 (.slice ad3 l1.length cp3))).trans (tnC _ (w.heap.size + 1 + 1) 2 (.bool n2))).trans (tnC _ (w.heap.size + 1 + 1) 3 (.slice ad4 l2.length cp4))) (fun k hk hs => by simp at hk hs; omega)
  have Y7 := Y6.tn ((((tnC w6 (w.heap.size + 1 + 1) 0 (.bool n1)).trans (tnC _ (w.heap.size + 1 + 1) 1 (.slice ad3 l1.length cp3))).trans (tnC _ (w.heap.size + 1 + 1) 2 (.bool n2))).trans (tnC _ (w.heap.size + 1 + 1) 3 (.slice ad4 l2.length cp4))) (fun k hk hs => by simp at hk hs; omega)
  refine oneH 11 rfl (by kernel_rfl) (fun K' hK => ?_)
  go_simp
  refine hK _ _ ⟨X7.c0, X7.c1, X7.c2, X7.c3, Y7.c0, Y7.c1, Y7.c2, Y7.c3⟩ ?_
  refine wpAnyH_done (by kernel_rfl) ?_ _
  have HA : Hid (ownsI _ w2.heap.size (.slice ad3 l1.length cp3) l1) := ((((q3'.other (w.heap.size + 1 + 1) 0 (by omega) (.bool n1)).other (w.heap.size + 1 + 1) 1 (by omega) (.slice ad3 l1.length cp3)).other (w.heap.size + 1 + 1) 2 (by omega) (.bool n2)).other (w.heap.size + 1 + 1) 3 (by omega) (.slice ad4 l2.length cp4))
  have HZ : Hid (ownsI _ w4.heap.size (.slice ad4 l2.length cp4) l2) := ((((q4'.other (w.heap.size + 1 + 1) 0 (by omega) (.bool n1)).other (w.heap.size + 1 + 1) 1 (by omega) (.slice ad3 l1.length cp3)).other (w.heap.size + 1 + 1) 2 (by omega) (.bool n2)).other (w.heap.size + 1 + 1) 3 (by omega) (.slice ad4 l2.length cp4))
  have HB : Hid (Below w.heap.size w _) := ((((B6.setCell (p := ⟨w.heap.size + 1 + 1, 0, none⟩) (by show w.heap.size ≤ w.heap.size + 1 + 1; omega) (.bool n1)).setCell (p := ⟨w.heap.size + 1 + 1, 1, none⟩) (by show w.heap.size ≤ w.heap.size + 1 + 1; omega) (.slice ad3 l1.length cp3)).setCell (p := ⟨w.heap.size + 1 + 1, 2, none⟩) (by show w.heap.size ≤ w.heap.size + 1 + 1; omega) (.bool n2)).setCell (p := ⟨w.heap.size + 1 + 1, 3, none⟩) (by show w.heap.size ≤ w.heap.size + 1 + 1; omega) (.slice ad4 l2.length cp4))
  have HP : Hid (Apart (blkI (.slice ad3 l1.length cp3)) (blkI (.slice ad4 l2.length cp4))) := hap
  have hb2 := B2.size
  have hb4 := B4.size
  clear hK hHeld H6 q3 q4 q3' q4' qq4 X0 X2 X4 X6 X7 Y0 Y2 Y4 Y6 Y7 R0 R2 R4 R6 B0 B2 B4 B6 b4 b6 kS kP hap bd'
  go_wp2
  (try simp only [Exit.inBlock, Exit.then])
  refine bodyPost_ret (v := .agg #[.bool n1, .slice ad3 l1.length cp3, .bool n2, .slice ad4 l2.length cp4]) ?_ rfl ⟨_, rfl, ⟨_, _, rfl, ownsI_mono HA.out hb2, ownsI_mono HZ.out hb4, HP.out⟩, HB.out⟩
  rw [results_cell1 rfl]
  go_simp

end Go.Proofs.Ytddakeohamefiaa
