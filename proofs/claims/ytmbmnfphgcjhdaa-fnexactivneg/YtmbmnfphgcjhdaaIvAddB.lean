/- IvAdd of the specification and of the program, each by its contract. -/
import Derived.Test.YtmbmnfphgcjhdaaSVFits
import Derived.Test.YtmbmnfphgcjhdaaSIvOk
import Derived.Test.YtmbmnfphgcjhdaaGTop
import Derived.Test.YtmbmnfphgcjhdaaWTop
import Derived.Test.YtmbmnfphgcjhdaaVTop
namespace Go.Proofs.Ytmbmnfphgcjhdaa
open Go.RowKit
set_option linter.unusedSimpArgs false

def ivAddR (a b : Vh) : Vh × Bool := if okV a = true ∧ okV b = true then fitV (valW a.1 + valW b.1) (valW a.2 + valW b.2) else (((false, []), (false, [])), false)
theorem ivAddR_len (a b : Vh) : (ivAddR a b).1.1.2.length ≤ 1048576 ∧ (ivAddR a b).1.2.2.length ≤ 1048576 := by
  unfold ivAddR
  split
  · exact fitV_len _ _
  · simp

set_option maxRecDepth 20000 in
set_option maxHeartbeats 6400000 in
theorem sVAdd (va vb : Value) (a b : Vh) (x1 y1 x2 y2 : Int) (w : World) (ha : rowV w va a) (hb : rowV w vb b) (e1 : a.1 = mkW x1) (e2 : a.2 = mkW y1) (e3 : b.1 = mkW x2) (e4 : b.2 = mkW y2) (m1 : (limbs x1.natAbs).length ≤ 48) (m2 : (limbs y1.natAbs).length ≤ 48) (m3 : (limbs x2.natAbs).length ≤ 48) (m4 : (limbs y2.natAbs).length ≤ 48) :
    Calls Try.prog 54 #[va, vb] w fun e w' => ∃ v, e = .returned v ∧ ownsV w' w.heap.size v (mkW (x1 + x2), mkW (y1 + y2)) ∧ Below w.heap.size w w' := by
  have kS : ∀ s u, rowI w s a.1.2 → rowI w u b.1.2 → ∀ W, Below w.heap.size w W → Calls Try.prog 81 #[.agg #[.bool a.1.1, s], .agg #[.bool b.1.1, u]] W fun e w' => ∃ v, e = .returned v ∧ ownsW w' W.heap.size v (mkW (x1 + x2)) ∧ Below W.heap.size W w' :=
    fun s u hs hu W h => sWAdd _ _ x1 x2 W (by rw [← e1]; exact ⟨_, rfl, hs.below h (Nat.le_refl _)⟩) (by rw [← e3]; exact ⟨_, rfl, hu.below h (Nat.le_refl _)⟩) (by omega) (by omega)
  have kP : ∀ t v, rowI w t a.2.2 → rowI w v b.2.2 → ∀ W, Below w.heap.size w W → Calls Try.prog 81 #[.agg #[.bool a.2.1, t], .agg #[.bool b.2.1, v]] W fun e w' => ∃ v, e = .returned v ∧ ownsW w' W.heap.size v (mkW (y1 + y2)) ∧ Below W.heap.size W w' :=
    fun t v ht hv W h => sWAdd _ _ y1 y2 W (by rw [← e2]; exact ⟨_, rfl, ht.below h (Nat.le_refl _)⟩) (by rw [← e4]; exact ⟨_, rfl, hv.below h (Nat.le_refl _)⟩) (by omega) (by omega)
  clear e1 e2 e3 e4 m1 m2 m3 m4
  generalize mkW (x1 + x2) = m1 at *
  generalize mkW (y1 + y2) = m2 at *
  obtain ⟨n1, l1⟩ := m1
  obtain ⟨n2, l2⟩ := m2
  obtain ⟨s, t, rfl, hs, ht⟩ := ha
  obtain ⟨u, v, rfl, hu, hv⟩ := hb
  have kS := kS s u hs hu
  have kP := kP t v ht hv
  obtain ⟨ad, cap, rfl, -⟩ := id hs
  obtain ⟨ae, cbp, rfl, -⟩ := id ht
  obtain ⟨bd, cap2, rfl, -⟩ := id hu
  obtain ⟨be, cbp2, rfl, -⟩ := id hv
  obtain ⟨g, hg⟩ : ∃ g, a.1.1 = g := ⟨_, rfl⟩
  obtain ⟨g', hg'⟩ : ∃ g, a.2.1 = g := ⟨_, rfl⟩
  obtain ⟨h, hh⟩ : ∃ g, b.1.1 = g := ⟨_, rfl⟩
  obtain ⟨h', hh'⟩ : ∃ g, b.2.1 = g := ⟨_, rfl⟩
  obtain ⟨len, hlen⟩ : ∃ l, a.1.2.length = l := ⟨_, rfl⟩
  obtain ⟨len2, hlen2⟩ : ∃ l, a.2.2.length = l := ⟨_, rfl⟩
  obtain ⟨lenb, hlenb⟩ : ∃ l, b.1.2.length = l := ⟨_, rfl⟩
  obtain ⟨lenb2, hlenb2⟩ : ∃ l, b.2.2.length = l := ⟨_, rfl⟩
  rw [hg, hh, hlen, hlenb] at kS
  rw [hg', hh', hlen2, hlenb2] at kP
  rw [hg, hg', hh, hh', hlen, hlen2, hlenb, hlenb2]
  clear hs ht hu hv hg hg' hh hh' hlen hlen2 hlenb hlenb2
  have s1 : (w.alloc (.cells #[.bool g, .slice ad len cap, .bool g', .slice ae len2 cbp] 28)).heap.size = w.heap.size + 1 := by simp
  have s2 : ((w.alloc (.cells #[.bool g, .slice ad len cap, .bool g', .slice ae len2 cbp] 28)).alloc (.cells #[.bool h, .slice bd lenb cap2, .bool h', .slice be lenb2 cbp2] 28)).heap.size = w.heap.size + 1 + 1 := by simp
  have X0 := ((BoxV.made w (.bool g) (.slice ad len cap) (.bool g') (.slice ae len2 cbp) 28).below (below1 _ (.cells #[.bool h, .slice bd lenb cap2, .bool h', .slice be lenb2 cbp2] 28)) (Nat.le_refl _)).below (below1 _ (.cells #[.bool false, .slice none 0 0, .bool false, .slice none 0 0] 28)) (Nat.le_refl _)
  have Y0 := (BoxV.made (w.alloc (.cells #[.bool g, .slice ad len cap, .bool g', .slice ae len2 cbp] 28)) (.bool h) (.slice bd lenb cap2) (.bool h') (.slice be lenb2 cbp2) 28).below (below1 _ (.cells #[.bool false, .slice none 0 0, .bool false, .slice none 0 0] 28)) (Nat.le_refl _)
  rw [s1] at Y0
  have R0 := BoxV.made ((w.alloc (.cells #[.bool g, .slice ad len cap, .bool g', .slice ae len2 cbp] 28)).alloc (.cells #[.bool h, .slice bd lenb cap2, .bool h', .slice be lenb2 cbp2] 28)) (.bool false) (.slice none 0 0) (.bool false) (.slice none 0 0) 28
  rw [s2] at R0
  have B0 := below3 w (.cells #[.bool g, .slice ad len cap, .bool g', .slice ae len2 cbp] 28) (.cells #[.bool h, .slice bd lenb cap2, .bool h', .slice be lenb2 cbp2] 28) (.cells #[.bool false, .slice none 0 0, .bool false, .slice none 0 0] 28)
  clear s1 s2
  go_enter Try.func54, Try.ntmps54
  go_wp2_with fail
  generalize ((w.alloc (.cells #[.bool g, .slice ad len cap, .bool g', .slice ae len2 cbp] 28)).alloc (.cells #[.bool h, .slice bd lenb cap2, .bool h', .slice be lenb2 cbp2] 28)).alloc (.cells #[.bool false, .slice none 0 0, .bool false, .slice none 0 0] 28) = w1 at *
  have bd' := (Below.refl w1.heap.size w1).drew
  have X2 := X0.below bd' (Nat.le_refl _)
  have Y2 := Y0.below bd' (Nat.le_refl _)
  have R2 := R0.below bd' (Nat.le_refl _)
  have B2 := B0.trans (bd'.mono B0.size)
  refine wp_region_held_drew (S := fun W => W.cell? ⟨w.heap.size, 0, none⟩ = some (.bool g) ∧ W.cell? ⟨w.heap.size, 1, none⟩ = some (.slice ad len cap) ∧ W.cell? ⟨w.heap.size, 2, none⟩ = some (.bool g') ∧ W.cell? ⟨w.heap.size, 3, none⟩ = some (.slice ae len2 cbp) ∧ W.cell? ⟨w.heap.size + 1, 0, none⟩ = some (.bool h) ∧ W.cell? ⟨w.heap.size + 1, 1, none⟩ = some (.slice bd lenb cap2) ∧ W.cell? ⟨w.heap.size + 1, 2, none⟩ = some (.bool h') ∧ W.cell? ⟨w.heap.size + 1, 3, none⟩ = some (.slice be lenb2 cbp2)) (by kernel_rfl) ⟨X2.c0, X2.c1, X2.c2, X2.c3, Y2.c0, Y2.c1, Y2.c2, Y2.c3⟩ ?_
  intro hHeld
  generalize w1.drew = w2 at *
  refine takeH 0 (some 5) (.pointer (some ⟨w.heap.size, 0, none⟩)) rfl rfl (by kernel_rfl) (by kernel_rfl) (by kernel_rfl) (fun _ _ _ h => h) (Or.inl ⟨rfl, fun W hW => by obtain _ := hW; go_simp⟩) (by assumption) ?_
  simp only [Act.put, List.setIfInBounds_toArray, List.set_cons_zero, List.set_cons_succ]
  refine takeH 1 (some 6) (.agg #[.bool g, .slice ad len cap]) rfl rfl (by kernel_rfl) (by kernel_rfl) (by kernel_rfl) (fun _ _ _ h => h) (Or.inl ⟨rfl, fun W hW => by obtain ⟨_a, _b, _⟩ := hW; go_simp⟩) (by assumption) ?_
  simp only [Act.put, List.setIfInBounds_toArray, List.set_cons_zero, List.set_cons_succ]
  refine takeH 2 (some 7) (.pointer (some ⟨w.heap.size + 1, 0, none⟩)) rfl rfl (by kernel_rfl) (by kernel_rfl) (by kernel_rfl) (fun _ _ _ h => h) (Or.inl ⟨rfl, fun W hW => by obtain _ := hW; go_simp⟩) (by assumption) ?_
  simp only [Act.put, List.setIfInBounds_toArray, List.set_cons_zero, List.set_cons_succ]
  refine takeH 3 (some 8) (.agg #[.bool h, .slice bd lenb cap2]) rfl rfl (by kernel_rfl) (by kernel_rfl) (by kernel_rfl) (fun _ _ _ h => h) (Or.inl ⟨rfl, fun W hW => by obtain ⟨_, _, _, _, _a, _b, _⟩ := hW; go_simp⟩) (by assumption) ?_
  simp only [Act.put, List.setIfInBounds_toArray, List.set_cons_zero, List.set_cons_succ]
  refine takeH 5 (some 10) (.pointer (some ⟨w.heap.size, 2, none⟩)) rfl rfl (by kernel_rfl) (by kernel_rfl) (by kernel_rfl) (fun _ _ _ h => h) (Or.inl ⟨rfl, fun W hW => by obtain _ := hW; go_simp⟩) (by assumption) ?_
  simp only [Act.put, List.setIfInBounds_toArray, List.set_cons_zero, List.set_cons_succ]
  refine takeH 6 (some 11) (.agg #[.bool g', .slice ae len2 cbp]) rfl rfl (by kernel_rfl) (by kernel_rfl) (by kernel_rfl) (fun _ _ _ h => h) (Or.inl ⟨rfl, fun W hW => by obtain ⟨_, _, _a, _b, _⟩ := hW; go_simp⟩) (by assumption) ?_
  simp only [Act.put, List.setIfInBounds_toArray, List.set_cons_zero, List.set_cons_succ]
  refine takeH 7 (some 12) (.pointer (some ⟨w.heap.size + 1, 2, none⟩)) rfl rfl (by kernel_rfl) (by kernel_rfl) (by kernel_rfl) (fun _ _ _ h => h) (Or.inl ⟨rfl, fun W hW => by obtain _ := hW; go_simp⟩) (by assumption) ?_
  simp only [Act.put, List.setIfInBounds_toArray, List.set_cons_zero, List.set_cons_succ]
  refine takeH 8 (some 13) (.agg #[.bool h', .slice be lenb2 cbp2]) rfl rfl (by kernel_rfl) (by kernel_rfl) (by kernel_rfl) (fun _ _ _ h => h) (Or.inl ⟨rfl, fun W hW => by obtain ⟨_, _, _, _, _, _, _a, _b⟩ := hW; go_simp⟩) (by assumption) ?_
  simp only [Act.put, List.setIfInBounds_toArray, List.set_cons_zero, List.set_cons_succ]
  refine oneH 4 rfl (by kernel_rfl) (fun K' hK => ?_)
  go_simp
  refine (kS _ B2).mono ?_
  rintro e w4 ⟨v4, rfl, o4, b4⟩
  obtain ⟨s3, rfl, q3⟩ := o4
  obtain ⟨ad3, cp3, rfl, -⟩ := q3.row
  have qq4 : ownsI w4 w2.heap.size (.slice ad3 l1.length cp3) l1 := q3
  have X4 := X2.below b4 (Nat.le_refl _)
  have Y4 := Y2.below b4 (Nat.le_refl _)
  have R4 := R2.below b4 (Nat.le_refl _)
  have B4 := B2.trans (b4.mono B2.size)
  refine hK _ _ ⟨X4.c0, X4.c1, X4.c2, X4.c3, Y4.c0, Y4.c1, Y4.c2, Y4.c3⟩ ?_
  clear hK
  refine oneH 9 rfl (by kernel_rfl) (fun K' hK => ?_)
  go_simp
  refine (kP _ B4).mono ?_
  rintro e w6 ⟨v6, rfl, o6, b6⟩
  have X6 := X4.below b6 (Nat.le_refl _)
  have Y6 := Y4.below b6 (Nat.le_refl _)
  have R6 := R4.below b6 (Nat.le_refl _)
  have B6 := B4.trans (b6.mono B4.size)
  refine hK _ _ ⟨X6.c0, X6.c1, X6.c2, X6.c3, Y6.c0, Y6.c1, Y6.c2, Y6.c3⟩ ?_
  clear hK
  obtain ⟨s4, rfl, q4⟩ := o6
  obtain ⟨ad4, cp4, rfl, -⟩ := q4.row
  have q3' := ownsI.below qq4 b6 (Nat.le_refl _)
  have q4' : ownsI w6 w4.heap.size (.slice ad4 l2.length cp4) l2 := q4
  have hap : Apart (blkI (.slice ad3 l1.length cp3)) (blkI (.slice ad4 l2.length cp4)) := apart_of (fun k hk => (qq4.ltb k hk).2) (fun k hk => (q4'.ltb k hk).1)
  have hh2 := R2.hi
  have hh4 := R4.hi
  have r0 := R6.c0
  have f0 := R6.f0
  have r1 := R6.c1
  have f1 := R6.f1
  have r2 := R6.c2
  have f2 := R6.f2
  have r3 := R6.c3
  have f3 := R6.f3
  have H6 : (fun W => W.cell? ⟨w.heap.size, 0, none⟩ = some (.bool g) ∧ W.cell? ⟨w.heap.size, 1, none⟩ = some (.slice ad len cap) ∧ W.cell? ⟨w.heap.size, 2, none⟩ = some (.bool g') ∧ W.cell? ⟨w.heap.size, 3, none⟩ = some (.slice ae len2 cbp) ∧ W.cell? ⟨w.heap.size + 1, 0, none⟩ = some (.bool h) ∧ W.cell? ⟨w.heap.size + 1, 1, none⟩ = some (.slice bd lenb cap2) ∧ W.cell? ⟨w.heap.size + 1, 2, none⟩ = some (.bool h') ∧ W.cell? ⟨w.heap.size + 1, 3, none⟩ = some (.slice be lenb2 cbp2)) w6 := ⟨X6.c0, X6.c1, X6.c2, X6.c3, Y6.c0, Y6.c1, Y6.c2, Y6.c3⟩
  refine takeH 10 (some 15) (.agg #[.bool n1, .slice ad3 l1.length cp3, .bool n2, .slice ad4 l2.length cp4]) rfl rfl (by kernel_rfl) (by kernel_rfl) (by kernel_rfl) (fun _ _ _ h => h) (Or.inl ⟨rfl, fun W hW => by obtain _ := hW; go_simp⟩) (by assumption) ?_
  simp only [Act.put, List.setIfInBounds_toArray, List.set_cons_zero, List.set_cons_succ]
  have X7 := X6.tn ((((tnC w6 (w.heap.size + 1 + 1) 0 (.bool n1)).trans (tnC _ (w.heap.size + 1 + 1) 1 (.slice ad3 l1.length cp3))).trans (tnC _ (w.heap.size + 1 + 1) 2 (.bool n2))).trans (tnC _ (w.heap.size + 1 + 1) 3 (.slice ad4 l2.length cp4))) (fun k hk hs => by simp at hk hs; omega)
  have Y7 := Y6.tn ((((tnC w6 (w.heap.size + 1 + 1) 0 (.bool n1)).trans (tnC _ (w.heap.size + 1 + 1) 1 (.slice ad3 l1.length cp3))).trans (tnC _ (w.heap.size + 1 + 1) 2 (.bool n2))).trans (tnC _ (w.heap.size + 1 + 1) 3 (.slice ad4 l2.length cp4))) (fun k hk hs => by simp at hk hs; omega)
  refine oneH 11 rfl (by kernel_rfl) (fun K' hK => ?_)
  go_simp
  refine hK _ _ ⟨X7.c0, X7.c1, X7.c2, X7.c3, Y7.c0, Y7.c1, Y7.c2, Y7.c3⟩ ?_
  refine wpAnyH_done (by kernel_rfl) ?_ _
  have HA : Hid (ownsI _ w2.heap.size (.slice ad3 l1.length cp3) l1) := ((((q3'.other (w.heap.size + 1 + 1) 0 (by omega) (.bool n1)).other (w.heap.size + 1 + 1) 1 (by omega) (.slice ad3 l1.length cp3)).other (w.heap.size + 1 + 1) 2 (by omega) (.bool n2)).other (w.heap.size + 1 + 1) 3 (by omega) (.slice ad4 l2.length cp4))
  have HZ : Hid (ownsI _ w4.heap.size (.slice ad4 l2.length cp4) l2) := ((((q4'.other (w.heap.size + 1 + 1) 0 (by omega) (.bool n1)).other (w.heap.size + 1 + 1) 1 (by omega) (.slice ad3 l1.length cp3)).other (w.heap.size + 1 + 1) 2 (by omega) (.bool n2)).other (w.heap.size + 1 + 1) 3 (by omega) (.slice ad4 l2.length cp4))
  have HB : Hid (Below w.heap.size w _) := ((((B6.setCell (p := ⟨w.heap.size + 1 + 1, 0, none⟩) (by show w.heap.size ≤ w.heap.size + 1 + 1; omega) (.bool n1)).setCell (p := ⟨w.heap.size + 1 + 1, 1, none⟩) (by show w.heap.size ≤ w.heap.size + 1 + 1; omega) (.slice ad3 l1.length cp3)).setCell (p := ⟨w.heap.size + 1 + 1, 2, none⟩) (by show w.heap.size ≤ w.heap.size + 1 + 1; omega) (.bool n2)).setCell (p := ⟨w.heap.size + 1 + 1, 3, none⟩) (by show w.heap.size ≤ w.heap.size + 1 + 1; omega) (.slice ad4 l2.length cp4))
  have HP : Hid (Apart (blkI (.slice ad3 l1.length cp3)) (blkI (.slice ad4 l2.length cp4))) := hap
  have hb2 := B2.size
  have hb4 := B4.size
  clear hK hHeld H6 q3 q4 q3' q4' qq4 X0 X2 X4 X6 X7 Y0 Y2 Y4 Y6 Y7 R0 R2 R4 R6 B0 B2 B4 B6 b4 b6 kS kP hap bd'
  go_wp2
  (try simp only [Exit.inBlock, Exit.then])
  refine bodyPost_ret (v := .agg #[.bool n1, .slice ad3 l1.length cp3, .bool n2, .slice ad4 l2.length cp4]) ?_ rfl ⟨_, rfl, ⟨_, _, rfl, ownsI_mono HA.out hb2, ownsI_mono HZ.out hb4, HP.out⟩, HB.out⟩
  rw [results_cell1 rfl]
  go_simp

set_option maxRecDepth 20000 in
set_option maxHeartbeats 6400000 in
theorem sIvAdd (va vb : Value) (a b : Vh) (w : World) (ha : rowV w va a) (hb : rowV w vb b) (hl0 : a.1.2.length ≤ 1048576) (hl1 : a.2.2.length ≤ 1048576) (hl2 : b.1.2.length ≤ 1048576) (hl3 : b.2.2.length ≤ 1048576) :
    Calls Try.prog 21 #[va, vb] w fun e w' => ∃ v, e = .returned (.tuple #[v, .bool (ivAddR a b).2]) ∧ ownsV w' w.heap.size v (ivAddR a b).1 ∧ Below w.heap.size w w' := by
  have kA := fun W (h : Below w.heap.size w W) => sIvOk va a W (ha.below h (Nat.le_refl _)) hl0 hl1
  have kB := fun W (h : Below w.heap.size w W) => sIvOk vb b W (hb.below h (Nat.le_refl _)) hl2 hl3
  obtain ⟨oa, hoa⟩ : ∃ o, okV a = o := ⟨_, rfl⟩
  obtain ⟨ob, hob⟩ : ∃ o, okV b = o := ⟨_, rfl⟩
  rw [hoa] at kA
  rw [hob] at kB
  cases oa
  · have HR : Hid (ivAddR a b = (((false, []), (false, [])), false)) := by show _ = _; unfold ivAddR; rw [if_neg (fun h => by rw [hoa] at h; cases h.1)]
    obtain ⟨rr, hr⟩ : ∃ r, ivAddR a b = r := ⟨_, rfl⟩
    rw [hr] at HR
    rw [hr]
    clear hr
    clear hoa hob hl0 hl1 hl2 hl3
    obtain ⟨s, t, rfl, hs, ht⟩ := ha
    obtain ⟨u, v, rfl, hu, hv⟩ := hb
    obtain ⟨ad, cap, rfl, -⟩ := id hs
    obtain ⟨ae, cbp, rfl, -⟩ := id ht
    obtain ⟨bd, cap2, rfl, -⟩ := id hu
    obtain ⟨be, cbp2, rfl, -⟩ := id hv
    obtain ⟨g, hg⟩ : ∃ g, a.1.1 = g := ⟨_, rfl⟩
    obtain ⟨g', hg'⟩ : ∃ g, a.2.1 = g := ⟨_, rfl⟩
    obtain ⟨h, hh⟩ : ∃ g, b.1.1 = g := ⟨_, rfl⟩
    obtain ⟨h', hh'⟩ : ∃ g, b.2.1 = g := ⟨_, rfl⟩
    obtain ⟨len, hlen⟩ : ∃ l, a.1.2.length = l := ⟨_, rfl⟩
    obtain ⟨len2, hlen2⟩ : ∃ l, a.2.2.length = l := ⟨_, rfl⟩
    obtain ⟨lenb, hlenb⟩ : ∃ l, b.1.2.length = l := ⟨_, rfl⟩
    obtain ⟨lenb2, hlenb2⟩ : ∃ l, b.2.2.length = l := ⟨_, rfl⟩
    rw [hg, hg', hlen, hlen2] at kA
    rw [hh, hh', hlenb, hlenb2] at kB
    rw [hg, hg', hh, hh', hlen, hlen2, hlenb, hlenb2]
    clear hs ht hu hv hg hg' hh hh' hlen hlen2 hlenb hlenb2
    have s1 : (w.alloc (.cells #[.bool g, .slice ad len cap, .bool g', .slice ae len2 cbp] 28)).heap.size = w.heap.size + 1 := by simp
    have s2 : ((w.alloc (.cells #[.bool g, .slice ad len cap, .bool g', .slice ae len2 cbp] 28)).alloc (.cells #[.bool h, .slice bd lenb cap2, .bool h', .slice be lenb2 cbp2] 28)).heap.size = w.heap.size + 1 + 1 := by simp
    have X0 := ((BoxV.made w (.bool g) (.slice ad len cap) (.bool g') (.slice ae len2 cbp) 28).below (below1 _ (.cells #[.bool h, .slice bd lenb cap2, .bool h', .slice be lenb2 cbp2] 28)) (Nat.le_refl _)).below (below1 _ (.cells #[.bool false, .slice none 0 0, .bool false, .slice none 0 0] 28)) (Nat.le_refl _)
    have Y0 := (BoxV.made (w.alloc (.cells #[.bool g, .slice ad len cap, .bool g', .slice ae len2 cbp] 28)) (.bool h) (.slice bd lenb cap2) (.bool h') (.slice be lenb2 cbp2) 28).below (below1 _ (.cells #[.bool false, .slice none 0 0, .bool false, .slice none 0 0] 28)) (Nat.le_refl _)
    rw [s1] at Y0
    have R0 := BoxV.made ((w.alloc (.cells #[.bool g, .slice ad len cap, .bool g', .slice ae len2 cbp] 28)).alloc (.cells #[.bool h, .slice bd lenb cap2, .bool h', .slice be lenb2 cbp2] 28)) (.bool false) (.slice none 0 0) (.bool false) (.slice none 0 0) 28
    rw [s2] at R0
    have B0 := below3 w (.cells #[.bool g, .slice ad len cap, .bool g', .slice ae len2 cbp] 28) (.cells #[.bool h, .slice bd lenb cap2, .bool h', .slice be lenb2 cbp2] 28) (.cells #[.bool false, .slice none 0 0, .bool false, .slice none 0 0] 28)
    clear s1 s2
    go_enter Try.func21, Try.ntmps21
    go_wp2_with fail
    refine (kA _ B0).mono ?_
    generalize ((w.alloc (.cells #[.bool g, .slice ad len cap, .bool g', .slice ae len2 cbp] 28)).alloc (.cells #[.bool h, .slice bd lenb cap2, .bool h', .slice be lenb2 cbp2] 28)).alloc (.cells #[.bool false, .slice none 0 0, .bool false, .slice none 0 0] 28) = w0 at *
    rintro e w1 ⟨rfl, b1⟩
    have X1 := X0.below b1 (Nat.le_refl _)
    have Y1 := Y0.below b1 (Nat.le_refl _)
    have R1 := R0.below b1 (Nat.le_refl _)
    have B1 := B0.trans (b1.mono B0.size)
    have r0 := R1.c0
    have f0 := R1.f0
    have r1 := R1.c1
    have f1 := R1.f1
    have r2 := R1.c2
    have f2 := R1.f2
    have r3 := R1.c3
    have f3 := R1.f3
    have HB : Hid (Below w.heap.size w _) := ((((B1.setCell (p := ⟨w.heap.size + 1 + 1, 0, none⟩) (by show w.heap.size ≤ w.heap.size + 1 + 1; omega) (.bool false)).setCell (p := ⟨w.heap.size + 1 + 1, 1, none⟩) (by show w.heap.size ≤ w.heap.size + 1 + 1; omega) (.slice none 0 0)).setCell (p := ⟨w.heap.size + 1 + 1, 2, none⟩) (by show w.heap.size ≤ w.heap.size + 1 + 1; omega) (.bool false)).setCell (p := ⟨w.heap.size + 1 + 1, 3, none⟩) (by show w.heap.size ≤ w.heap.size + 1 + 1; omega) (.slice none 0 0))
    clear X0 Y0 X1 Y1 R0 R1 B0 B1 b1 kA kB
    go_wp2
    (try simp only [Exit.inBlock, Exit.then])
    refine bodyPost_ret (v := .tuple #[.agg #[.bool false, .slice none 0 0, .bool false, .slice none 0 0], .bool false]) ?_ rfl ⟨_, by rw [HR.out], by rw [HR.out]; exact nilV _ _, HB.out⟩
    rw [results_cell_tmp rfl]
    go_simp
  cases ob
  · have HR : Hid (ivAddR a b = (((false, []), (false, [])), false)) := by show _ = _; unfold ivAddR; rw [if_neg (fun h => by rw [hob] at h; cases h.2)]
    obtain ⟨rr, hr⟩ : ∃ r, ivAddR a b = r := ⟨_, rfl⟩
    rw [hr] at HR
    rw [hr]
    clear hr
    clear hoa hob hl0 hl1 hl2 hl3
    obtain ⟨s, t, rfl, hs, ht⟩ := ha
    obtain ⟨u, v, rfl, hu, hv⟩ := hb
    obtain ⟨ad, cap, rfl, -⟩ := id hs
    obtain ⟨ae, cbp, rfl, -⟩ := id ht
    obtain ⟨bd, cap2, rfl, -⟩ := id hu
    obtain ⟨be, cbp2, rfl, -⟩ := id hv
    obtain ⟨g, hg⟩ : ∃ g, a.1.1 = g := ⟨_, rfl⟩
    obtain ⟨g', hg'⟩ : ∃ g, a.2.1 = g := ⟨_, rfl⟩
    obtain ⟨h, hh⟩ : ∃ g, b.1.1 = g := ⟨_, rfl⟩
    obtain ⟨h', hh'⟩ : ∃ g, b.2.1 = g := ⟨_, rfl⟩
    obtain ⟨len, hlen⟩ : ∃ l, a.1.2.length = l := ⟨_, rfl⟩
    obtain ⟨len2, hlen2⟩ : ∃ l, a.2.2.length = l := ⟨_, rfl⟩
    obtain ⟨lenb, hlenb⟩ : ∃ l, b.1.2.length = l := ⟨_, rfl⟩
    obtain ⟨lenb2, hlenb2⟩ : ∃ l, b.2.2.length = l := ⟨_, rfl⟩
    rw [hg, hg', hlen, hlen2] at kA
    rw [hh, hh', hlenb, hlenb2] at kB
    rw [hg, hg', hh, hh', hlen, hlen2, hlenb, hlenb2]
    clear hs ht hu hv hg hg' hh hh' hlen hlen2 hlenb hlenb2
    have s1 : (w.alloc (.cells #[.bool g, .slice ad len cap, .bool g', .slice ae len2 cbp] 28)).heap.size = w.heap.size + 1 := by simp
    have s2 : ((w.alloc (.cells #[.bool g, .slice ad len cap, .bool g', .slice ae len2 cbp] 28)).alloc (.cells #[.bool h, .slice bd lenb cap2, .bool h', .slice be lenb2 cbp2] 28)).heap.size = w.heap.size + 1 + 1 := by simp
    have X0 := ((BoxV.made w (.bool g) (.slice ad len cap) (.bool g') (.slice ae len2 cbp) 28).below (below1 _ (.cells #[.bool h, .slice bd lenb cap2, .bool h', .slice be lenb2 cbp2] 28)) (Nat.le_refl _)).below (below1 _ (.cells #[.bool false, .slice none 0 0, .bool false, .slice none 0 0] 28)) (Nat.le_refl _)
    have Y0 := (BoxV.made (w.alloc (.cells #[.bool g, .slice ad len cap, .bool g', .slice ae len2 cbp] 28)) (.bool h) (.slice bd lenb cap2) (.bool h') (.slice be lenb2 cbp2) 28).below (below1 _ (.cells #[.bool false, .slice none 0 0, .bool false, .slice none 0 0] 28)) (Nat.le_refl _)
    rw [s1] at Y0
    have R0 := BoxV.made ((w.alloc (.cells #[.bool g, .slice ad len cap, .bool g', .slice ae len2 cbp] 28)).alloc (.cells #[.bool h, .slice bd lenb cap2, .bool h', .slice be lenb2 cbp2] 28)) (.bool false) (.slice none 0 0) (.bool false) (.slice none 0 0) 28
    rw [s2] at R0
    have B0 := below3 w (.cells #[.bool g, .slice ad len cap, .bool g', .slice ae len2 cbp] 28) (.cells #[.bool h, .slice bd lenb cap2, .bool h', .slice be lenb2 cbp2] 28) (.cells #[.bool false, .slice none 0 0, .bool false, .slice none 0 0] 28)
    clear s1 s2
    go_enter Try.func21, Try.ntmps21
    go_wp2_with fail
    refine (kA _ B0).mono ?_
    generalize ((w.alloc (.cells #[.bool g, .slice ad len cap, .bool g', .slice ae len2 cbp] 28)).alloc (.cells #[.bool h, .slice bd lenb cap2, .bool h', .slice be lenb2 cbp2] 28)).alloc (.cells #[.bool false, .slice none 0 0, .bool false, .slice none 0 0] 28) = w0 at *
    rintro e w1 ⟨rfl, b1⟩
    have X1 := X0.below b1 (Nat.le_refl _)
    have Y1 := Y0.below b1 (Nat.le_refl _)
    have R1 := R0.below b1 (Nat.le_refl _)
    have B1 := B0.trans (b1.mono B0.size)
    have y0 := Y1.c0
    have y1 := Y1.c1
    have y2 := Y1.c2
    have y3 := Y1.c3
    go_wp2_with fail
    clear y0 y1 y2 y3
    refine (kB _ B1).mono ?_
    rintro e w2 ⟨rfl, b2⟩
    have X2 := X1.below b2 (Nat.le_refl _)
    have Y2 := Y1.below b2 (Nat.le_refl _)
    have R2 := R1.below b2 (Nat.le_refl _)
    have B2 := B1.trans (b2.mono B1.size)
    have r0 := R2.c0
    have f0 := R2.f0
    have r1 := R2.c1
    have f1 := R2.f1
    have r2 := R2.c2
    have f2 := R2.f2
    have r3 := R2.c3
    have f3 := R2.f3
    have HB : Hid (Below w.heap.size w _) := ((((B2.setCell (p := ⟨w.heap.size + 1 + 1, 0, none⟩) (by show w.heap.size ≤ w.heap.size + 1 + 1; omega) (.bool false)).setCell (p := ⟨w.heap.size + 1 + 1, 1, none⟩) (by show w.heap.size ≤ w.heap.size + 1 + 1; omega) (.slice none 0 0)).setCell (p := ⟨w.heap.size + 1 + 1, 2, none⟩) (by show w.heap.size ≤ w.heap.size + 1 + 1; omega) (.bool false)).setCell (p := ⟨w.heap.size + 1 + 1, 3, none⟩) (by show w.heap.size ≤ w.heap.size + 1 + 1; omega) (.slice none 0 0))
    clear X0 Y0 X1 Y1 X2 Y2 R0 R1 R2 B0 B1 B2 b1 b2 kA kB
    go_wp2
    (try simp only [Exit.inBlock, Exit.then])
    refine bodyPost_ret (v := .tuple #[.agg #[.bool false, .slice none 0 0, .bool false, .slice none 0 0], .bool false]) ?_ rfl ⟨_, by rw [HR.out], by rw [HR.out]; exact nilV _ _, HB.out⟩
    rw [results_cell_tmp rfl]
    go_simp
  have za := okV_yes hoa
  have zb := okV_yes hob
  have HR : Hid (ivAddR a b = fitV (valW a.1 + valW b.1) (valW a.2 + valW b.2)) := by show _ = _; unfold ivAddR; rw [if_pos ⟨hoa, hob⟩]
  have kG := fun W (h : Below w.heap.size w W) => sVAdd va vb a b (valW a.1) (valW a.2) (valW b.1) (valW b.2) W (ha.below h (Nat.le_refl _)) (hb.below h (Nat.le_refl _)) (mkW_of za.1) (mkW_of za.2.1) (mkW_of zb.1) (mkW_of zb.2.1) (okW_lenV za.1) (okW_lenV za.2.1) (okW_lenV zb.1) (okW_lenV zb.2.1)
  have kf := fun v base W (h : ownsV W base v (mkW (valW a.1 + valW b.1), mkW (valW a.2 + valW b.2))) => sVFits v (valW a.1 + valW b.1) (valW a.2 + valW b.2) base W h
  obtain ⟨rr, hr⟩ : ∃ r, ivAddR a b = r := ⟨_, rfl⟩
  rw [hr] at HR
  rw [hr]
  clear hr
  clear hoa hob hl0 hl1 hl2 hl3 za zb
  generalize fitV (valW a.1 + valW b.1) (valW a.2 + valW b.2) = fw at *
  generalize (mkW (valW a.1 + valW b.1), mkW (valW a.2 + valW b.2)) = fm at *
  obtain ⟨s, t, rfl, hs, ht⟩ := ha
  obtain ⟨u, v, rfl, hu, hv⟩ := hb
  obtain ⟨ad, cap, rfl, -⟩ := id hs
  obtain ⟨ae, cbp, rfl, -⟩ := id ht
  obtain ⟨bd, cap2, rfl, -⟩ := id hu
  obtain ⟨be, cbp2, rfl, -⟩ := id hv
  obtain ⟨g, hg⟩ : ∃ g, a.1.1 = g := ⟨_, rfl⟩
  obtain ⟨g', hg'⟩ : ∃ g, a.2.1 = g := ⟨_, rfl⟩
  obtain ⟨h, hh⟩ : ∃ g, b.1.1 = g := ⟨_, rfl⟩
  obtain ⟨h', hh'⟩ : ∃ g, b.2.1 = g := ⟨_, rfl⟩
  obtain ⟨len, hlen⟩ : ∃ l, a.1.2.length = l := ⟨_, rfl⟩
  obtain ⟨len2, hlen2⟩ : ∃ l, a.2.2.length = l := ⟨_, rfl⟩
  obtain ⟨lenb, hlenb⟩ : ∃ l, b.1.2.length = l := ⟨_, rfl⟩
  obtain ⟨lenb2, hlenb2⟩ : ∃ l, b.2.2.length = l := ⟨_, rfl⟩
  rw [hg, hg', hlen, hlen2] at kA
  rw [hh, hh', hlenb, hlenb2] at kB
  rw [hg, hg', hh, hh', hlen, hlen2, hlenb, hlenb2] at kG
  rw [hg, hg', hh, hh', hlen, hlen2, hlenb, hlenb2]
  clear hs ht hu hv hg hg' hh hh' hlen hlen2 hlenb hlenb2
  have s1 : (w.alloc (.cells #[.bool g, .slice ad len cap, .bool g', .slice ae len2 cbp] 28)).heap.size = w.heap.size + 1 := by simp
  have s2 : ((w.alloc (.cells #[.bool g, .slice ad len cap, .bool g', .slice ae len2 cbp] 28)).alloc (.cells #[.bool h, .slice bd lenb cap2, .bool h', .slice be lenb2 cbp2] 28)).heap.size = w.heap.size + 1 + 1 := by simp
  have X0 := ((BoxV.made w (.bool g) (.slice ad len cap) (.bool g') (.slice ae len2 cbp) 28).below (below1 _ (.cells #[.bool h, .slice bd lenb cap2, .bool h', .slice be lenb2 cbp2] 28)) (Nat.le_refl _)).below (below1 _ (.cells #[.bool false, .slice none 0 0, .bool false, .slice none 0 0] 28)) (Nat.le_refl _)
  have Y0 := (BoxV.made (w.alloc (.cells #[.bool g, .slice ad len cap, .bool g', .slice ae len2 cbp] 28)) (.bool h) (.slice bd lenb cap2) (.bool h') (.slice be lenb2 cbp2) 28).below (below1 _ (.cells #[.bool false, .slice none 0 0, .bool false, .slice none 0 0] 28)) (Nat.le_refl _)
  rw [s1] at Y0
  have R0 := BoxV.made ((w.alloc (.cells #[.bool g, .slice ad len cap, .bool g', .slice ae len2 cbp] 28)).alloc (.cells #[.bool h, .slice bd lenb cap2, .bool h', .slice be lenb2 cbp2] 28)) (.bool false) (.slice none 0 0) (.bool false) (.slice none 0 0) 28
  rw [s2] at R0
  have B0 := below3 w (.cells #[.bool g, .slice ad len cap, .bool g', .slice ae len2 cbp] 28) (.cells #[.bool h, .slice bd lenb cap2, .bool h', .slice be lenb2 cbp2] 28) (.cells #[.bool false, .slice none 0 0, .bool false, .slice none 0 0] 28)
  clear s1 s2
  go_enter Try.func21, Try.ntmps21
  go_wp2_with fail
  refine (kA _ B0).mono ?_
  generalize ((w.alloc (.cells #[.bool g, .slice ad len cap, .bool g', .slice ae len2 cbp] 28)).alloc (.cells #[.bool h, .slice bd lenb cap2, .bool h', .slice be lenb2 cbp2] 28)).alloc (.cells #[.bool false, .slice none 0 0, .bool false, .slice none 0 0] 28) = w0 at *
  rintro e w1 ⟨rfl, b1⟩
  have X1 := X0.below b1 (Nat.le_refl _)
  have Y1 := Y0.below b1 (Nat.le_refl _)
  have R1 := R0.below b1 (Nat.le_refl _)
  have B1 := B0.trans (b1.mono B0.size)
  have y0 := Y1.c0
  have y1 := Y1.c1
  have y2 := Y1.c2
  have y3 := Y1.c3
  go_wp2_with fail
  clear y0 y1 y2 y3
  refine (kB _ B1).mono ?_
  rintro e w2 ⟨rfl, b2⟩
  have X2 := X1.below b2 (Nat.le_refl _)
  have Y2 := Y1.below b2 (Nat.le_refl _)
  have R2 := R1.below b2 (Nat.le_refl _)
  have B2 := B1.trans (b2.mono B1.size)
  have x0 := X2.c0
  have x1 := X2.c1
  have x2 := X2.c2
  have x3 := X2.c3
  have y0 := Y2.c0
  have y1 := Y2.c1
  have y2 := Y2.c2
  have y3 := Y2.c3
  clear X0 Y0 R0 B0 b1 X1 Y1 R1 b2 kA kB
  go_wp2_with fail
  clear x0 x1 x2 x3 y0 y1 y2 y3
  refine (kG _ B2).mono ?_
  rintro e w6 ⟨v6, rfl, o6, b6⟩
  have B6 := B2.trans (b6.mono B2.size)
  have R6 := R2.below b6 (Nat.le_refl _)
  have hR2 := R2.hi
  go_wp2_with fail
  refine (kf _ _ _ o6).mono ?_
  rintro e w7 ⟨v7, rfl, o7, b7⟩
  have B7 := B6.trans (b7.mono B6.size)
  have R7 := R6.below b7 (Nat.le_refl _)
  obtain ⟨⟨⟨n1, l1⟩, ⟨n2, l2⟩⟩, ok3⟩ := fw
  obtain ⟨s3, s4, rfl, q3, q4, hap⟩ := o7
  obtain ⟨ad3, cp3, rfl, -⟩ := q3.row
  obtain ⟨ad4, cp4, rfl, -⟩ := q4.row
  have q3' : ownsI w7 (min w2.heap.size w6.heap.size) (.slice ad3 l1.length cp3) l1 := q3
  have q4' : ownsI w7 (min w2.heap.size w6.heap.size) (.slice ad4 l2.length cp4) l2 := q4
  have r0 := R7.c0
  have f0 := R7.f0
  have r1 := R7.c1
  have f1 := R7.f1
  have r2 := R7.c2
  have f2 := R7.f2
  have r3 := R7.c3
  have f3 := R7.f3
  have hbase : w.heap.size + 1 + 1 < (min w2.heap.size w6.heap.size) ∧ w.heap.size ≤ (min w2.heap.size w6.heap.size) := by have := R6.hi; have := B6.size; have := B2.size; omega
  have HA : Hid (ownsI _ (min w2.heap.size w6.heap.size) (.slice ad3 l1.length cp3) l1) := ((((q3'.other (w.heap.size + 1 + 1) 0 (by omega) (.bool n1)).other (w.heap.size + 1 + 1) 1 (by omega) (.slice ad3 l1.length cp3)).other (w.heap.size + 1 + 1) 2 (by omega) (.bool n2)).other (w.heap.size + 1 + 1) 3 (by omega) (.slice ad4 l2.length cp4))
  have HZ : Hid (ownsI _ (min w2.heap.size w6.heap.size) (.slice ad4 l2.length cp4) l2) := ((((q4'.other (w.heap.size + 1 + 1) 0 (by omega) (.bool n1)).other (w.heap.size + 1 + 1) 1 (by omega) (.slice ad3 l1.length cp3)).other (w.heap.size + 1 + 1) 2 (by omega) (.bool n2)).other (w.heap.size + 1 + 1) 3 (by omega) (.slice ad4 l2.length cp4))
  have HB : Hid (Below w.heap.size w _) := ((((B7.setCell (p := ⟨w.heap.size + 1 + 1, 0, none⟩) (by show w.heap.size ≤ w.heap.size + 1 + 1; omega) (.bool n1)).setCell (p := ⟨w.heap.size + 1 + 1, 1, none⟩) (by show w.heap.size ≤ w.heap.size + 1 + 1; omega) (.slice ad3 l1.length cp3)).setCell (p := ⟨w.heap.size + 1 + 1, 2, none⟩) (by show w.heap.size ≤ w.heap.size + 1 + 1; omega) (.bool n2)).setCell (p := ⟨w.heap.size + 1 + 1, 3, none⟩) (by show w.heap.size ≤ w.heap.size + 1 + 1; omega) (.slice ad4 l2.length cp4))
  have HP : Hid (Apart (blkI (.slice ad3 l1.length cp3)) (blkI (.slice ad4 l2.length cp4))) := hap
  clear q3 q4 q3' q4' hap R2 R6 R7 B1 B2 B6 B7 b6 b7 X2 Y2 kG kf
  go_wp2
  (try simp only [Exit.inBlock, Exit.then])
  refine bodyPost_ret (v := .tuple #[.agg #[.bool n1, .slice ad3 l1.length cp3, .bool n2, .slice ad4 l2.length cp4], .bool ok3]) ?_ rfl ⟨_, by rw [HR.out], by rw [HR.out]; exact ⟨_, _, rfl, ownsI_mono HA.out hbase.2, ownsI_mono HZ.out hbase.2, HP.out⟩, HB.out⟩
  rw [results_cell_tmp rfl]
  go_simp

set_option maxRecDepth 20000 in
set_option maxHeartbeats 6400000 in
theorem iIvAdd (va vb : Value) (a b : Vh) (w : World) (ha : rowV w va a) (hb : rowV w vb b) (hl0 : a.1.2.length ≤ 1048576) (hl1 : a.2.2.length ≤ 1048576) (hl2 : b.1.2.length ≤ 1048576) (hl3 : b.2.2.length ≤ 1048576) :
    Calls Try.prog 23 #[va, vb] w fun e w' => ∃ v, e = .returned (.tuple #[v, .bool (ivAddR a b).2]) ∧ ownsV w' w.heap.size v (ivAddR a b).1 ∧ Below w.heap.size w w' := by
  have kT := fun W (h : Below w.heap.size w W) => twoSpans_c va vb a b W (ha.below h (Nat.le_refl _)) (hb.below h (Nat.le_refl _)) hl0 hl1 hl2 hl3
  unfold spansA at kT
  by_cases hok : okV a = true ∧ okV b = true
  · have za := okV_yes hok.1
    have zb := okV_yes hok.2
    have m1 := okW_lenV za.1
    have m2 := okW_lenV za.2.1
    have m3 := okW_lenV zb.1
    have m4 := okW_lenV zb.2.1
    have HR : Hid (ivAddR a b = fitV (valW a.1 + valW b.1) (valW a.2 + valW b.2)) := by show _ = _; unfold ivAddR; rw [if_pos hok]
    have kS := fun p q p' q' W h1 h2 h3 h4 => addSpans_c p q p' q' (valW a.1) (valW a.2) (valW b.1) (valW b.2) W h1 h2 h3 h4 (by omega) (by omega) (by omega) (by omega)
    unfold spanE at kS
    have kf := fun p q W h1 h2 => ivFrom_c p q (valW a.1 + valW b.1) (valW a.2 + valW b.2) W h1 h2
    rw [hok.1, hok.2] at kT
    obtain ⟨rr, hr⟩ : ∃ r, ivAddR a b = r := ⟨_, rfl⟩
    rw [hr] at HR
    rw [hr]
    clear hr
    clear hok hl0 hl1 hl2 hl3 za zb m1 m2 m3 m4
    generalize fitV (valW a.1 + valW b.1) (valW a.2 + valW b.2) = fw at *
    generalize valW a.1 + valW b.1 = d1 at *
    generalize valW a.2 + valW b.2 = d2 at *
    generalize valW a.1 = x1 at *
    generalize valW a.2 = y1 at *
    generalize valW b.1 = x2 at *
    generalize valW b.2 = y2 at *
    obtain ⟨s, t, rfl, hs, ht⟩ := ha
    obtain ⟨u, v, rfl, hu, hv⟩ := hb
    obtain ⟨ad, cap, rfl, -⟩ := id hs
    obtain ⟨ae, cbp, rfl, -⟩ := id ht
    obtain ⟨bd, cap2, rfl, -⟩ := id hu
    obtain ⟨be, cbp2, rfl, -⟩ := id hv
    obtain ⟨g, hg⟩ : ∃ g, a.1.1 = g := ⟨_, rfl⟩
    obtain ⟨g', hg'⟩ : ∃ g, a.2.1 = g := ⟨_, rfl⟩
    obtain ⟨h, hh⟩ : ∃ g, b.1.1 = g := ⟨_, rfl⟩
    obtain ⟨h', hh'⟩ : ∃ g, b.2.1 = g := ⟨_, rfl⟩
    obtain ⟨len, hlen⟩ : ∃ l, a.1.2.length = l := ⟨_, rfl⟩
    obtain ⟨len2, hlen2⟩ : ∃ l, a.2.2.length = l := ⟨_, rfl⟩
    obtain ⟨lenb, hlenb⟩ : ∃ l, b.1.2.length = l := ⟨_, rfl⟩
    obtain ⟨lenb2, hlenb2⟩ : ∃ l, b.2.2.length = l := ⟨_, rfl⟩
    rw [hg, hg', hh, hh', hlen, hlen2, hlenb, hlenb2] at kT
    rw [hg, hg', hh, hh', hlen, hlen2, hlenb, hlenb2]
    clear hs ht hu hv hg hg' hh hh' hlen hlen2 hlenb hlenb2
    have s1 : (w.alloc (.cells #[.bool g, .slice ad len cap, .bool g', .slice ae len2 cbp] 28)).heap.size = w.heap.size + 1 := by simp
    have s2 : ((w.alloc (.cells #[.bool g, .slice ad len cap, .bool g', .slice ae len2 cbp] 28)).alloc (.cells #[.bool h, .slice bd lenb cap2, .bool h', .slice be lenb2 cbp2] 28)).heap.size = w.heap.size + 1 + 1 := by simp
    have X0 := ((BoxV.made w (.bool g) (.slice ad len cap) (.bool g') (.slice ae len2 cbp) 28).below (below1 _ (.cells #[.bool h, .slice bd lenb cap2, .bool h', .slice be lenb2 cbp2] 28)) (Nat.le_refl _)).below (below1 _ (.cells #[.bool false, .slice none 0 0, .bool false, .slice none 0 0] 28)) (Nat.le_refl _)
    have Y0 := (BoxV.made (w.alloc (.cells #[.bool g, .slice ad len cap, .bool g', .slice ae len2 cbp] 28)) (.bool h) (.slice bd lenb cap2) (.bool h') (.slice be lenb2 cbp2) 28).below (below1 _ (.cells #[.bool false, .slice none 0 0, .bool false, .slice none 0 0] 28)) (Nat.le_refl _)
    rw [s1] at Y0
    have R0 := BoxV.made ((w.alloc (.cells #[.bool g, .slice ad len cap, .bool g', .slice ae len2 cbp] 28)).alloc (.cells #[.bool h, .slice bd lenb cap2, .bool h', .slice be lenb2 cbp2] 28)) (.bool false) (.slice none 0 0) (.bool false) (.slice none 0 0) 28
    rw [s2] at R0
    have B0 := below3 w (.cells #[.bool g, .slice ad len cap, .bool g', .slice ae len2 cbp] 28) (.cells #[.bool h, .slice bd lenb cap2, .bool h', .slice be lenb2 cbp2] 28) (.cells #[.bool false, .slice none 0 0, .bool false, .slice none 0 0] 28)
    clear s1 s2
    go_enter Try.func23, Try.ntmps23
    go_wp2_with fail
    refine (kT _ B0).mono ?_
    generalize ((w.alloc (.cells #[.bool g, .slice ad len cap, .bool g', .slice ae len2 cbp] 28)).alloc (.cells #[.bool h, .slice bd lenb cap2, .bool h', .slice be lenb2 cbp2] 28)).alloc (.cells #[.bool false, .slice none 0 0, .bool false, .slice none 0 0] 28) = w0 at *
    rintro e w1 ⟨X, Y, X', Y', rfl, b1, hXY⟩
    have bF := below2 w1 (.cells #[.pointer X, .pointer Y] 75) (.cells #[.pointer X', .pointer Y'] 75)
    have s1 : (w1.alloc (.cells #[.pointer X, .pointer Y] 75)).heap.size = w1.heap.size + 1 := by simp
    have E1 := (BoxW.made w1 (.pointer X) (.pointer Y) 75).below (below1 _ (.cells #[.pointer X', .pointer Y'] 75)) (Nat.le_refl _)
    have G1 := BoxW.made (w1.alloc (.cells #[.pointer X, .pointer Y] 75)) (.pointer X') (.pointer Y') 75
    rw [s1] at G1
    have b2 := b1.trans (bF.mono b1.size)
    have R1 := R0.below b2 (Nat.le_refl _)
    have B1 := B0.trans (b2.mono B0.size)
    have hw1 := b1.size
    clear s1
    obtain ⟨p, q, p', q', rfl, rfl, rfl, rfl, sp, sq, sp', sq', -⟩ := hXY (by first | exact trivial | rfl) (by first | exact trivial | rfl)
    have sp1 := sp.below bF sp.lt
    have sq1 := sq.below bF sq.lt
    have tp1 := sp'.below bF sp'.lt
    have tq1 := sq'.below bF sq'.lt
    have hR0 := R0.hi
    clear hXY kT R0 B0 b1 b2 X0 Y0 sp sq sp' sq' bF
    go_wp2_with fail
    generalize (w1.alloc (.cells #[.pointer (some ⟨p, 0, none⟩), .pointer (some ⟨q, 0, none⟩)] 75)).alloc (.cells #[.pointer (some ⟨p', 0, none⟩), .pointer (some ⟨q', 0, none⟩)] 75) = w2 at *
    generalize w1.heap.size = f6 at *
    refine (kS p q p' q' _ sp1 sq1 tp1 tq1).mono ?_
    rintro e w4 ⟨c, d, rfl, sc, sd, b4⟩
    have R4 := R1.below b4 (Nat.le_refl _)
    have B4 := B1.trans (b4.mono B1.size)
    clear kS sp1 sq1 tp1 tq1 E1 G1
    go_wp2_with fail
    refine (kf c d _ sc sd).mono ?_
    rintro e w6 ⟨v6, rfl, o6, b6⟩
    obtain ⟨⟨⟨n1, l1⟩, ⟨n2, l2⟩⟩, ok3⟩ := fw
    obtain ⟨s3, s4, rfl, q3, q4, hap⟩ := o6
    obtain ⟨ad3, cp3, rfl, -⟩ := q3.row
    obtain ⟨ad4, cp4, rfl, -⟩ := q4.row
    have q3' : ownsI w6 w4.heap.size (.slice ad3 l1.length cp3) l1 := q3
    have q4' : ownsI w6 w4.heap.size (.slice ad4 l2.length cp4) l2 := q4
    have hR4 := R4.hi
    have R6 := R4.below b6 (Nat.le_refl _)
    have B6 := B4.trans (b6.mono B4.size)
    have r0 := R6.c0
    have f0 := R6.f0
    have r1 := R6.c1
    have f1 := R6.f1
    have r2 := R6.c2
    have f2 := R6.f2
    have r3 := R6.c3
    have f3 := R6.f3
    have HA : Hid (ownsI _ w4.heap.size (.slice ad3 l1.length cp3) l1) := ((((q3'.other (w.heap.size + 1 + 1) 0 (by omega) (.bool n1)).other (w.heap.size + 1 + 1) 1 (by omega) (.slice ad3 l1.length cp3)).other (w.heap.size + 1 + 1) 2 (by omega) (.bool n2)).other (w.heap.size + 1 + 1) 3 (by omega) (.slice ad4 l2.length cp4))
    have HZ : Hid (ownsI _ w4.heap.size (.slice ad4 l2.length cp4) l2) := ((((q4'.other (w.heap.size + 1 + 1) 0 (by omega) (.bool n1)).other (w.heap.size + 1 + 1) 1 (by omega) (.slice ad3 l1.length cp3)).other (w.heap.size + 1 + 1) 2 (by omega) (.bool n2)).other (w.heap.size + 1 + 1) 3 (by omega) (.slice ad4 l2.length cp4))
    have HB : Hid (Below w.heap.size w _) := ((((B6.setCell (p := ⟨w.heap.size + 1 + 1, 0, none⟩) (by show w.heap.size ≤ w.heap.size + 1 + 1; omega) (.bool n1)).setCell (p := ⟨w.heap.size + 1 + 1, 1, none⟩) (by show w.heap.size ≤ w.heap.size + 1 + 1; omega) (.slice ad3 l1.length cp3)).setCell (p := ⟨w.heap.size + 1 + 1, 2, none⟩) (by show w.heap.size ≤ w.heap.size + 1 + 1; omega) (.bool n2)).setCell (p := ⟨w.heap.size + 1 + 1, 3, none⟩) (by show w.heap.size ≤ w.heap.size + 1 + 1; omega) (.slice ad4 l2.length cp4))
    have HP : Hid (Apart (blkI (.slice ad3 l1.length cp3)) (blkI (.slice ad4 l2.length cp4))) := hap
    have hb4 := B4.size
    clear q3 q4 q3' q4' hap R1 R4 R6 B1 B4 B6 b4 b6 sc sd kf
    go_wp2
    (try simp only [Exit.inBlock, Exit.then])
    refine bodyPost_ret (v := .tuple #[.agg #[.bool n1, .slice ad3 l1.length cp3, .bool n2, .slice ad4 l2.length cp4], .bool ok3]) ?_ rfl ⟨_, by rw [HR.out], by rw [HR.out]; exact ⟨_, _, rfl, ownsI_mono HA.out hb4, ownsI_mono HZ.out hb4, HP.out⟩, HB.out⟩
    rw [results_cell_tmp rfl]
    go_simp
  · have hand : (okV a && okV b) = false := by
      cases h5 : okV a
      · rfl
      · cases h6 : okV b
        · rfl
        · exact absurd ⟨h5, h6⟩ hok
    have HR : Hid (ivAddR a b = (((false, []), (false, [])), false)) := by show _ = _; unfold ivAddR; rw [if_neg hok]
    rw [hand] at kT
    obtain ⟨rr, hr⟩ : ∃ r, ivAddR a b = r := ⟨_, rfl⟩
    rw [hr] at HR
    rw [hr]
    clear hr
    clear hok hand hl0 hl1 hl2 hl3
    obtain ⟨s, t, rfl, hs, ht⟩ := ha
    obtain ⟨u, v, rfl, hu, hv⟩ := hb
    obtain ⟨ad, cap, rfl, -⟩ := id hs
    obtain ⟨ae, cbp, rfl, -⟩ := id ht
    obtain ⟨bd, cap2, rfl, -⟩ := id hu
    obtain ⟨be, cbp2, rfl, -⟩ := id hv
    obtain ⟨g, hg⟩ : ∃ g, a.1.1 = g := ⟨_, rfl⟩
    obtain ⟨g', hg'⟩ : ∃ g, a.2.1 = g := ⟨_, rfl⟩
    obtain ⟨h, hh⟩ : ∃ g, b.1.1 = g := ⟨_, rfl⟩
    obtain ⟨h', hh'⟩ : ∃ g, b.2.1 = g := ⟨_, rfl⟩
    obtain ⟨len, hlen⟩ : ∃ l, a.1.2.length = l := ⟨_, rfl⟩
    obtain ⟨len2, hlen2⟩ : ∃ l, a.2.2.length = l := ⟨_, rfl⟩
    obtain ⟨lenb, hlenb⟩ : ∃ l, b.1.2.length = l := ⟨_, rfl⟩
    obtain ⟨lenb2, hlenb2⟩ : ∃ l, b.2.2.length = l := ⟨_, rfl⟩
    rw [hg, hg', hh, hh', hlen, hlen2, hlenb, hlenb2] at kT
    rw [hg, hg', hh, hh', hlen, hlen2, hlenb, hlenb2]
    clear hs ht hu hv hg hg' hh hh' hlen hlen2 hlenb hlenb2
    have s1 : (w.alloc (.cells #[.bool g, .slice ad len cap, .bool g', .slice ae len2 cbp] 28)).heap.size = w.heap.size + 1 := by simp
    have s2 : ((w.alloc (.cells #[.bool g, .slice ad len cap, .bool g', .slice ae len2 cbp] 28)).alloc (.cells #[.bool h, .slice bd lenb cap2, .bool h', .slice be lenb2 cbp2] 28)).heap.size = w.heap.size + 1 + 1 := by simp
    have X0 := ((BoxV.made w (.bool g) (.slice ad len cap) (.bool g') (.slice ae len2 cbp) 28).below (below1 _ (.cells #[.bool h, .slice bd lenb cap2, .bool h', .slice be lenb2 cbp2] 28)) (Nat.le_refl _)).below (below1 _ (.cells #[.bool false, .slice none 0 0, .bool false, .slice none 0 0] 28)) (Nat.le_refl _)
    have Y0 := (BoxV.made (w.alloc (.cells #[.bool g, .slice ad len cap, .bool g', .slice ae len2 cbp] 28)) (.bool h) (.slice bd lenb cap2) (.bool h') (.slice be lenb2 cbp2) 28).below (below1 _ (.cells #[.bool false, .slice none 0 0, .bool false, .slice none 0 0] 28)) (Nat.le_refl _)
    rw [s1] at Y0
    have R0 := BoxV.made ((w.alloc (.cells #[.bool g, .slice ad len cap, .bool g', .slice ae len2 cbp] 28)).alloc (.cells #[.bool h, .slice bd lenb cap2, .bool h', .slice be lenb2 cbp2] 28)) (.bool false) (.slice none 0 0) (.bool false) (.slice none 0 0) 28
    rw [s2] at R0
    have B0 := below3 w (.cells #[.bool g, .slice ad len cap, .bool g', .slice ae len2 cbp] 28) (.cells #[.bool h, .slice bd lenb cap2, .bool h', .slice be lenb2 cbp2] 28) (.cells #[.bool false, .slice none 0 0, .bool false, .slice none 0 0] 28)
    clear s1 s2
    go_enter Try.func23, Try.ntmps23
    go_wp2_with fail
    refine (kT _ B0).mono ?_
    generalize ((w.alloc (.cells #[.bool g, .slice ad len cap, .bool g', .slice ae len2 cbp] 28)).alloc (.cells #[.bool h, .slice bd lenb cap2, .bool h', .slice be lenb2 cbp2] 28)).alloc (.cells #[.bool false, .slice none 0 0, .bool false, .slice none 0 0] 28) = w0 at *
    rintro e w1 ⟨X, Y, X', Y', rfl, b1, hXY⟩
    have bF := below2 w1 (.cells #[.pointer X, .pointer Y] 75) (.cells #[.pointer X', .pointer Y'] 75)
    have s1 : (w1.alloc (.cells #[.pointer X, .pointer Y] 75)).heap.size = w1.heap.size + 1 := by simp
    have E1 := (BoxW.made w1 (.pointer X) (.pointer Y) 75).below (below1 _ (.cells #[.pointer X', .pointer Y'] 75)) (Nat.le_refl _)
    have G1 := BoxW.made (w1.alloc (.cells #[.pointer X, .pointer Y] 75)) (.pointer X') (.pointer Y') 75
    rw [s1] at G1
    have b2 := b1.trans (bF.mono b1.size)
    have R1 := R0.below b2 (Nat.le_refl _)
    have B1 := B0.trans (b2.mono B0.size)
    have hw1 := b1.size
    clear s1
    have r0 := R1.c0
    have f0 := R1.f0
    have r1 := R1.c1
    have f1 := R1.f1
    have r2 := R1.c2
    have f2 := R1.f2
    have r3 := R1.c3
    have f3 := R1.f3
    have HB : Hid (Below w.heap.size w _) := ((((B1.setCell (p := ⟨w.heap.size + 1 + 1, 0, none⟩) (by show w.heap.size ≤ w.heap.size + 1 + 1; omega) (.bool false)).setCell (p := ⟨w.heap.size + 1 + 1, 1, none⟩) (by show w.heap.size ≤ w.heap.size + 1 + 1; omega) (.slice none 0 0)).setCell (p := ⟨w.heap.size + 1 + 1, 2, none⟩) (by show w.heap.size ≤ w.heap.size + 1 + 1; omega) (.bool false)).setCell (p := ⟨w.heap.size + 1 + 1, 3, none⟩) (by show w.heap.size ≤ w.heap.size + 1 + 1; omega) (.slice none 0 0))
    clear X0 Y0 R0 R1 B0 B1 b1 b2 bF E1 G1 hXY kT
    go_wp2
    (try simp only [Exit.inBlock, Exit.then])
    refine bodyPost_ret (v := .tuple #[.agg #[.bool false, .slice none 0 0, .bool false, .slice none 0 0], .bool false]) ?_ rfl ⟨_, by rw [HR.out], by rw [HR.out]; exact nilV _ _, HB.out⟩
    rw [results_cell_tmp rfl]
    go_simp


end Go.Proofs.Ytmbmnfphgcjhdaa
