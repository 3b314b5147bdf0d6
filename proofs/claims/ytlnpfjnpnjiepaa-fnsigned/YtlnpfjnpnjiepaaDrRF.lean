/- DrawRoundFrac, by its contract. -/
import Derived.Test.YtlnpfjnpnjiepaaDrR0
namespace Go.Proofs.Ytlnpfjnpnjiepaa
open Go.RowKit
set_option linter.unusedSimpArgs false

theorem BoxW.pairs {w : World} {base b : Nat} {x y : Value} (h : BoxW w base b x y) (x' y' : Value) : BoxW ((w.setCell ⟨b, 0, none⟩ x').setCell ⟨b, 1, none⟩ y') base b x' y' := by
  have c0 := h.c0
  have c1 := h.c1
  have f0 := h.f0
  have f1 := h.f1
  refine ⟨h.lo, ?_, ?_, ?_, ?_, ?_⟩
  · have := h.hi; simpa [World.setCell] using this
  · exact (World.cell?_setCell_other _ _ _ _ (by simp)).trans (World.cell?_setCell_same _ _ _ c0)
  · exact World.cell?_setCell_same _ _ _ ((World.cell?_setCell_other _ _ _ _ (by simp)).trans c1)
  · simp [*]
  · simp [*]

set_option maxRecDepth 20000 in
set_option maxHeartbeats 12800000 in
theorem drRFrac (a : Option Addr) (len cap : Nat) (zs : List Int) (w : World) (hlen : len ≤ 1048576) (h : CodeIs w a len cap zs) :
    Calls Try.prog 23 #[.slice a len cap] w (DrawnWWM w) := by
  have s1 : (w.alloc (.cells #[.bool false, .slice none 0 0] 26)).heap.size = w.heap.size + 1 := by simp
  have s0 : ((w.alloc (.cells #[.bool false, .slice none 0 0] 26)).alloc (.cells #[.bool false, .slice none 0 0] 26)).heap.size = w.heap.size + 1 + 1 := by simp
  have X := (BoxW.made w (.bool false) (.slice none 0 0) 26).below (below1 _ (.cells #[.bool false, .slice none 0 0] 26)) (Nat.le_refl _)
  have Y := BoxW.made (w.alloc (.cells #[.bool false, .slice none 0 0] 26)) (.bool false) (.slice none 0 0) 26
  rw [s1] at Y
  have BW := below2 w (.cells #[.bool false, .slice none 0 0] 26) (.cells #[.bool false, .slice none 0 0] 26)
  have h := h.below BW
  clear s1
  go_enter Try.func23, Try.ntmps23
  go_wp2_with fail
  generalize (w.alloc (.cells #[.bool false, .slice none 0 0] 26)).alloc (.cells #[.bool false, .slice none 0 0] 26) = w0 at *
  refine (curNew a len cap zs w0 hlen h).mono ?_
  rintro e w1 ⟨rfl, cu, b1⟩
  rw [s0] at cu
  replace X := X.below b1 (Nat.le_refl _)
  replace Y := Y.below b1 (Nat.le_refl _)
  replace BW := BW.trans (b1.mono BW.size)
  have hz1 := cu.lt
  rw [s0]
  clear h s0 b1
  go_wp2_with fail
  refine (drInt (w.heap.size + 1 + 1) w1 cu).mono ?_
  rintro e w2 ⟨v2, r2, rfl, o2, l2, cu, g2⟩
  replace X := X.curn g2 (by omega)
  replace Y := Y.curn g2 (by omega)
  replace BW := below_cur BW g2 (by omega) BW.size
  obtain ⟨g, xs⟩ := r2
  obtain ⟨s2, rfl, q2⟩ := o2
  obtain ⟨ad, cp, rfl, -⟩ := q2.row
  have A := BoxW.made w2 (.bool g) (.slice ad xs.length cp) 26
  have bb := below1 w2 (.cells #[.bool g, .slice ad xs.length cp] 26)
  have sb : (w2.alloc (.cells #[.bool g, .slice ad xs.length cp] 26)).heap.size = w2.heap.size + 1 := by simp
  have hz2 := g2.size
  replace X := X.below bb (Nat.le_refl _)
  replace Y := Y.below bb (Nat.le_refl _)
  have q := ownsI.below q2 bb (Nat.le_refl _)
  have q0 := q2
  replace cu := cu.alloc (.cells #[.bool g, .slice ad xs.length cp] 26)
  replace BW := BW.trans (bb.mono BW.size)
  have hl98 : xs.length ≤ 98 := l2
  clear bb g2 q2 l2
  have hlit := fun W => lit_cells W [1, 2, 3, 4, 6, 8, 1000, 0, -2] 3
  go_wp2_with fail
  generalize w2.alloc (.cells #[.bool g, .slice ad xs.length cp] 26) = w3 at *
  have hlit := hlit w3
  rw [sb] at hlit
  refine (pickInt (w.heap.size + 1 + 1) (w2.heap.size + 1) 9 9 [1, 2, 3, 4, 6, 8, 1000, 0, -2] _ (cu.alloc _) rfl (by omega) (by omega) (by omega) hlit).mono ?_
  rintro e w4 ⟨k, rfl, hk, cu4, g4⟩
  have hk' : -2 ≤ k ∧ k ≤ 1000 := by simp at hk; omega
  replace X := (X.below (below1 w3 _) (Nat.le_refl _)).curn g4 (by omega)
  replace Y := (Y.below (below1 w3 _) (Nat.le_refl _)).curn g4 (by omega)
  replace A := (A.below (below1 w3 _) (Nat.le_refl _)).curn g4 (by omega)
  replace q := (ownsI.below q (below1 w3 _) (Nat.le_refl _)).cur g4 (by omega)
  replace BW := below_cur (BW.trans ((below1 w3 _).mono BW.size)) g4 (by omega) (by have := BW.size; simp; omega)
  replace cu := cu4
  have hz4 : w2.heap.size < w4.heap.size := by have := A.hi; exact this
  clear hk hlit sb cu4 g4
  have kW := sWholeOf k w4 (by omega) (by omega)
  have hlk : (wofR k).2.length ≤ 98 := by
    show (limbs k.natAbs).length ≤ 98
    have := limbs_len_le k.natAbs 1 (by omega)
    omega
  generalize wofR k = rk at *
  go_wp2_with fail
  refine kW.mono ?_
  rintro e w5 ⟨v5, rfl, o5, b5⟩
  replace X := X.below b5 (Nat.le_refl _)
  replace Y := Y.below b5 (Nat.le_refl _)
  replace A := A.below b5 (Nat.le_refl _)
  replace q := ownsI.below q b5 (Nat.le_refl _)
  replace BW := BW.trans (b5.mono BW.size)
  replace cu := cu.below b5 cu.lt
  obtain ⟨g2, ys⟩ := rk
  obtain ⟨s5, rfl, pq⟩ := o5
  obtain ⟨ad2, cp2, rfl, -⟩ := pq.row
  have hz5 := b5.size
  have D := BoxW.made w5 (.bool g2) (.slice ad2 ys.length cp2) 26
  have bb := below1 w5 (.cells #[.bool g2, .slice ad2 ys.length cp2] 26)
  replace X := X.below bb (Nat.le_refl _)
  replace Y := Y.below bb (Nat.le_refl _)
  replace A := A.below bb (Nat.le_refl _)
  replace q := ownsI.below q bb (Nat.le_refl _)
  replace pq := ownsI.below pq bb (Nat.le_refl _)
  replace BW := BW.trans (bb.mono BW.size)
  replace cu := cu.alloc (.cells #[.bool g2, .slice ad2 ys.length cp2] 26)
  have sd : (w5.alloc (.cells #[.bool g2, .slice ad2 ys.length cp2] 26)).heap.size = w5.heap.size + 1 := by simp
  have ll98 : ys.length ≤ 98 := hlk
  clear bb b5 kW hlk
  go_wp2_with fail
  generalize w5.alloc (.cells #[.bool g2, .slice ad2 ys.length cp2] 26) = w6 at *
  refine (drOnce (w.heap.size + 1 + 1) 4 w6 cu (by omega)).mono ?_
  rintro e w7 ⟨t, rfl, cu7, g7⟩
  replace X := X.curn g7 (by omega)
  replace Y := Y.curn g7 (by omega)
  replace A := A.curn g7 (by omega)
  replace D := D.curn g7 (by omega)
  replace q := q.cur g7 (by omega)
  replace pq := pq.cur g7 (by omega)
  replace BW := below_cur BW g7 (by omega) BW.size
  replace cu := cu7
  have hz7 := g7.size
  have hlo1 : w.heap.size + 1 + 1 < w1.heap.size := hz1
  replace q := ownsI_mono q (show w.heap.size + 1 + 1 + 1 ≤ w1.heap.size by omega)
  replace pq := ownsI_mono pq (show w.heap.size + 1 + 1 + 1 ≤ w4.heap.size by omega)
  have A := (⟨by omega, A.hi, A.c0, A.c1, A.f0, A.f1⟩ : BoxW w7 (w.heap.size + 1 + 1 + 1) w2.heap.size _ _)
  have D := (⟨by omega, D.hi, D.c0, D.c1, D.f0, D.f1⟩ : BoxW w7 (w.heap.size + 1 + 1 + 1) w5.heap.size _ _)
  have hAD : w2.heap.size < w5.heap.size := by omega
  have HQ : Hid (Apart (blkI (.slice ad xs.length cp)) [w5.heap.size]) := fun k hk hs => by have := (q0.ltb k hk).2; simp at hs; omega
  clear q0
  generalize w2.heap.size = bA at *
  generalize w5.heap.size = bD at *
  clear g7 cu7
  cases t
  · go_wp2_with fail
    have bd := (Below.refl w7.heap.size w7).drew
    have X5 := X.below bd (Nat.le_refl _)
    have Y5 := Y.below bd (Nat.le_refl _)
    have A5 := A.below bd (Nat.le_refl _)
    have D5 := D.below bd (Nat.le_refl _)
    have q5 := ownsI.below q bd (Nat.le_refl _)
    have p5 := ownsI.below pq bd (Nat.le_refl _)
    have B5 := BW.trans (bd.mono BW.size)
    have c5 := cu.below bd cu.lt
    have hA := A.lo
    have hD := D.lo
    refine wp_region_held_drew (S := fun W => W.cell? ⟨bA, 0, none⟩ = some (.bool g) ∧ W.cell? ⟨bA, 1, none⟩ = some (.slice ad xs.length cp) ∧ W.cell? ⟨bD, 0, none⟩ = some (.bool g2) ∧ W.cell? ⟨bD, 1, none⟩ = some (.slice ad2 ys.length cp2)) (by kernel_rfl) ⟨A5.c0, A5.c1, D5.c0, D5.c1⟩ ?_
    intro hHeld
    clear X Y A D q pq BW cu bd
    generalize w7.drew = w9 at *
    refine takeH 0 (some 20) (.agg #[.bool g, .slice ad xs.length cp]) rfl rfl (by kernel_rfl) (by kernel_rfl) (by kernel_rfl) (fun _ _ _ h => h) (Or.inl ⟨rfl, fun W hW => by obtain ⟨_a, _b, _, _⟩ := hW; go_simp⟩) (by assumption) ?_
    simp only [Act.put, List.setIfInBounds_toArray, List.set_cons_zero, List.set_cons_succ]
    refine takeH 1 (some 21) (.agg #[.bool g2, .slice ad2 ys.length cp2]) rfl rfl (by kernel_rfl) (by kernel_rfl) (by kernel_rfl) (fun _ _ _ h => h) (Or.inl ⟨rfl, fun W hW => by obtain ⟨_, _, _a, _b⟩ := hW; go_simp⟩) (by assumption) ?_
    simp only [Act.put, List.setIfInBounds_toArray, List.set_cons_zero, List.set_cons_succ]
    refine takeH 2 (some 22) (.pointer (some ⟨w.heap.size + 1 + 1, 0, none⟩)) rfl rfl (by kernel_rfl) (by kernel_rfl) (by kernel_rfl) (fun _ _ _ h => h) (yg_move rfl (.tmp 5) rfl _ rfl) (by assumption) ?_
    simp only [Act.put, List.setIfInBounds_toArray, List.set_cons_zero, List.set_cons_succ]
    refine oneH 3 rfl (by kernel_rfl) (fun K' hK => ?_)
    go_simp
    refine (drModes (w.heap.size + 1 + 1) w9 c5).mono ?_
    rintro e w10 ⟨m, rfl, hm0, hm1, c6, g6⟩
    have X6 := X5.curn g6 (by omega)
    have Y6 := Y5.curn g6 (by omega)
    have A6 := A5.curn g6 (by omega)
    have D6 := D5.curn g6 (by omega)
    have q6 := q5.cur g6 (by omega)
    have p6 := p5.cur g6 (by omega)
    have B6 := below_cur B5 g6 (by omega) B5.size
    refine hK _ _ ⟨A6.c0, A6.c1, D6.c0, D6.c1⟩ ?_
    clear hK hHeld X5 Y5 A5 D5 q5 p5 B5 c5 g6
    have t1 := tn_two w10 w.heap.size (.bool g) (.slice ad xs.length cp)
    have A7 := A6.tn t1 (fun k hk hs => by simp at hk hs; omega)
    have D7 := D6.tn t1 (fun k hk hs => by simp at hk hs; omega)
    have Y7 := Y6.tn t1 (fun k hk hs => by simp at hk hs; omega)
    have q7 := (q6.set w.heap.size 0 (by omega) (.bool g)).set w.heap.size 1 (by omega) (.slice ad xs.length cp)
    have p7 := (p6.set w.heap.size 0 (by omega) (.bool g)).set w.heap.size 1 (by omega) (.slice ad xs.length cp)
    have B7 := (B6.setCell (p := ⟨w.heap.size, 0, none⟩) (Nat.le_refl _) (.bool g)).setCell (p := ⟨w.heap.size, 1, none⟩) (Nat.le_refl _) (.slice ad xs.length cp)
    have r0 := X6.c0
    have r1 := X6.c1
    have f0 := X6.f0
    have f1 := X6.f1
    have hn1 : ¬ w.heap.size = bA := by omega
    have hn2 : ¬ bA = w.heap.size := by omega
    have hn3 : ¬ w.heap.size = bD := by omega
    have hn4 : ¬ bD = w.heap.size := by omega
    have hn5 : ¬ w.heap.size + 1 = bA := by omega
    have hn6 : ¬ bA = w.heap.size + 1 := by omega
    have hn7 : ¬ w.heap.size + 1 = bD := by omega
    have hn8 : ¬ bD = w.heap.size + 1 := by omega
    refine oneH 4 rfl (by kernel_rfl) (fun K' hK => ?_)
    go_simp
    refine hK _ _ ⟨A7.c0, A7.c1, D7.c0, D7.c1⟩ ?_
    clear hK r0 r1 f0 f1
    generalize hW : (w10.setCell ⟨w.heap.size, 0, none⟩ (.bool g)).setCell ⟨w.heap.size, 1, none⟩ (.slice ad xs.length cp) = w11 at *
    have E11 : BoxW w11 w.heap.size w.heap.size (.bool g) (.slice ad xs.length cp) := by
      rw [← hW]
      exact X6.pairs (.bool g) (.slice ad xs.length cp)
    clear hW t1 A6 D6 Y6 X6 q6 p6 B6 c6
    have t2 := tn_two w11 (w.heap.size + 1) (.bool g2) (.slice ad2 ys.length cp2)
    have A8 := A7.tn t2 (fun k hk hs => by simp at hk hs; omega)
    have D8 := D7.tn t2 (fun k hk hs => by simp at hk hs; omega)
    have E12 := E11.tn t2 (fun k hk hs => by simp at hk hs; omega)
    have HO : Hid (rowW _ (.agg #[.bool g, .slice ad xs.length cp]) (g, xs) ∧ rowW _ (.agg #[.bool g2, .slice ad2 ys.length cp2]) (g2, ys) ∧ Below w.heap.size w _) := ⟨⟨_, rfl, ((q7.set (w.heap.size + 1) 0 (by omega) (.bool g2)).set (w.heap.size + 1) 1 (by omega) (.slice ad2 ys.length cp2)).row⟩, ⟨_, rfl, ((p7.set (w.heap.size + 1) 0 (by omega) (.bool g2)).set (w.heap.size + 1) 1 (by omega) (.slice ad2 ys.length cp2)).row⟩, (B7.setCell (p := ⟨w.heap.size + 1, 0, none⟩) (by show w.heap.size ≤ w.heap.size + 1; omega) (.bool g2)).setCell (p := ⟨w.heap.size + 1, 1, none⟩) (by show w.heap.size ≤ w.heap.size + 1; omega) (.slice ad2 ys.length cp2)⟩
    have r0 := Y7.c0
    have r1 := Y7.c1
    have f0 := Y7.f0
    have f1 := Y7.f1
    have u0 := E11.c0
    have u1 := E11.c1
    have v0 := E12.c0
    have v1 := E12.c1
    have hn9 : ¬ w.heap.size = w.heap.size + 1 := by omega
    have hn10 : ¬ w.heap.size + 1 = w.heap.size := by omega
    refine oneH 5 rfl (by kernel_rfl) (fun K' hK => ?_)
    go_simp
    refine hK _ _ ⟨A8.c0, A8.c1, D8.c0, D8.c1⟩ ?_
    clear hK
    have hHeld := (⟨A8.c0, A8.c1, D8.c0, D8.c1⟩ : _ ∧ _ ∧ _ ∧ _)
    refine takeH 6 (some 4) (.int .i64 m) rfl rfl (by kernel_rfl) (by kernel_rfl) (by kernel_rfl) (fun _ _ _ h => h) (yg_assign rfl (.tmp 23) rfl _ rfl) (by assumption) ?_
    simp only [Act.put, List.setIfInBounds_toArray, List.set_cons_zero, List.set_cons_succ]
    refine wpAnyH_done (by kernel_rfl) ?_ _
    clear hHeld A7 A8 D7 D8 q7 p7 B7 Y7 E11 E12 t2
    go_wp2
    (try simp only [Exit.inBlock, Exit.then])
    refine bodyPost_ret (v := .tuple #[.agg #[.bool g, .slice ad xs.length cp], .agg #[.bool g2, .slice ad2 ys.length cp2], .int .i64 m]) ?_ rfl ⟨_, _, (g, xs), (g2, ys), m, rfl, HO.out.1, HO.out.2.1, hl98, ll98, hm0, hm1, HO.out.2.2⟩
    rw [results_cell2_tmp1 rfl]
    go_simp
  · go_wp2_with fail
    refine (drWDraw (w.heap.size + 1 + 1) w7 cu).mono ?_
    rintro e w8 ⟨v8, r8, rfl, o8, l8, cu8, g8⟩
    replace X := X.curn g8 (by omega)
    replace Y := Y.curn g8 (by omega)
    have hAl := A.lo
    have hDl := D.lo
    have hDh := D.hi
    replace A := A.curn g8 (by omega)
    replace D := D.curn g8 (by omega)
    replace q := q.cur g8 (by omega)
    replace BW := below_cur BW g8 (by omega) BW.size
    replace cu := cu8
    clear pq g8 cu8
    obtain ⟨g3, ks⟩ := r8
    obtain ⟨s8, rfl, pq⟩ := o8
    obtain ⟨ad3, cp3, rfl, -⟩ := pq.row
    have ll98 : ks.length ≤ 98 := l8
    have d0 := D.c0
    have d1 := D.c1
    have df0 := D.f0
    have df1 := D.f1
    have t8 := tn_two w8 bD (.bool g3) (.slice ad3 ks.length cp3)
    replace X := X.tn t8 (fun k hk hs => by simp at hk hs; omega)
    replace Y := Y.tn t8 (fun k hk hs => by simp at hk hs; omega)
    replace A := A.tn t8 (fun k hk hs => by simp at hk hs; omega)
    have D := D.pairs (.bool g3) (.slice ad3 ks.length cp3)
    replace BW := (BW.setCell (p := ⟨bD, 0, none⟩) (by show w.heap.size ≤ bD; omega) (.bool g3)).setCell (p := ⟨bD, 1, none⟩) (by show w.heap.size ≤ bD; omega) (.slice ad3 ks.length cp3)
    replace cu := (cu.set bD 0 (by omega) (.bool g3)).set bD 1 (by omega) (.slice ad3 ks.length cp3)
    replace pq := ownsI_mono ((pq.set bD 0 (by omega) (.bool g3)).set bD 1 (by omega) (.slice ad3 ks.length cp3)) (show w.heap.size + 1 + 1 + 1 ≤ w7.heap.size by omega)
    have hqa : Apart (blkI (.slice ad xs.length cp)) [bD] := HQ.out
    replace q := q.tn t8 hqa
    go_wp2_with fail
    clear d0 d1 df0 df1 t8
    generalize (w8.setCell ⟨bD, 0, none⟩ (.bool g3)).setCell ⟨bD, 1, none⟩ (.slice ad3 ks.length cp3) = w8' at *
    have bd := (Below.refl w8'.heap.size w8').drew
    have X5 := X.below bd (Nat.le_refl _)
    have Y5 := Y.below bd (Nat.le_refl _)
    have A5 := A.below bd (Nat.le_refl _)
    have D5 := D.below bd (Nat.le_refl _)
    have q5 := ownsI.below q bd (Nat.le_refl _)
    have p5 := ownsI.below pq bd (Nat.le_refl _)
    have B5 := BW.trans (bd.mono BW.size)
    have c5 := cu.below bd cu.lt
    have hA := A.lo
    have hD := D.lo
    refine wp_region_held_drew (S := fun W => W.cell? ⟨bA, 0, none⟩ = some (.bool g) ∧ W.cell? ⟨bA, 1, none⟩ = some (.slice ad xs.length cp) ∧ W.cell? ⟨bD, 0, none⟩ = some (.bool g3) ∧ W.cell? ⟨bD, 1, none⟩ = some (.slice ad3 ks.length cp3)) (by kernel_rfl) ⟨A5.c0, A5.c1, D5.c0, D5.c1⟩ ?_
    intro hHeld
    clear X Y A D q pq BW cu bd
    generalize w8'.drew = w9 at *
    refine takeH 0 (some 20) (.agg #[.bool g, .slice ad xs.length cp]) rfl rfl (by kernel_rfl) (by kernel_rfl) (by kernel_rfl) (fun _ _ _ h => h) (Or.inl ⟨rfl, fun W hW => by obtain ⟨_a, _b, _, _⟩ := hW; go_simp⟩) (by assumption) ?_
    simp only [Act.put, List.setIfInBounds_toArray, List.set_cons_zero, List.set_cons_succ]
    refine takeH 1 (some 21) (.agg #[.bool g3, .slice ad3 ks.length cp3]) rfl rfl (by kernel_rfl) (by kernel_rfl) (by kernel_rfl) (fun _ _ _ h => h) (Or.inl ⟨rfl, fun W hW => by obtain ⟨_, _, _a, _b⟩ := hW; go_simp⟩) (by assumption) ?_
    simp only [Act.put, List.setIfInBounds_toArray, List.set_cons_zero, List.set_cons_succ]
    refine takeH 2 (some 22) (.pointer (some ⟨w.heap.size + 1 + 1, 0, none⟩)) rfl rfl (by kernel_rfl) (by kernel_rfl) (by kernel_rfl) (fun _ _ _ h => h) (yg_move rfl (.tmp 5) rfl _ rfl) (by assumption) ?_
    simp only [Act.put, List.setIfInBounds_toArray, List.set_cons_zero, List.set_cons_succ]
    refine oneH 3 rfl (by kernel_rfl) (fun K' hK => ?_)
    go_simp
    refine (drModes (w.heap.size + 1 + 1) w9 c5).mono ?_
    rintro e w10 ⟨m, rfl, hm0, hm1, c6, g6⟩
    have X6 := X5.curn g6 (by omega)
    have Y6 := Y5.curn g6 (by omega)
    have A6 := A5.curn g6 (by omega)
    have D6 := D5.curn g6 (by omega)
    have q6 := q5.cur g6 (by omega)
    have p6 := p5.cur g6 (by omega)
    have B6 := below_cur B5 g6 (by omega) B5.size
    refine hK _ _ ⟨A6.c0, A6.c1, D6.c0, D6.c1⟩ ?_
    clear hK hHeld X5 Y5 A5 D5 q5 p5 B5 c5 g6
    have t1 := tn_two w10 w.heap.size (.bool g) (.slice ad xs.length cp)
    have A7 := A6.tn t1 (fun k hk hs => by simp at hk hs; omega)
    have D7 := D6.tn t1 (fun k hk hs => by simp at hk hs; omega)
    have Y7 := Y6.tn t1 (fun k hk hs => by simp at hk hs; omega)
    have q7 := (q6.set w.heap.size 0 (by omega) (.bool g)).set w.heap.size 1 (by omega) (.slice ad xs.length cp)
    have p7 := (p6.set w.heap.size 0 (by omega) (.bool g)).set w.heap.size 1 (by omega) (.slice ad xs.length cp)
    have B7 := (B6.setCell (p := ⟨w.heap.size, 0, none⟩) (Nat.le_refl _) (.bool g)).setCell (p := ⟨w.heap.size, 1, none⟩) (Nat.le_refl _) (.slice ad xs.length cp)
    have r0 := X6.c0
    have r1 := X6.c1
    have f0 := X6.f0
    have f1 := X6.f1
    have hn1 : ¬ w.heap.size = bA := by omega
    have hn2 : ¬ bA = w.heap.size := by omega
    have hn3 : ¬ w.heap.size = bD := by omega
    have hn4 : ¬ bD = w.heap.size := by omega
    have hn5 : ¬ w.heap.size + 1 = bA := by omega
    have hn6 : ¬ bA = w.heap.size + 1 := by omega
    have hn7 : ¬ w.heap.size + 1 = bD := by omega
    have hn8 : ¬ bD = w.heap.size + 1 := by omega
    refine oneH 4 rfl (by kernel_rfl) (fun K' hK => ?_)
    go_simp
    refine hK _ _ ⟨A7.c0, A7.c1, D7.c0, D7.c1⟩ ?_
    clear hK r0 r1 f0 f1
    generalize hW : (w10.setCell ⟨w.heap.size, 0, none⟩ (.bool g)).setCell ⟨w.heap.size, 1, none⟩ (.slice ad xs.length cp) = w11 at *
    have E11 : BoxW w11 w.heap.size w.heap.size (.bool g) (.slice ad xs.length cp) := by
      rw [← hW]
      exact X6.pairs (.bool g) (.slice ad xs.length cp)
    clear hW t1 A6 D6 Y6 X6 q6 p6 B6 c6
    have t2 := tn_two w11 (w.heap.size + 1) (.bool g3) (.slice ad3 ks.length cp3)
    have A8 := A7.tn t2 (fun k hk hs => by simp at hk hs; omega)
    have D8 := D7.tn t2 (fun k hk hs => by simp at hk hs; omega)
    have E12 := E11.tn t2 (fun k hk hs => by simp at hk hs; omega)
    have HO : Hid (rowW _ (.agg #[.bool g, .slice ad xs.length cp]) (g, xs) ∧ rowW _ (.agg #[.bool g3, .slice ad3 ks.length cp3]) (g3, ks) ∧ Below w.heap.size w _) := ⟨⟨_, rfl, ((q7.set (w.heap.size + 1) 0 (by omega) (.bool g3)).set (w.heap.size + 1) 1 (by omega) (.slice ad3 ks.length cp3)).row⟩, ⟨_, rfl, ((p7.set (w.heap.size + 1) 0 (by omega) (.bool g3)).set (w.heap.size + 1) 1 (by omega) (.slice ad3 ks.length cp3)).row⟩, (B7.setCell (p := ⟨w.heap.size + 1, 0, none⟩) (by show w.heap.size ≤ w.heap.size + 1; omega) (.bool g3)).setCell (p := ⟨w.heap.size + 1, 1, none⟩) (by show w.heap.size ≤ w.heap.size + 1; omega) (.slice ad3 ks.length cp3)⟩
    have r0 := Y7.c0
    have r1 := Y7.c1
    have f0 := Y7.f0
    have f1 := Y7.f1
    have u0 := E11.c0
    have u1 := E11.c1
    have v0 := E12.c0
    have v1 := E12.c1
    have hn9 : ¬ w.heap.size = w.heap.size + 1 := by omega
    have hn10 : ¬ w.heap.size + 1 = w.heap.size := by omega
    refine oneH 5 rfl (by kernel_rfl) (fun K' hK => ?_)
    go_simp
    refine hK _ _ ⟨A8.c0, A8.c1, D8.c0, D8.c1⟩ ?_
    clear hK
    have hHeld := (⟨A8.c0, A8.c1, D8.c0, D8.c1⟩ : _ ∧ _ ∧ _ ∧ _)
    refine takeH 6 (some 4) (.int .i64 m) rfl rfl (by kernel_rfl) (by kernel_rfl) (by kernel_rfl) (fun _ _ _ h => h) (yg_assign rfl (.tmp 23) rfl _ rfl) (by assumption) ?_
    simp only [Act.put, List.setIfInBounds_toArray, List.set_cons_zero, List.set_cons_succ]
    refine wpAnyH_done (by kernel_rfl) ?_ _
    clear hHeld A7 A8 D7 D8 q7 p7 B7 Y7 E11 E12 t2
    go_wp2
    (try simp only [Exit.inBlock, Exit.then])
    refine bodyPost_ret (v := .tuple #[.agg #[.bool g, .slice ad xs.length cp], .agg #[.bool g3, .slice ad3 ks.length cp3], .int .i64 m]) ?_ rfl ⟨_, _, (g, xs), (g3, ks), m, rfl, HO.out.1, HO.out.2.1, hl98, ll98, hm0, hm1, HO.out.2.2⟩
    rw [results_cell2_tmp1 rfl]
    go_simp

end Go.Proofs.Ytlnpfjnpnjiepaa
