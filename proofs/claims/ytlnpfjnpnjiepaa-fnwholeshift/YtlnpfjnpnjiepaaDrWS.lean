/- DrawWholeShift, by its contract. -/
import Derived.Test.YtlnpfjnpnjiepaaDrR0
namespace Go.Proofs.Ytlnpfjnpnjiepaa
open Go.RowKit
set_option linter.unusedSimpArgs false

set_option maxRecDepth 20000 in
set_option maxHeartbeats 6400000 in
theorem drWShift (a : Option Addr) (len cap : Nat) (zs : List Int) (w : World) (hlen : len ≤ 1048576) (h : CodeIs w a len cap zs) :
    Calls Try.prog 19 #[.slice a len cap] w (DrawnWK w) := by
  have X := BoxW.made w (.bool false) (.slice none 0 0) 26
  have s0 : (w.alloc (.cells #[.bool false, .slice none 0 0] 26)).heap.size = w.heap.size + 1 := by simp
  have BW := below1 w (.cells #[.bool false, .slice none 0 0] 26)
  have h := h.below BW
  go_enter Try.func19, Try.ntmps19
  go_wp2_with fail
  generalize w.alloc (.cells #[.bool false, .slice none 0 0] 26) = w0 at *
  refine (curNew a len cap zs w0 hlen h).mono ?_
  rintro e w1 ⟨rfl, cu, b1⟩
  rw [s0] at cu
  replace X := X.below b1 (Nat.le_refl _)
  replace BW := BW.trans (b1.mono BW.size)
  have hz1 := cu.lt
  rw [s0]
  clear h s0 b1
  go_wp2_with fail
  refine (drWDraw (w.heap.size + 1) w1 cu).mono ?_
  rintro e w2 ⟨v2, r2, rfl, o2, l2, cu, g2⟩
  replace X := X.curn g2 (by omega)
  replace BW := below_cur BW g2 (by omega) BW.size
  obtain ⟨g, xs⟩ := r2
  obtain ⟨s2, rfl, q2⟩ := o2
  obtain ⟨ad, cp, rfl, -⟩ := q2.row
  have A := BoxW.made w2 (.bool g) (.slice ad xs.length cp) 26
  have bb := below1 w2 (.cells #[.bool g, .slice ad xs.length cp] 26)
  have sb : (w2.alloc (.cells #[.bool g, .slice ad xs.length cp] 26)).heap.size = w2.heap.size + 1 := by simp
  have hz2 := g2.size
  replace X := X.below bb (Nat.le_refl _)
  have q := ownsI.below q2 bb (Nat.le_refl _)
  replace cu := cu.alloc (.cells #[.bool g, .slice ad xs.length cp] 26)
  replace BW := BW.trans (bb.mono BW.size)
  have hl98 : xs.length ≤ 98 := l2
  clear bb g2 q2 l2
  go_wp2_with fail
  generalize w2.alloc (.cells #[.bool g, .slice ad xs.length cp] 26) = w4 at *
  have bd := (Below.refl w4.heap.size w4).drew
  have X5 := X.below bd (Nat.le_refl _)
  have A5 := A.below bd (Nat.le_refl _)
  have q5 := ownsI.below q bd (Nat.le_refl _)
  have B5 := BW.trans (bd.mono BW.size)
  have c5 := cu.below bd cu.lt
  refine wp_region_held_drew (S := fun W => W.cell? ⟨w2.heap.size, 0, none⟩ = some (.bool g) ∧ W.cell? ⟨w2.heap.size, 1, none⟩ = some (.slice ad xs.length cp)) (by kernel_rfl) ⟨A5.c0, A5.c1⟩ ?_
  intro hHeld
  clear X A q BW cu bd sb
  generalize w4.drew = w5 at *
  refine takeH 0 (some 10) (.agg #[.bool g, .slice ad xs.length cp]) rfl rfl (by kernel_rfl) (by kernel_rfl) (by kernel_rfl) (fun _ _ _ h => h) (Or.inl ⟨rfl, fun W hW => by obtain ⟨_a, _b⟩ := hW; go_simp⟩) (by assumption) ?_
  simp only [Act.put, List.setIfInBounds_toArray, List.set_cons_zero, List.set_cons_succ]
  refine takeH 1 (some 11) (.pointer (some ⟨w.heap.size + 1, 0, none⟩)) rfl rfl (by kernel_rfl) (by kernel_rfl) (by kernel_rfl) (fun _ _ _ h => h) (yg_move rfl (.tmp 4) rfl _ rfl) (by assumption) ?_
  simp only [Act.put, List.setIfInBounds_toArray, List.set_cons_zero, List.set_cons_succ]
  refine takeH 2 (some 12) (.pointer (some ⟨w.heap.size + 1, 0, none⟩)) rfl rfl (by kernel_rfl) (by kernel_rfl) (by kernel_rfl) (fun _ _ _ h => h) (yg_move rfl (.tmp 4) rfl _ rfl) (by assumption) ?_
  simp only [Act.put, List.setIfInBounds_toArray, List.set_cons_zero, List.set_cons_succ]
  refine oneH 3 rfl (by kernel_rfl) (fun K' hK => ?_)
  go_simp
  refine (curBelow (w.heap.size + 1) 200 w5 c5 (by omega)).mono ?_
  rintro e w6 ⟨x, rfl, x0, x1, -, c6, g6⟩
  have x1' := x1 (by omega)
  have X6 := X5.curn g6 (by omega)
  have A6 := A5.curn g6 (by omega)
  have q6 := q5.cur g6 (by omega)
  have B6 := below_cur B5 g6 (by omega) B5.size
  refine hK _ _ ⟨A6.c0, A6.c1⟩ ?_
  clear hK hHeld X5 A5 q5 B5 c5 g6 x1
  have hHeld := (⟨A6.c0, A6.c1⟩ : _ ∧ _)
  have hx : IntKind.i64.wrap (x - 100) = x - 100 := by rw [IntKind.wrap_i64]; omega
  refine takeH 4 (some 14) (.int .i64 (x - 100)) rfl rfl (by kernel_rfl) (by kernel_rfl) (by kernel_rfl) (fun _ _ _ h => h) (Or.inl ⟨rfl, fun W hW => by obtain _ := hW; go_simp⟩) (by assumption) ?_
  simp only [Act.put, List.setIfInBounds_toArray, List.set_cons_zero, List.set_cons_succ]
  refine oneH 5 rfl (by kernel_rfl) (fun K' hK => ?_)
  go_simp
  have X7 := X6.below (below1 w6 (.cells (([0, 1, -1, -2, 24, -24, -25, 60, -100, 1152, -1152, 1153, -1153, x - 100] : List Int).map (Value.int .i64)).toArray 3)) (Nat.le_refl _)
  have A7 := A6.below (below1 w6 (.cells (([0, 1, -1, -2, 24, -24, -25, 60, -100, 1152, -1152, 1153, -1153, x - 100] : List Int).map (Value.int .i64)).toArray 3)) (Nat.le_refl _)
  have q7 := ownsI.below q6 (below1 w6 (.cells (([0, 1, -1, -2, 24, -24, -25, 60, -100, 1152, -1152, 1153, -1153, x - 100] : List Int).map (Value.int .i64)).toArray 3)) (Nat.le_refl _)
  have B7 := B6.trans ((below1 w6 (.cells (([0, 1, -1, -2, 24, -24, -25, 60, -100, 1152, -1152, 1153, -1153, x - 100] : List Int).map (Value.int .i64)).toArray 3)).mono B6.size)
  have c7 := c6.alloc (.cells (([0, 1, -1, -2, 24, -24, -25, 60, -100, 1152, -1152, 1153, -1153, x - 100] : List Int).map (Value.int .i64)).toArray 3)
  have hlit := lit_cells w6 [0, 1, -1, -2, 24, -24, -25, 60, -100, 1152, -1152, 1153, -1153, x - 100] 3
  refine hK _ _ ⟨A7.c0, A7.c1⟩ ?_
  clear hK hHeld
  refine oneH 6 rfl (by kernel_rfl) (fun K' hK => ?_)
  go_simp
  refine (pickInt (w.heap.size + 1) w6.heap.size 14 14 [0, 1, -1, -2, 24, -24, -25, 60, -100, 1152, -1152, 1153, -1153, x - 100] _ c7 rfl (by omega) (by omega) (by have := c6.lt; omega) hlit).mono ?_
  rintro e w8 ⟨k, rfl, hk, c8, g8⟩
  have hk' : -2000 ≤ k ∧ k ≤ 2000 := by simp at hk; omega
  have X8 := X7.curn g8 (by omega)
  have A8 := A7.curn g8 (by omega)
  have q8 := q7.cur g8 (by omega)
  have B8 := below_cur B7 g8 (by omega) B7.size
  refine hK _ _ ⟨A8.c0, A8.c1⟩ ?_
  clear hK X6 A6 q6 B6 c6 X7 A7 q7 B7 c7 g8 hlit hk
  have HO : Hid (rowW _ _ _ ∧ Below _ _ _) := drOut g q8 (show w.heap.size < w1.heap.size by omega) (Nat.le_refl _) B8
  have r0 := X8.c0
  have r1 := X8.c1
  have f0 := X8.f0
  have f1 := X8.f1
  have hne : ¬ w.heap.size = w2.heap.size := by omega
  have hne' : ¬ w2.heap.size = w.heap.size := by omega
  have A9 := A8.tn (tn_two w8 w.heap.size (.bool g) (.slice ad xs.length cp)) (fun k hk hs => by simp at hk hs; omega)
  refine oneH 7 rfl (by kernel_rfl) (fun K' hK => ?_)
  go_simp
  refine hK _ _ ⟨A9.c0, A9.c1⟩ ?_
  clear hK
  have hHeld := (⟨A9.c0, A9.c1⟩ : _ ∧ _)
  refine takeH 8 (some 3) (.int .i64 k) rfl rfl (by kernel_rfl) (by kernel_rfl) (by kernel_rfl) (fun _ _ _ h => h) (yg_assign rfl (.tmp 16) rfl _ rfl) (by assumption) ?_
  simp only [Act.put, List.setIfInBounds_toArray, List.set_cons_zero, List.set_cons_succ]
  refine wpAnyH_done (by kernel_rfl) ?_ _
  clear hHeld A8 A9 q8 B8 c8 X8
  go_wp2
  (try simp only [Exit.inBlock, Exit.then])
  refine bodyPost_ret (v := .tuple #[.agg #[.bool g, .slice ad xs.length cp], .int .i64 k]) ?_ rfl ⟨_, (g, xs), k, rfl, HO.out.1, hl98, hk'.1, hk'.2, HO.out.2⟩
  rw [results_cell_tmp rfl]
  go_simp

end Go.Proofs.Ytlnpfjnpnjiepaa
