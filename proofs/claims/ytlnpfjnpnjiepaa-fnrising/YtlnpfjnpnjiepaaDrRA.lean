/- DrawRoundAt, by its contract. -/
import Derived.Test.YtlnpfjnpnjiepaaDrR0
namespace Go.Proofs.Ytlnpfjnpnjiepaa
open Go.RowKit
set_option linter.unusedSimpArgs false

set_option maxRecDepth 20000 in
set_option maxHeartbeats 6400000 in
theorem drRAt (a : Option Addr) (len cap : Nat) (zs : List Int) (w : World) (hlen : len ≤ 1048576) (h : CodeIs w a len cap zs) :
    Calls Try.prog 28 #[.slice a len cap] w (DrawnWKM w) := by
  have X := BoxW.made w (.bool false) (.slice none 0 0) 26
  have s0 : (w.alloc (.cells #[.bool false, .slice none 0 0] 26)).heap.size = w.heap.size + 1 := by simp
  have BW := below1 w (.cells #[.bool false, .slice none 0 0] 26)
  have h := h.below BW
  go_enter Try.func28, Try.ntmps28
  go_wp2_with fail
  generalize w.alloc (.cells #[.bool false, .slice none 0 0] 26) = w0 at *
  refine (curNew a len cap zs w0 hlen h).mono ?_
  rintro e w1 ⟨rfl, cu, b1⟩
  rw [s0] at cu
  replace X := X.below b1 (Nat.le_refl _)
  replace BW := BW.trans (b1.mono BW.size)
  have hz1 := cu.lt
  rw [s0]
  clear h s0 b1
  go_wp2_with fail
  refine (drInt (w.heap.size + 1) w1 cu).mono ?_
  rintro e w2 ⟨v2, r2, rfl, o2, l2, cu, g2⟩
  replace X := X.curn g2 (by omega)
  replace BW := below_cur BW g2 (by omega) BW.size
  obtain ⟨g, xs⟩ := r2
  obtain ⟨s2, rfl, q2⟩ := o2
  obtain ⟨ad, cp, rfl, -⟩ := q2.row
  have A := BoxW.made w2 (.bool g) (.slice ad xs.length cp) 26
  have bb := below1 w2 (.cells #[.bool g, .slice ad xs.length cp] 26)
  have sb : (w2.alloc (.cells #[.bool g, .slice ad xs.length cp] 26)).heap.size = w2.heap.size + 1 := by simp
  have hz2 := g2.size
  replace X := X.below bb (Nat.le_refl _)
  have q := ownsI.below q2 bb (Nat.le_refl _)
  replace cu := cu.alloc (.cells #[.bool g, .slice ad xs.length cp] 26)
  replace BW := BW.trans (bb.mono BW.size)
  have hl98 : xs.length ≤ 98 := l2
  clear bb g2 q2 l2
  have hlit := fun W => lit_cells W [0, 1, 1, 2, 2, 3, 24, 30, 100, 600, 601, -1] 3
  go_wp2_with fail
  generalize w2.alloc (.cells #[.bool g, .slice ad xs.length cp] 26) = w3 at *
  have hlit := hlit w3
  rw [sb] at hlit
  refine (pickInt (w.heap.size + 1) (w2.heap.size + 1) 12 12 [0, 1, 1, 2, 2, 3, 24, 30, 100, 600, 601, -1] _ (cu.alloc _) rfl (by omega) (by omega) (by omega) hlit).mono ?_
  rintro e w4 ⟨k, rfl, hk, cu4, g4⟩
  have hk' : -2000 ≤ k ∧ k ≤ 2000 := by simp at hk; omega
  replace X := (X.below (below1 w3 _) (Nat.le_refl _)).curn g4 (by omega)
  replace A := (A.below (below1 w3 _) (Nat.le_refl _)).curn g4 (by omega)
  replace q := (ownsI.below q (below1 w3 _) (Nat.le_refl _)).cur g4 (by omega)
  replace BW := below_cur (BW.trans ((below1 w3 _).mono BW.size)) g4 (by omega) (by have := BW.size; simp; omega)
  clear hk hlit cu sb
  go_wp2_with fail
  have bd := (Below.refl w4.heap.size w4).drew
  have X5 := X.below bd (Nat.le_refl _)
  have A5 := A.below bd (Nat.le_refl _)
  have q5 := ownsI.below q bd (Nat.le_refl _)
  have B5 := BW.trans (bd.mono BW.size)
  have c5 := cu4.below bd cu4.lt
  refine wp_region_held_drew (S := fun W => W.cell? ⟨w2.heap.size, 0, none⟩ = some (.bool g) ∧ W.cell? ⟨w2.heap.size, 1, none⟩ = some (.slice ad xs.length cp)) (by kernel_rfl) ⟨A5.c0, A5.c1⟩ ?_
  intro hHeld
  clear X A q BW cu4 bd
  generalize w4.drew = w5 at *
  refine takeH 0 (some 15) (.agg #[.bool g, .slice ad xs.length cp]) rfl rfl (by kernel_rfl) (by kernel_rfl) (by kernel_rfl) (fun _ _ _ h => h) (Or.inl ⟨rfl, fun W hW => by obtain ⟨_a, _b⟩ := hW; go_simp⟩) (by assumption) ?_
  simp only [Act.put, List.setIfInBounds_toArray, List.set_cons_zero, List.set_cons_succ]
  refine takeH 1 (some 16) (.int .i64 k) rfl rfl (by kernel_rfl) (by kernel_rfl) (by kernel_rfl) (fun _ _ _ h => h) (yg_move rfl (.tmp 7) rfl _ rfl) (by assumption) ?_
  simp only [Act.put, List.setIfInBounds_toArray, List.set_cons_zero, List.set_cons_succ]
  refine takeH 2 (some 17) (.pointer (some ⟨w.heap.size + 1, 0, none⟩)) rfl rfl (by kernel_rfl) (by kernel_rfl) (by kernel_rfl) (fun _ _ _ h => h) (yg_move rfl (.tmp 5) rfl _ rfl) (by assumption) ?_
  simp only [Act.put, List.setIfInBounds_toArray, List.set_cons_zero, List.set_cons_succ]
  refine oneH 3 rfl (by kernel_rfl) (fun K' hK => ?_)
  go_simp
  refine (drModes (w.heap.size + 1) w5 c5).mono ?_
  rintro e w6 ⟨m, rfl, hm0, hm1, c6, g6⟩
  have X6 := X5.curn g6 (by omega)
  have A6 := A5.curn g6 (by omega)
  have q6 := q5.cur g6 (by omega)
  have B6 := below_cur B5 g6 (by omega) B5.size
  refine hK _ _ ⟨A6.c0, A6.c1⟩ ?_
  clear hK hHeld X5 A5 q5 B5 c5 g6
  have HO : Hid (rowW _ _ _ ∧ Below _ _ _) := drOut g q6 (show w.heap.size < w1.heap.size by omega) (Nat.le_refl _) B6
  have r0 := X6.c0
  have r1 := X6.c1
  have f0 := X6.f0
  have f1 := X6.f1
  have hne : ¬ w.heap.size = w2.heap.size := by omega
  have hne' : ¬ w2.heap.size = w.heap.size := by omega
  have A7 := A6.tn (tn_two w6 w.heap.size (.bool g) (.slice ad xs.length cp)) (fun k hk hs => by simp at hk hs; omega)
  refine oneH 4 rfl (by kernel_rfl) (fun K' hK => ?_)
  go_simp
  refine hK _ _ ⟨A7.c0, A7.c1⟩ ?_
  clear hK
  have hHeld := (⟨A7.c0, A7.c1⟩ : _ ∧ _)
  refine takeH 5 (some 3) (.int .i64 k) rfl rfl (by kernel_rfl) (by kernel_rfl) (by kernel_rfl) (fun _ _ _ h => h) (yg_assign rfl (.tmp 16) rfl _ rfl) (by assumption) ?_
  simp only [Act.put, List.setIfInBounds_toArray, List.set_cons_zero, List.set_cons_succ]
  refine takeH 6 (some 4) (.int .i64 m) rfl rfl (by kernel_rfl) (by kernel_rfl) (by kernel_rfl) (fun _ _ _ h => h) (yg_assign rfl (.tmp 18) rfl _ rfl) (by assumption) ?_
  simp only [Act.put, List.setIfInBounds_toArray, List.set_cons_zero, List.set_cons_succ]
  refine wpAnyH_done (by kernel_rfl) ?_ _
  clear hHeld A6 A7 q6 B6 c6 X6
  go_wp2
  (try simp only [Exit.inBlock, Exit.then])
  refine bodyPost_ret (v := .tuple #[.agg #[.bool g, .slice ad xs.length cp], .int .i64 k, .int .i64 m]) ?_ rfl ⟨_, (g, xs), k, m, rfl, HO.out.1, hl98, hk'.1, hk'.2, hm0, hm1, HO.out.2⟩
  rw [results_cell_tmp2 rfl]
  go_simp

end Go.Proofs.Ytlnpfjnpnjiepaa
