/- l4Two and DrawWholeAdd, by their contracts. -/
import Derived.Test.YtlnpfjnpnjiepaaDrRF
import Derived.Test.YtlnpfjnpnjiepaaSW
namespace Go.Proofs.Ytlnpfjnpnjiepaa
open Go.RowKit
set_option linter.unusedSimpArgs false

def DrawnWW (w : World) (e : Ending) (w' : World) : Prop := ∃ v u a b, e = .returned (.tuple #[v, u]) ∧ ownsW w' w.heap.size v a ∧ ownsW w' w.heap.size u b ∧ a.2.length ≤ 98 ∧ b.2.length ≤ 98 ∧ Below w.heap.size w w'

set_option maxRecDepth 20000 in
set_option maxHeartbeats 12800000 in
theorem drWTwo (a : Option Addr) (len cap : Nat) (zs : List Int) (w : World) (hlen : len ≤ 1048576) (h : CodeIs w a len cap zs) :
    Calls Try.prog 35 #[.slice a len cap] w (DrawnWW w) := by
  have s1 : (w.alloc (.cells #[.bool false, .slice none 0 0] 26)).heap.size = w.heap.size + 1 := by simp
  have s0 : ((w.alloc (.cells #[.bool false, .slice none 0 0] 26)).alloc (.cells #[.bool false, .slice none 0 0] 26)).heap.size = w.heap.size + 1 + 1 := by simp
  have X := (BoxW.made w (.bool false) (.slice none 0 0) 26).below (below1 _ (.cells #[.bool false, .slice none 0 0] 26)) (Nat.le_refl _)
  have Y := BoxW.made (w.alloc (.cells #[.bool false, .slice none 0 0] 26)) (.bool false) (.slice none 0 0) 26
  rw [s1] at Y
  have BW := below2 w (.cells #[.bool false, .slice none 0 0] 26) (.cells #[.bool false, .slice none 0 0] 26)
  have h := h.below BW
  clear s1
  go_enter Try.func35, Try.ntmps35
  go_wp2_with fail
  generalize (w.alloc (.cells #[.bool false, .slice none 0 0] 26)).alloc (.cells #[.bool false, .slice none 0 0] 26) = w0 at *
  refine (curNew a len cap zs w0 hlen h).mono ?_
  rintro e w1 ⟨rfl, cu, b1⟩
  rw [s0] at cu
  replace X := X.below b1 (Nat.le_refl _)
  replace Y := Y.below b1 (Nat.le_refl _)
  replace BW := BW.trans (b1.mono BW.size)
  have hz1 := cu.lt
  rw [s0]
  clear h s0 b1
  go_wp2_with fail
  refine (drWDraw (w.heap.size + 1 + 1) w1 cu).mono ?_
  rintro e w2 ⟨v2, r2, rfl, o2, l2, cu, g2⟩
  replace X := X.curn g2 (by omega)
  replace Y := Y.curn g2 (by omega)
  replace BW := below_cur BW g2 (by omega) BW.size
  obtain ⟨g, xs⟩ := r2
  obtain ⟨s2, rfl, q2⟩ := o2
  obtain ⟨ad, cp, rfl, -⟩ := q2.row
  have A := BoxW.made w2 (.bool g) (.slice ad xs.length cp) 26
  have bb := below1 w2 (.cells #[.bool g, .slice ad xs.length cp] 26)
  have sb : (w2.alloc (.cells #[.bool g, .slice ad xs.length cp] 26)).heap.size = w2.heap.size + 1 := by simp
  have hz2 := g2.size
  replace X := X.below bb (Nat.le_refl _)
  replace Y := Y.below bb (Nat.le_refl _)
  have q := ownsI.below q2 bb (Nat.le_refl _)
  replace cu := cu.alloc (.cells #[.bool g, .slice ad xs.length cp] 26)
  replace BW := BW.trans (bb.mono BW.size)
  have hl98 : xs.length ≤ 98 := l2
  clear bb g2 q2 l2
  go_wp2_with fail
  generalize w2.alloc (.cells #[.bool g, .slice ad xs.length cp] 26) = w3 at *
  refine (drOnce (w.heap.size + 1 + 1) 5 w3 cu (by omega)).mono ?_
  rintro e w4 ⟨t, rfl, cu4, g4⟩
  replace X := X.curn g4 (by omega)
  replace Y := Y.curn g4 (by omega)
  replace A := A.curn g4 (by omega)
  replace q := q.cur g4 (by omega)
  replace BW := below_cur BW g4 (by omega) BW.size
  replace cu := cu4
  have hz4 := g4.size
  replace q := ownsI_mono q (show w.heap.size + 1 + 1 + 1 ≤ w1.heap.size by omega)
  have A := (⟨by omega, A.hi, A.c0, A.c1, A.f0, A.f1⟩ : BoxW w4 (w.heap.size + 1 + 1 + 1) w2.heap.size _ _)
  generalize w2.heap.size = bA at *
  clear g4 cu4 sb
  have hA := A.lo
  have bd := (Below.refl w4.heap.size w4).drew
  replace X := X.below bd (Nat.le_refl _)
  replace Y := Y.below bd (Nat.le_refl _)
  replace A := A.below bd (Nat.le_refl _)
  replace q := ownsI.below q bd (Nat.le_refl _)
  replace BW := BW.trans (bd.mono BW.size)
  replace cu := cu.below bd cu.lt
  clear bd
  cases t
  · go_wp2_with fail
    refine wp_region_held_drew (S := fun W => W.cell? ⟨bA, 0, none⟩ = some (.bool g) ∧ W.cell? ⟨bA, 1, none⟩ = some (.slice ad xs.length cp)) (by kernel_rfl) ⟨A.c0, A.c1⟩ ?_
    intro hHeld
    generalize w4.drew = w5 at *
    refine takeH 0 (some 20) (.agg #[.bool g, .slice ad xs.length cp]) rfl rfl (by kernel_rfl) (by kernel_rfl) (by kernel_rfl) (fun _ _ _ h => h) (Or.inl ⟨rfl, fun W hW => by obtain ⟨_a, _b⟩ := hW; go_simp⟩) (by assumption) ?_
    simp only [Act.put, List.setIfInBounds_toArray, List.set_cons_zero, List.set_cons_succ]
    refine takeH 1 (some 21) (.pointer (some ⟨w.heap.size + 1 + 1, 0, none⟩)) rfl rfl (by kernel_rfl) (by kernel_rfl) (by kernel_rfl) (fun _ _ _ h => h) (yg_move rfl (.tmp 4) rfl _ rfl) (by assumption) ?_
    simp only [Act.put, List.setIfInBounds_toArray, List.set_cons_zero, List.set_cons_succ]
    refine oneH 2 rfl (by kernel_rfl) (fun K' hK => ?_)
    go_simp
    refine (drWDraw (w.heap.size + 1 + 1) w5 cu).mono ?_
    rintro e w6 ⟨v6, r6, rfl, o6, l6, cu, g6⟩
    have hz5 : w.heap.size + 1 + 1 + 1 ≤ w5.heap.size := by have := A.hi; omega
    replace X := X.curn g6 (by omega)
    replace Y := Y.curn g6 (by omega)
    replace A := A.curn g6 (by omega)
    replace q := q.cur g6 (by omega)
    replace BW := below_cur BW g6 (by omega) BW.size
    obtain ⟨g2, ys⟩ := r6
    obtain ⟨s6, rfl, pq⟩ := o6
    obtain ⟨ad2, cp2, rfl, -⟩ := pq.row
    replace pq := ownsI_mono pq hz5
    have ll98 : ys.length ≤ 98 := l6
    refine hK _ _ ⟨A.c0, A.c1⟩ ?_
    clear hK hHeld g6
    have t1 := tn_two w6 w.heap.size (.bool g) (.slice ad xs.length cp)
    have A7 := A.tn t1 (fun k hk hs => by simp at hk hs; omega)
    have Y7 := Y.tn t1 (fun k hk hs => by simp at hk hs; omega)
    have q7 := (q.set w.heap.size 0 (by omega) (.bool g)).set w.heap.size 1 (by omega) (.slice ad xs.length cp)
    have p7 := (pq.set w.heap.size 0 (by omega) (.bool g)).set w.heap.size 1 (by omega) (.slice ad xs.length cp)
    have B7 := (BW.setCell (p := ⟨w.heap.size, 0, none⟩) (Nat.le_refl _) (.bool g)).setCell (p := ⟨w.heap.size, 1, none⟩) (Nat.le_refl _) (.slice ad xs.length cp)
    have r0 := X.c0
    have r1 := X.c1
    have f0 := X.f0
    have f1 := X.f1
    have hn1 : ¬ w.heap.size = bA := by omega
    have hn2 : ¬ bA = w.heap.size := by omega
    have hn5 : ¬ w.heap.size + 1 = bA := by omega
    have hn6 : ¬ bA = w.heap.size + 1 := by omega
    refine oneH 3 rfl (by kernel_rfl) (fun K' hK => ?_)
    go_simp
    refine hK _ _ ⟨A7.c0, A7.c1⟩ ?_
    clear hK r0 r1 f0 f1
    generalize hW : (w6.setCell ⟨w.heap.size, 0, none⟩ (.bool g)).setCell ⟨w.heap.size, 1, none⟩ (.slice ad xs.length cp) = w11 at *
    have E11 : BoxW w11 w.heap.size w.heap.size (.bool g) (.slice ad xs.length cp) := by
      rw [← hW]
      exact X.pairs (.bool g) (.slice ad xs.length cp)
    clear hW t1 A Y X q pq BW cu
    have t2 := tn_two w11 (w.heap.size + 1) (.bool g2) (.slice ad2 ys.length cp2)
    have A8 := A7.tn t2 (fun k hk hs => by simp at hk hs; omega)
    have E12 := E11.tn t2 (fun k hk hs => by simp at hk hs; omega)
    have HO : Hid (ownsW _ w.heap.size (.agg #[.bool g, .slice ad xs.length cp]) (g, xs) ∧ ownsW _ w.heap.size (.agg #[.bool g2, .slice ad2 ys.length cp2]) (g2, ys) ∧ Below w.heap.size w _) := ⟨⟨_, rfl, ownsI_mono ((q7.set (w.heap.size + 1) 0 (by omega) (.bool g2)).set (w.heap.size + 1) 1 (by omega) (.slice ad2 ys.length cp2)) (by omega)⟩, ⟨_, rfl, ownsI_mono ((p7.set (w.heap.size + 1) 0 (by omega) (.bool g2)).set (w.heap.size + 1) 1 (by omega) (.slice ad2 ys.length cp2)) (by omega)⟩, (B7.setCell (p := ⟨w.heap.size + 1, 0, none⟩) (by show w.heap.size ≤ w.heap.size + 1; omega) (.bool g2)).setCell (p := ⟨w.heap.size + 1, 1, none⟩) (by show w.heap.size ≤ w.heap.size + 1; omega) (.slice ad2 ys.length cp2)⟩
    have r0 := Y7.c0
    have r1 := Y7.c1
    have f0 := Y7.f0
    have f1 := Y7.f1
    have u0 := E11.c0
    have u1 := E11.c1
    have v0 := E12.c0
    have v1 := E12.c1
    have hn9 : ¬ w.heap.size = w.heap.size + 1 := by omega
    have hn10 : ¬ w.heap.size + 1 = w.heap.size := by omega
    refine oneH 4 rfl (by kernel_rfl) (fun K' hK => ?_)
    go_simp
    refine hK _ _ ⟨A8.c0, A8.c1⟩ ?_
    clear hK
    refine wpAnyH_done (by kernel_rfl) ?_ _
    clear A7 A8 q7 p7 B7 Y7 E11 E12 t2
    go_wp2
    (try simp only [Exit.inBlock, Exit.then])
    refine bodyPost_ret (v := .tuple #[.agg #[.bool g, .slice ad xs.length cp], .agg #[.bool g2, .slice ad2 ys.length cp2]]) ?_ rfl ⟨_, _, (g, xs), (g2, ys), rfl, HO.out.1, HO.out.2.1, hl98, ll98, HO.out.2.2⟩
    rw [results_cell2 rfl]
    go_simp
  · go_wp2_with fail
    refine wp_region_held_drew (S := fun W => W.cell? ⟨bA, 0, none⟩ = some (.bool g) ∧ W.cell? ⟨bA, 1, none⟩ = some (.slice ad xs.length cp)) (by kernel_rfl) ⟨A.c0, A.c1⟩ ?_
    intro hHeld
    generalize w4.drew = w5 at *
    refine takeH 0 (some 12) (.agg #[.bool g, .slice ad xs.length cp]) rfl rfl (by kernel_rfl) (by kernel_rfl) (by kernel_rfl) (fun _ _ _ h => h) (Or.inl ⟨rfl, fun W hW => by obtain ⟨_a, _b⟩ := hW; go_simp⟩) (by assumption) ?_
    simp only [Act.put, List.setIfInBounds_toArray, List.set_cons_zero, List.set_cons_succ]
    refine takeH 1 (some 13) (.pointer (some ⟨bA, 0, none⟩)) rfl rfl (by kernel_rfl) (by kernel_rfl) (by kernel_rfl) (fun _ _ _ h => h) (Or.inl ⟨rfl, fun W hW => by obtain _ := hW; go_simp⟩) (by assumption) ?_
    simp only [Act.put, List.setIfInBounds_toArray, List.set_cons_zero, List.set_cons_succ]
    refine takeH 2 (some 14) (.bool g) rfl rfl (by kernel_rfl) (by kernel_rfl) (by kernel_rfl) (fun _ _ _ h => h) (Or.inl ⟨rfl, fun W hW => by obtain ⟨_a, _b⟩ := hW; go_simp⟩) (by assumption) ?_
    simp only [Act.put, List.setIfInBounds_toArray, List.set_cons_zero, List.set_cons_succ]
    refine takeH 4 (some 16) (.pointer (some ⟨bA, 1, none⟩)) rfl rfl (by kernel_rfl) (by kernel_rfl) (by kernel_rfl) (fun _ _ _ h => h) (Or.inl ⟨rfl, fun W hW => by obtain _ := hW; go_simp⟩) (by assumption) ?_
    simp only [Act.put, List.setIfInBounds_toArray, List.set_cons_zero, List.set_cons_succ]
    refine takeH 5 (some 17) (.slice ad xs.length cp) rfl rfl (by kernel_rfl) (by kernel_rfl) (by kernel_rfl) (fun _ _ _ h => h) (Or.inl ⟨rfl, fun W hW => by obtain ⟨_a, _b⟩ := hW; go_simp⟩) (by assumption) ?_
    simp only [Act.put, List.setIfInBounds_toArray, List.set_cons_zero, List.set_cons_succ]
    have hm := made_own w5
    have X9 := X
    have Y9 := Y
    have A9 := A
    have BW9 := BW
    have bm := below1 w5 (.cells #[] 3)
    have hz5 : w.heap.size + 1 + 1 + 1 ≤ w5.heap.size := by have := A.hi; omega
    replace X := X.below bm (Nat.le_refl _)
    replace Y := Y.below bm (Nat.le_refl _)
    replace A := A.below bm (Nat.le_refl _)
    have q9 := ownsI.below q bm (Nat.le_refl _)
    replace BW := BW.trans (bm.mono BW.size)
    refine oneH 3 rfl (by kernel_rfl) (fun K' hK => ?_)
    go_simp
    refine hK _ _ ⟨A.c0, A.c1⟩ ?_
    clear hK hHeld
    have hll : ([] : List Int).length + xs.length ≤ 1099511627776 := by simp; omega
    refine oneH 6 rfl (by kernel_rfl) (fun K' hK => ?_)
    refine stepI_all w5 _ rfl (.tmp 15) (.tmp 17) rfl w5.heap.size _ _ [] xs rfl hm rfl q9.row bm hll bm.size ?_
    intro v6 w6 pq b6
    have b6' : Below w5.heap.size w5 w6 := b6
    have X := X9.below b6' (Nat.le_refl _)
    have Y := Y9.below b6' (Nat.le_refl _)
    have A := A9.below b6' (Nat.le_refl _)
    have q := ownsI.below q b6' (Nat.le_refl _)
    have BW := BW9.trans (b6'.mono BW9.size)
    obtain ⟨ad2, cp2, rfl, -⟩ := pq.row
    rw [List.nil_append] at pq
    have pq : ownsI w6 w5.heap.size (.slice ad2 xs.length cp2) xs := pq
    replace pq := ownsI_mono pq hz5
    have ll98 := hl98
    refine hK _ _ ⟨A.c0, A.c1⟩ ?_
    clear hK
    have hHeld := (⟨A.c0, A.c1⟩ : _ ∧ _)
    simp only [Act.put, List.setIfInBounds_toArray, List.set_cons_zero, List.set_cons_succ, List.nil_append]
    refine takeH 7 (some 19) (.agg #[.bool g, .slice ad2 xs.length cp2]) rfl rfl (by kernel_rfl) (by kernel_rfl) (by kernel_rfl) (fun _ _ _ h => h) (Or.inl ⟨rfl, fun W hW => by obtain _ := hW; go_simp⟩) (by assumption) ?_
    simp only [Act.put, List.setIfInBounds_toArray, List.set_cons_zero, List.set_cons_succ]
    clear hHeld
    have t1 := tn_two w6 w.heap.size (.bool g) (.slice ad xs.length cp)
    have A7 := A.tn t1 (fun k hk hs => by simp at hk hs; omega)
    have Y7 := Y.tn t1 (fun k hk hs => by simp at hk hs; omega)
    have q7 := (q.set w.heap.size 0 (by omega) (.bool g)).set w.heap.size 1 (by omega) (.slice ad xs.length cp)
    have p7 := (pq.set w.heap.size 0 (by omega) (.bool g)).set w.heap.size 1 (by omega) (.slice ad xs.length cp)
    have B7 := (BW.setCell (p := ⟨w.heap.size, 0, none⟩) (Nat.le_refl _) (.bool g)).setCell (p := ⟨w.heap.size, 1, none⟩) (Nat.le_refl _) (.slice ad xs.length cp)
    have r0 := X.c0
    have r1 := X.c1
    have f0 := X.f0
    have f1 := X.f1
    have hn1 : ¬ w.heap.size = bA := by omega
    have hn2 : ¬ bA = w.heap.size := by omega
    have hn5 : ¬ w.heap.size + 1 = bA := by omega
    have hn6 : ¬ bA = w.heap.size + 1 := by omega
    refine oneH 8 rfl (by kernel_rfl) (fun K' hK => ?_)
    go_simp
    refine hK _ _ ⟨A7.c0, A7.c1⟩ ?_
    clear hK r0 r1 f0 f1
    generalize hW : (w6.setCell ⟨w.heap.size, 0, none⟩ (.bool g)).setCell ⟨w.heap.size, 1, none⟩ (.slice ad xs.length cp) = w11 at *
    have E11 : BoxW w11 w.heap.size w.heap.size (.bool g) (.slice ad xs.length cp) := by
      rw [← hW]
      exact X.pairs (.bool g) (.slice ad xs.length cp)
    clear hW t1 A Y X q pq BW cu
    have t2 := tn_two w11 (w.heap.size + 1) (.bool g) (.slice ad2 xs.length cp2)
    have A8 := A7.tn t2 (fun k hk hs => by simp at hk hs; omega)
    have E12 := E11.tn t2 (fun k hk hs => by simp at hk hs; omega)
    have HO : Hid (ownsW _ w.heap.size (.agg #[.bool g, .slice ad xs.length cp]) (g, xs) ∧ ownsW _ w.heap.size (.agg #[.bool g, .slice ad2 xs.length cp2]) (g, xs) ∧ Below w.heap.size w _) := ⟨⟨_, rfl, ownsI_mono ((q7.set (w.heap.size + 1) 0 (by omega) (.bool g)).set (w.heap.size + 1) 1 (by omega) (.slice ad2 xs.length cp2)) (by omega)⟩, ⟨_, rfl, ownsI_mono ((p7.set (w.heap.size + 1) 0 (by omega) (.bool g)).set (w.heap.size + 1) 1 (by omega) (.slice ad2 xs.length cp2)) (by omega)⟩, (B7.setCell (p := ⟨w.heap.size + 1, 0, none⟩) (by show w.heap.size ≤ w.heap.size + 1; omega) (.bool g)).setCell (p := ⟨w.heap.size + 1, 1, none⟩) (by show w.heap.size ≤ w.heap.size + 1; omega) (.slice ad2 xs.length cp2)⟩
    have r0 := Y7.c0
    have r1 := Y7.c1
    have f0 := Y7.f0
    have f1 := Y7.f1
    have u0 := E11.c0
    have u1 := E11.c1
    have v0 := E12.c0
    have v1 := E12.c1
    have hn9 : ¬ w.heap.size = w.heap.size + 1 := by omega
    have hn10 : ¬ w.heap.size + 1 = w.heap.size := by omega
    refine oneH 9 rfl (by kernel_rfl) (fun K' hK => ?_)
    go_simp
    refine hK _ _ ⟨A8.c0, A8.c1⟩ ?_
    clear hK
    refine wpAnyH_done (by kernel_rfl) ?_ _
    clear A7 A8 q7 p7 B7 Y7 E11 E12 t2
    go_wp2
    (try simp only [Exit.inBlock, Exit.then])
    refine bodyPost_ret (v := .tuple #[.agg #[.bool g, .slice ad xs.length cp], .agg #[.bool g, .slice ad2 xs.length cp2]]) ?_ rfl ⟨_, _, (g, xs), (g, xs), rfl, HO.out.1, HO.out.2.1, hl98, ll98, HO.out.2.2⟩
    rw [results_cell2 rfl]
    go_simp

set_option maxRecDepth 20000 in
set_option maxHeartbeats 1600000 in
theorem drWAdd (a : Option Addr) (len cap : Nat) (zs : List Int) (w : World) (hlen : len ≤ 1048576) (h : CodeIs w a len cap zs) :
    Calls Try.prog 10 #[.slice a len cap] w (DrawnWW w) := by
  have s1 : (w.alloc (.cells #[.bool false, .slice none 0 0] 26)).heap.size = w.heap.size + 1 := by simp
  have X := (BoxW.made w (.bool false) (.slice none 0 0) 26).below (below1 _ (.cells #[.bool false, .slice none 0 0] 26)) (Nat.le_refl _)
  have Y := BoxW.made (w.alloc (.cells #[.bool false, .slice none 0 0] 26)) (.bool false) (.slice none 0 0) 26
  rw [s1] at Y
  have s0 : ((w.alloc (.cells #[.bool false, .slice none 0 0] 26)).alloc (.cells #[.bool false, .slice none 0 0] 26)).heap.size = w.heap.size + 1 + 1 := by simp
  have BW := below2 w (.cells #[.bool false, .slice none 0 0] 26) (.cells #[.bool false, .slice none 0 0] 26)
  have h := h.below BW
  clear s1
  go_enter Try.func10, Try.ntmps10
  go_wp2_with fail
  generalize (w.alloc (.cells #[.bool false, .slice none 0 0] 26)).alloc (.cells #[.bool false, .slice none 0 0] 26) = w0 at *
  refine (drWTwo a len cap zs w0 hlen h).mono ?_
  rintro e w1 ⟨v, u, ra, rb, rfl, Ra, Rb, la, lb, b1⟩
  obtain ⟨s, rfl, qa⟩ := Ra
  obtain ⟨t, rfl, qb⟩ := Rb
  obtain ⟨ad, cp, rfl, -⟩ := qa.row
  obtain ⟨ad2, cp2, rfl, -⟩ := qb.row
  obtain ⟨g, xs⟩ := ra
  obtain ⟨g2, ys⟩ := rb
  rw [s0] at qa qb
  replace X := X.below b1 (Nat.le_refl _)
  replace Y := Y.below b1 (Nat.le_refl _)
  replace BW := BW.trans (b1.mono BW.size)
  have q7 := (qa.set w.heap.size 0 (by omega) (.bool g)).set w.heap.size 1 (by omega) (.slice ad xs.length cp)
  have p7 := (qb.set w.heap.size 0 (by omega) (.bool g)).set w.heap.size 1 (by omega) (.slice ad xs.length cp)
  have B7 := (BW.setCell (p := ⟨w.heap.size, 0, none⟩) (Nat.le_refl _) (.bool g)).setCell (p := ⟨w.heap.size, 1, none⟩) (Nat.le_refl _) (.slice ad xs.length cp)
  have HO : Hid (ownsW _ w.heap.size (.agg #[.bool g, .slice ad xs.length cp]) (g, xs) ∧ ownsW _ w.heap.size (.agg #[.bool g2, .slice ad2 ys.length cp2]) (g2, ys) ∧ Below w.heap.size w _) := ⟨⟨_, rfl, ownsI_mono ((q7.set (w.heap.size + 1) 0 (by omega) (.bool g2)).set (w.heap.size + 1) 1 (by omega) (.slice ad2 ys.length cp2)) (by omega)⟩, ⟨_, rfl, ownsI_mono ((p7.set (w.heap.size + 1) 0 (by omega) (.bool g2)).set (w.heap.size + 1) 1 (by omega) (.slice ad2 ys.length cp2)) (by omega)⟩, (B7.setCell (p := ⟨w.heap.size + 1, 0, none⟩) (by show w.heap.size ≤ w.heap.size + 1; omega) (.bool g2)).setCell (p := ⟨w.heap.size + 1, 1, none⟩) (by show w.heap.size ≤ w.heap.size + 1; omega) (.slice ad2 ys.length cp2)⟩
  have t1 := tn_two w1 w.heap.size (.bool g) (.slice ad xs.length cp)
  have Y7 := Y.tn t1 (fun k hk hs => by simp at hk hs; omega)
  have E11 := X.pairs (.bool g) (.slice ad xs.length cp)
  have e0 := E11.c0
  have e1 := E11.c1
  have r0 := X.c0
  have r1 := X.c1
  have f0 := X.f0
  have f1 := X.f1
  have y0 := Y.c0
  have y1 := Y.c1
  have yf0 := Y.f0
  have yf1 := Y.f1
  have z0 := Y7.c0
  have z1 := Y7.c1
  have zf0 := Y7.f0
  have zf1 := Y7.f1
  have hn9 : ¬ w.heap.size = w.heap.size + 1 := by omega
  have hn10 : ¬ w.heap.size + 1 = w.heap.size := by omega
  have ll98 : ys.length ≤ 98 := lb
  have hl98 : xs.length ≤ 98 := la
  clear q7 p7 B7 qa qb X Y BW b1 t1 Y7 E11 s0 la lb
  go_wp2
  (try simp only [Exit.inBlock, Exit.then])
  refine bodyPost_ret (v := .tuple #[.agg #[.bool g, .slice ad xs.length cp], .agg #[.bool g2, .slice ad2 ys.length cp2]]) ?_ rfl ⟨_, _, (g, xs), (g2, ys), rfl, HO.out.1, HO.out.2.1, hl98, ll98, HO.out.2.2⟩
  rw [results_cell2 rfl]
  go_simp

end Go.Proofs.Ytlnpfjnpnjiepaa
