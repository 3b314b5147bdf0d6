/- Copies of a Spin, on both sides. -/
import Derived.Test.YtlpfjpbnedankaaFB
namespace Go.Proofs.Ytlpfjpbnedankaa
open Go.RowKit
set_option linter.unusedSimpArgs false
set_option linter.unusedVariables false

def CutANANNN (A : Option Addr → Nat → Option Addr → Nat → Nat → Nat → Act) (F : Option Addr → Nat → Option Addr → Nat → Nat → Nat → World → Prop) (a' : Act) (w' : World) : Prop := ∃ (b0 : Option Addr) (b1 : Nat) (b2 : Option Addr) (b3 : Nat) (b4 : Nat) (b5 : Nat), a' = A b0 b1 b2 b3 b4 b5 ∧ F b0 b1 b2 b3 b4 b5 w'
theorem CutANANNN.mk {A : Option Addr → Nat → Option Addr → Nat → Nat → Nat → Act} {F : Option Addr → Nat → Option Addr → Nat → Nat → Nat → World → Prop} {a' : Act} {w' : World} (b0 : Option Addr) (b1 : Nat) (b2 : Option Addr) (b3 : Nat) (b4 : Nat) (b5 : Nat) (ha : a' = A b0 b1 b2 b3 b4 b5) (h : F b0 b1 b2 b3 b4 b5 w') : atEnd (CutANANNN A F) .normal a' w' := ⟨b0, b1, b2, b3, b4, b5, ha, h⟩
theorem wpCutANANNN {P : Program} {c : Code} {Q : Exit → Act → World → Prop} {a : Act} {w : World} (A : Option Addr → Nat → Option Addr → Nat → Nat → Nat → Act) (F : Option Addr → Nat → Option Addr → Nat → Nat → Nat → World → Prop) (hA : c.wp P (atEnd (CutANANNN A F)) a w)
    (hB : ∀ (b0 : Option Addr) (b1 : Nat) (b2 : Option Addr) (b3 : Nat) (b4 : Nat) (b5 : Nat) w', F b0 b1 b2 b3 b4 b5 w' → Q .normal (A b0 b1 b2 b3 b4 b5) w') : c.wp P Q a w :=
  wp_mono hA (atEnd_out fun a' w' ⟨b0, b1, b2, b3, b4, b5, ha, h⟩ => by subst ha; exact hB b0 b1 b2 b3 b4 b5 w' h)

set_option maxRecDepth 20000 in
set_option maxHeartbeats 6400000 in
theorem sCopyP (va : Value) (a : Ph) (w : World) (ha : rowP w va a) (hl0 : a.1.1.2.length ≤ 1048576) (hl1 : a.1.2.2.length ≤ 1048576) :
    Calls Try.prog 48 #[va] w fun e w' => ∃ v, e = .returned v ∧ ownsP w' w.heap.size v a ∧ Below w.heap.size w w' := by
  obtain ⟨gx, ax, nx, cx, gy, ay, ny, cy, eq⟩ := ha.cell
  subst eq
  have hx := ha.x
  have hy := ha.y
  obtain ⟨⟨⟨ga, xs⟩, ⟨gb, ys⟩⟩, kk⟩ := a
  clear ha
  obtain ⟨rfl, rx⟩ := rowW.lim hx
  obtain ⟨rfl, ry⟩ := rowW.lim hy
  clear hx hy
  dsimp only at *
  have B0_0 : Below w.heap.size w w := Below.refl _ _
  obtain ⟨ww1, hww1⟩ : ∃ v, v = w.alloc (.cells #[.bool gx, .slice ax nx cx, .bool gy, .slice ay ny cy, .int .i64 kk] 34) := ⟨_, rfl⟩
  have sz1 : ww1.heap.size = w.heap.size + 1 := by rw [hww1]; simp
  have bw1 : Below w.heap.size w ww1 := by rw [hww1]; exact below1 _ _
  have B0_1 := B0_0.trans (bw1.mono B0_0.size)
  have X0_1 : BoxL ww1 w.heap.size w.heap.size [.bool gx, .slice ax nx cx, .bool gy, .slice ay ny cy, .int .i64 kk] := by rw [hww1]; have h := BoxL.made w [.bool gx, .slice ax nx cx, .bool gy, .slice ay ny cy, .int .i64 kk] 34; exact h
  obtain ⟨ww2, hww2⟩ : ∃ v, v = ww1.alloc (.cells #[.bool false, .slice none 0 0, .bool false, .slice none 0 0, .int .i64 0] 34) := ⟨_, rfl⟩
  have sz2 : ww2.heap.size = w.heap.size + 1 + 1 := by rw [hww2]; simp [sz1]
  have bw2 : Below ww1.heap.size ww1 ww2 := by rw [hww2]; exact below1 _ _
  have B0_2 := B0_1.trans (bw2.mono B0_1.size)
  have X0_2 := X0_1.below bw2 (Nat.le_refl _)
  have R0_2 : BoxL ww2 (w.heap.size + 1) (w.heap.size + 1) [.bool false, .slice none 0 0, .bool false, .slice none 0 0, .int .i64 0] := by rw [hww2]; have h := BoxL.made ww1 [.bool false, .slice none 0 0, .bool false, .slice none 0 0, .int .i64 0] 34; rw [sz1] at h; exact h
  have X0 := X0_2
  have R0 := R0_2.mono (by omega : w.heap.size ≤ w.heap.size + 1)
  have B0 := B0_2
  clear B0_0 B0_1 B0_2 bw1 bw2 X0_1 X0_2 R0_2
  go_enter Try.func48, Try.ntmps48
  go_wp2_with fail
  have hvv : (w.alloc (.cells #[.bool gx, .slice ax nx cx, .bool gy, .slice ay ny cy, .int .i64 kk] 34)).alloc (.cells #[.bool false, .slice none 0 0, .bool false, .slice none 0 0, .int .i64 0] 34) = ww2 := by rw [hww2]; rw [hww1]
  rw [hvv]
  clear hvv hww1 hww2 sz1
  clear ww1
  have hz0 : w.heap.size + 2 ≤ ww2.heap.size := by omega
  clear sz2
  obtain ⟨w1, hw1⟩ : ∃ v, Hid (v = ww2.drew) := ⟨_, rfl⟩
  have bd : Below ww2.heap.size ww2 w1 := by rw [hw1.out]; exact (Below.refl ww2.heap.size ww2).drew
  have B1 := B0.trans (bd.mono B0.size)
  have X1 := X0.below bd (Nat.le_refl _)
  have R1 := R0.below bd (Nat.le_refl _)
  clear B0 X0 R0 bd
  apply wpCutANANNN (F := fun soa coa sob cob qb2 qb4 W => Below w.heap.size w W  ∧ BoxL W w.heap.size (w.heap.size + 1) [.bool gx, .slice soa xs.length coa, .bool gy, .slice sob ys.length cob, .int .i64 kk] ∧ BoxL W w.heap.size w.heap.size [.bool gx, .slice ax nx cx, .bool gy, .slice ay ny cy, .int .i64 kk] ∧ ownsI W w.heap.size (.slice soa xs.length coa) xs ∧ ownsI W w.heap.size (.slice sob ys.length cob) ys ∧ Apart (blkI (.slice soa xs.length coa)) [w.heap.size + 1] ∧ Apart (blkI (.slice sob ys.length cob)) [w.heap.size + 1] ∧ Apart (blkI (.slice soa xs.length coa)) [w.heap.size] ∧ Apart (blkI (.slice sob ys.length cob)) [w.heap.size] ∧ Apart (blkI (.slice soa xs.length coa)) (blkI (.slice sob ys.length cob)))
  case hA =>
    have hH : (fun W : World => W.cell? ⟨w.heap.size, 0, none⟩ = some (.bool gx) ∧ W.cell? ⟨w.heap.size, 1, none⟩ = some (.slice ax nx cx) ∧ W.cell? ⟨w.heap.size, 2, none⟩ = some (.bool gy) ∧ W.cell? ⟨w.heap.size, 3, none⟩ = some (.slice ay ny cy) ∧ W.cell? ⟨w.heap.size, 4, none⟩ = some (.int .i64 kk)) w1 := ⟨X1.c 0 _ rfl, X1.c 1 _ rfl, X1.c 2 _ rfl, X1.c 3 _ rfl, X1.c 4 _ rfl⟩
    refine wp_region_held_drew (S := fun W => W.cell? ⟨w.heap.size, 0, none⟩ = some (.bool gx) ∧ W.cell? ⟨w.heap.size, 1, none⟩ = some (.slice ax nx cx) ∧ W.cell? ⟨w.heap.size, 2, none⟩ = some (.bool gy) ∧ W.cell? ⟨w.heap.size, 3, none⟩ = some (.slice ay ny cy) ∧ W.cell? ⟨w.heap.size, 4, none⟩ = some (.int .i64 kk)) (by kernel_rfl) (by rw [← hw1.out]; exact hH) ?_
    intro _
    rw [← hw1.out]
    refine takeH 0 (some 3) (.pointer (some ⟨w.heap.size, 0, none⟩)) rfl rfl (by kernel_rfl) (by kernel_rfl) (by kernel_rfl) (fun _ _ _ h => h) (Or.inl ⟨rfl, fun W hW => by go_simp⟩) hH ?_
    simp only [Act.put, List.setIfInBounds_toArray, List.set_cons_zero, List.set_cons_succ]
    refine takeH 1 (some 4) (.pointer (some ⟨w.heap.size, 0, none⟩)) rfl rfl (by kernel_rfl) (by kernel_rfl) (by kernel_rfl) (fun _ _ _ h => h) (Or.inl ⟨rfl, fun W hW => by go_simp⟩) hH ?_
    simp only [Act.put, List.setIfInBounds_toArray, List.set_cons_zero, List.set_cons_succ]
    refine takeH 2 (some 5) (.bool gx) rfl rfl (by kernel_rfl) (by kernel_rfl) (by kernel_rfl) (fun _ _ _ h => h) (Or.inl ⟨rfl, fun W hW => by obtain ⟨l0, l1, l2, l3, l4⟩ := hW; go_simp⟩) hH ?_
    simp only [Act.put, List.setIfInBounds_toArray, List.set_cons_zero, List.set_cons_succ]
    refine takeH 4 (some 7) (.pointer (some ⟨w.heap.size, 0, none⟩)) rfl rfl (by kernel_rfl) (by kernel_rfl) (by kernel_rfl) (fun _ _ _ h => h) (Or.inl ⟨rfl, fun W hW => by go_simp⟩) hH ?_
    simp only [Act.put, List.setIfInBounds_toArray, List.set_cons_zero, List.set_cons_succ]
    refine takeH 5 (some 8) (.pointer (some ⟨w.heap.size, 1, none⟩)) rfl rfl (by kernel_rfl) (by kernel_rfl) (by kernel_rfl) (fun _ _ _ h => h) (Or.inl ⟨rfl, fun W hW => by go_simp⟩) hH ?_
    simp only [Act.put, List.setIfInBounds_toArray, List.set_cons_zero, List.set_cons_succ]
    refine takeH 6 (some 9) (.slice ax nx cx) rfl rfl (by kernel_rfl) (by kernel_rfl) (by kernel_rfl) (fun _ _ _ h => h) (Or.inl ⟨rfl, fun W hW => by obtain ⟨l0, l1, l2, l3, l4⟩ := hW; go_simp⟩) hH ?_
    simp only [Act.put, List.setIfInBounds_toArray, List.set_cons_zero, List.set_cons_succ]
    refine takeH 9 (some 12) (.pointer (some ⟨w.heap.size, 2, none⟩)) rfl rfl (by kernel_rfl) (by kernel_rfl) (by kernel_rfl) (fun _ _ _ h => h) (Or.inl ⟨rfl, fun W hW => by go_simp⟩) hH ?_
    simp only [Act.put, List.setIfInBounds_toArray, List.set_cons_zero, List.set_cons_succ]
    refine takeH 10 (some 13) (.pointer (some ⟨w.heap.size, 2, none⟩)) rfl rfl (by kernel_rfl) (by kernel_rfl) (by kernel_rfl) (fun _ _ _ h => h) (Or.inl ⟨rfl, fun W hW => by go_simp⟩) hH ?_
    simp only [Act.put, List.setIfInBounds_toArray, List.set_cons_zero, List.set_cons_succ]
    refine takeH 11 (some 14) (.bool gy) rfl rfl (by kernel_rfl) (by kernel_rfl) (by kernel_rfl) (fun _ _ _ h => h) (Or.inl ⟨rfl, fun W hW => by obtain ⟨l0, l1, l2, l3, l4⟩ := hW; go_simp⟩) hH ?_
    simp only [Act.put, List.setIfInBounds_toArray, List.set_cons_zero, List.set_cons_succ]
    refine takeH 13 (some 16) (.pointer (some ⟨w.heap.size, 2, none⟩)) rfl rfl (by kernel_rfl) (by kernel_rfl) (by kernel_rfl) (fun _ _ _ h => h) (Or.inl ⟨rfl, fun W hW => by go_simp⟩) hH ?_
    simp only [Act.put, List.setIfInBounds_toArray, List.set_cons_zero, List.set_cons_succ]
    refine takeH 14 (some 17) (.pointer (some ⟨w.heap.size, 3, none⟩)) rfl rfl (by kernel_rfl) (by kernel_rfl) (by kernel_rfl) (fun _ _ _ h => h) (Or.inl ⟨rfl, fun W hW => by go_simp⟩) hH ?_
    simp only [Act.put, List.setIfInBounds_toArray, List.set_cons_zero, List.set_cons_succ]
    refine takeH 15 (some 18) (.slice ay ny cy) rfl rfl (by kernel_rfl) (by kernel_rfl) (by kernel_rfl) (fun _ _ _ h => h) (Or.inl ⟨rfl, fun W hW => by obtain ⟨l0, l1, l2, l3, l4⟩ := hW; go_simp⟩) hH ?_
    simp only [Act.put, List.setIfInBounds_toArray, List.set_cons_zero, List.set_cons_succ]
    refine takeH 18 (some 21) (.pointer (some ⟨w.heap.size, 4, none⟩)) rfl rfl (by kernel_rfl) (by kernel_rfl) (by kernel_rfl) (fun _ _ _ h => h) (Or.inl ⟨rfl, fun W hW => by go_simp⟩) hH ?_
    simp only [Act.put, List.setIfInBounds_toArray, List.set_cons_zero, List.set_cons_succ]
    refine takeH 19 (some 22) (.int .i64 kk) rfl rfl (by kernel_rfl) (by kernel_rfl) (by kernel_rfl) (fun _ _ _ h => h) (Or.inl ⟨rfl, fun W hW => by obtain ⟨l0, l1, l2, l3, l4⟩ := hW; go_simp⟩) hH ?_
    simp only [Act.put, List.setIfInBounds_toArray, List.set_cons_zero, List.set_cons_succ]
    refine wpAnyH_ready (rs := [3, 12]) (by kernel_rfl) (by simp) ?_
    refine AllReadyH.cons rfl (fun K hK => ?_) ?_
    · go_simp
      obtain ⟨w2, hw2⟩ : ∃ v, v = w1.alloc (.cells #[] 3) := ⟨_, rfl⟩
      have bb2 : Below w1.heap.size w1 w2 := by rw [hw2]; exact below1 _ _
      obtain ⟨qb2, hq2⟩ : ∃ v, v = w1.heap.size := ⟨_, rfl⟩
      have ea : ownsI w2 w1.heap.size (.slice (some ⟨qb2, 0, none⟩) 0 0) [] := by rw [hw2, hq2]; exact made_empty w1
      rw [← hw2]
      (try rw [← hq2])
      clear hw2
      have ap_X_ea : Apart (blkI (.slice (some ⟨qb2, 0, none⟩) 0 0)) [w.heap.size] := apart_one fun q hq => by have h1 := (ownsI.ltb ea q hq).1; have h2 := X1.hi; omega
      have ap_R_ea : Apart (blkI (.slice (some ⟨qb2, 0, none⟩) 0 0)) [w.heap.size + 1] := apart_one fun q hq => by have h1 := (ownsI.ltb ea q hq).1; have h2 := R1.hi; omega
      replace ea := ownsI_mono ea B1.size
      have B2 := B1.trans (bb2.mono B1.size)
      have X2 := X1.below bb2 (Nat.le_refl _)
      have R2 := R1.below bb2 (Nat.le_refl _)
      clear bb2 hH hq2
      have ea2 := ea
      clear ea
      have hH : (fun W : World => W.cell? ⟨w.heap.size, 0, none⟩ = some (.bool gx) ∧ W.cell? ⟨w.heap.size, 1, none⟩ = some (.slice ax nx cx) ∧ W.cell? ⟨w.heap.size, 2, none⟩ = some (.bool gy) ∧ W.cell? ⟨w.heap.size, 3, none⟩ = some (.slice ay ny cy) ∧ W.cell? ⟨w.heap.size, 4, none⟩ = some (.int .i64 kk)) w2 := ⟨X2.c 0 _ rfl, X2.c 1 _ rfl, X2.c 2 _ rfl, X2.c 3 _ rfl, X2.c 4 _ rfl⟩
      refine hK.out _ _ hH (fun _ => ?_)
      clear hK K
      refine wpAnyH_ready (rs := [7, 12]) (by kernel_rfl) (by simp) ?_
      refine AllReadyH.cons rfl (fun K hK => ?_) ?_
      · refine stepA rfl (.tmp 6) (.tmp 9) rfl w.heap.size (.slice (some ⟨qb2, 0, none⟩) 0 0) _ [] xs rfl ea2 rfl (rx.below B2 (Nat.le_refl _)) (by simp; omega) B2.size ?_
        intro voa w3 oa tn3 ha3
        rw [List.nil_append] at oa
        have B3 := tn3.below B2 B2.size (fun q hq => (ea2.ltb q hq).1)
        have X3 := X2.tn tn3 (fun h => ap_X_ea _ h (by simp))
        have R3 := R2.tn tn3 (fun h => ap_R_ea _ h (by simp))
        obtain ⟨soa, coa, eoa, -⟩ := ownsI.row oa
        subst eoa
        have ap_X_oa : Apart (blkI (.slice soa xs.length coa)) [w.heap.size] := apart_one fun q hq => (ha3 q hq).elim (fun h => fun e => ap_X_ea q h (by simp [e])) (fun h => by have h1 := X2.hi; omega)
        have ap_R_oa : Apart (blkI (.slice soa xs.length coa)) [w.heap.size + 1] := apart_one fun q hq => (ha3 q hq).elim (fun h => fun e => ap_R_ea q h (by simp [e])) (fun h => by have h1 := R2.hi; omega)
        clear B2 X2 R2 ea2 tn3 ha3 hH
        have oa3 := oa
        clear oa
        have hH : (fun W : World => W.cell? ⟨w.heap.size, 0, none⟩ = some (.bool gx) ∧ W.cell? ⟨w.heap.size, 1, none⟩ = some (.slice ax nx cx) ∧ W.cell? ⟨w.heap.size, 2, none⟩ = some (.bool gy) ∧ W.cell? ⟨w.heap.size, 3, none⟩ = some (.slice ay ny cy) ∧ W.cell? ⟨w.heap.size, 4, none⟩ = some (.int .i64 kk)) w3 := ⟨X3.c 0 _ rfl, X3.c 1 _ rfl, X3.c 2 _ rfl, X3.c 3 _ rfl, X3.c 4 _ rfl⟩
        refine hK.out _ _ hH (fun _ => ?_)
        clear hK K
        refine takeH 8 (some 11) (.agg #[.bool gx, .slice soa xs.length coa]) rfl rfl (by kernel_rfl) (by kernel_rfl) (by kernel_rfl) (fun _ _ _ h => h) (Or.inl ⟨rfl, fun W hW => by go_simp⟩) hH ?_
        simp only [Act.put, List.setIfInBounds_toArray, List.set_cons_zero, List.set_cons_succ]
        refine oneH 12 rfl (by kernel_rfl) (fun K' hK => ?_)
        go_simp
        obtain ⟨w4, hw4⟩ : ∃ v, v = w3.alloc (.cells #[] 3) := ⟨_, rfl⟩
        have bb4 : Below w3.heap.size w3 w4 := by rw [hw4]; exact below1 _ _
        obtain ⟨qb4, hq4⟩ : ∃ v, v = w3.heap.size := ⟨_, rfl⟩
        have eb : ownsI w4 w3.heap.size (.slice (some ⟨qb4, 0, none⟩) 0 0) [] := by rw [hw4, hq4]; exact made_empty w3
        rw [← hw4]
        (try rw [← hq4])
        clear hw4
        have ap_X_eb : Apart (blkI (.slice (some ⟨qb4, 0, none⟩) 0 0)) [w.heap.size] := apart_one fun q hq => by have h1 := (ownsI.ltb eb q hq).1; have h2 := X3.hi; omega
        have ap_R_eb : Apart (blkI (.slice (some ⟨qb4, 0, none⟩) 0 0)) [w.heap.size + 1] := apart_one fun q hq => by have h1 := (ownsI.ltb eb q hq).1; have h2 := R3.hi; omega
        have ap_eb_oa : Apart (blkI (.slice (some ⟨qb4, 0, none⟩) 0 0)) (blkI (.slice soa xs.length coa)) := Apart.symm (apart_of (fun k hk => (ownsI.ltb oa3 k hk).2) (fun k hk => (ownsI.ltb eb k hk).1))
        replace eb := ownsI_mono eb B3.size
        have B4 := B3.trans (bb4.mono B3.size)
        have X4 := X3.below bb4 (Nat.le_refl _)
        have R4 := R3.below bb4 (Nat.le_refl _)
        have oa4 := ownsI.below oa3 bb4 (Nat.le_refl _)
        clear B3 X3 R3 oa3 bb4 hH hq4
        have eb4 := eb
        clear eb
        have hH : (fun W : World => W.cell? ⟨w.heap.size, 0, none⟩ = some (.bool gx) ∧ W.cell? ⟨w.heap.size, 1, none⟩ = some (.slice ax nx cx) ∧ W.cell? ⟨w.heap.size, 2, none⟩ = some (.bool gy) ∧ W.cell? ⟨w.heap.size, 3, none⟩ = some (.slice ay ny cy) ∧ W.cell? ⟨w.heap.size, 4, none⟩ = some (.int .i64 kk)) w4 := ⟨X4.c 0 _ rfl, X4.c 1 _ rfl, X4.c 2 _ rfl, X4.c 3 _ rfl, X4.c 4 _ rfl⟩
        refine hK _ _ hH ?_
        clear hK
        refine oneH 16 rfl (by kernel_rfl) (fun K' hK => ?_)
        refine stepA rfl (.tmp 15) (.tmp 18) rfl w.heap.size (.slice (some ⟨qb4, 0, none⟩) 0 0) _ [] ys rfl eb4 rfl (ry.below B4 (Nat.le_refl _)) (by simp; omega) B4.size ?_
        intro vob w5 ob tn5 ha5
        rw [List.nil_append] at ob
        have B5 := tn5.below B4 B4.size (fun q hq => (eb4.ltb q hq).1)
        have X5 := X4.tn tn5 (fun h => ap_X_eb _ h (by simp))
        have R5 := R4.tn tn5 (fun h => ap_R_eb _ h (by simp))
        have oa5 := ownsI.tn oa4 tn5 (Apart.symm ap_eb_oa)
        obtain ⟨sob, cob, eob, -⟩ := ownsI.row ob
        subst eob
        have ap_X_ob : Apart (blkI (.slice sob ys.length cob)) [w.heap.size] := apart_one fun q hq => (ha5 q hq).elim (fun h => fun e => ap_X_eb q h (by simp [e])) (fun h => by have h1 := X4.hi; omega)
        have ap_R_ob : Apart (blkI (.slice sob ys.length cob)) [w.heap.size + 1] := apart_one fun q hq => (ha5 q hq).elim (fun h => fun e => ap_R_eb q h (by simp [e])) (fun h => by have h1 := R4.hi; omega)
        have ap_oa_ob : Apart (blkI (.slice soa xs.length coa)) (blkI (.slice sob ys.length cob)) := (fun q hq hs => (ha5 q hs).elim (fun h => (Apart.symm ap_eb_oa) q hq h) (fun h => by have h1 := (ownsI.ltb oa4 q hq).2; omega))
        clear B4 X4 R4 oa4 eb4 tn5 ha5 hH
        have ob5 := ob
        clear ob
        have hH : (fun W : World => W.cell? ⟨w.heap.size, 0, none⟩ = some (.bool gx) ∧ W.cell? ⟨w.heap.size, 1, none⟩ = some (.slice ax nx cx) ∧ W.cell? ⟨w.heap.size, 2, none⟩ = some (.bool gy) ∧ W.cell? ⟨w.heap.size, 3, none⟩ = some (.slice ay ny cy) ∧ W.cell? ⟨w.heap.size, 4, none⟩ = some (.int .i64 kk)) w5 := ⟨X5.c 0 _ rfl, X5.c 1 _ rfl, X5.c 2 _ rfl, X5.c 3 _ rfl, X5.c 4 _ rfl⟩
        refine hK _ _ hH ?_
        clear hK
        refine takeH 17 (some 20) (.agg #[.bool gy, .slice sob ys.length cob]) rfl rfl (by kernel_rfl) (by kernel_rfl) (by kernel_rfl) (fun _ _ _ h => h) (Or.inl ⟨rfl, fun W hW => by go_simp⟩) hH ?_
        simp only [Act.put, List.setIfInBounds_toArray, List.set_cons_zero, List.set_cons_succ]
        refine takeH 20 (some 23) (.agg #[.bool gx, .slice soa xs.length coa, .bool gy, .slice sob ys.length cob, .int .i64 kk]) rfl rfl (by kernel_rfl) (by kernel_rfl) (by kernel_rfl) (fun _ _ _ h => h) (Or.inl ⟨rfl, fun W hW => by go_simp⟩) hH ?_
        simp only [Act.put, List.setIfInBounds_toArray, List.set_cons_zero, List.set_cons_succ]
        have c_R_0 := R5.c 0 _ rfl
        have f_R_0 := R5.f 0 _ rfl
        have c_R_1 := R5.c 1 _ rfl
        have f_R_1 := R5.f 1 _ rfl
        have c_R_2 := R5.c 2 _ rfl
        have f_R_2 := R5.f 2 _ rfl
        have c_R_3 := R5.c 3 _ rfl
        have f_R_3 := R5.f 3 _ rfl
        have c_R_4 := R5.c 4 _ rfl
        have f_R_4 := R5.f 4 _ rfl
        refine oneH 21 rfl (by kernel_rfl) (fun K' hK => ?_)
        go_simp
        obtain ⟨w6, hw6⟩ : ∃ v, v = ((((w5.setCell ⟨w.heap.size + 1, 0, none⟩ (.bool gx)).setCell ⟨w.heap.size + 1, 1, none⟩ (.slice soa xs.length coa)).setCell ⟨w.heap.size + 1, 2, none⟩ (.bool gy)).setCell ⟨w.heap.size + 1, 3, none⟩ (.slice sob ys.length cob)).setCell ⟨w.heap.size + 1, 4, none⟩ (.int .i64 kk) := ⟨_, rfl⟩
        have tn6 : Tn [w.heap.size + 1] w5 w6 := by rw [hw6]; exact (((((tnL w5 (w.heap.size + 1) 0 (.bool gx)).trans (tnL _ (w.heap.size + 1) 1 (.slice soa xs.length coa))).trans (tnL _ (w.heap.size + 1) 2 (.bool gy))).trans (tnL _ (w.heap.size + 1) 3 (.slice sob ys.length cob))).trans (tnL _ (w.heap.size + 1) 4 (.int .i64 kk)))
        have R6 : BoxL w6 w.heap.size (w.heap.size + 1) [.bool gx, .slice soa xs.length coa, .bool gy, .slice sob ys.length cob, .int .i64 kk] := by rw [hw6]; exact (((((R5.set 0 (.bool gx) (by simp)).set 1 (.slice soa xs.length coa) (by simp)).set 2 (.bool gy) (by simp)).set 3 (.slice sob ys.length cob) (by simp)).set 4 (.int .i64 kk) (by simp))
        have blo6 := R5.lo
        rw [← hw6]
        clear hw6
        have B6 := tn6.below B5 B5.size (fun q hq => by simp at hq; omega)
        have X6 := X5.tn tn6 (not_one (by omega))
        have oa6 := ownsI.tn oa5 tn6 ap_R_oa
        have ob6 := ownsI.tn ob5 tn6 ap_R_ob
        clear B5 X5 R5 oa5 ob5 tn6 blo6
        clear c_R_0 f_R_0 c_R_1 f_R_1 c_R_2 f_R_2 c_R_3 f_R_3 c_R_4 f_R_4
        clear hH
        have hH : (fun W : World => W.cell? ⟨w.heap.size, 0, none⟩ = some (.bool gx) ∧ W.cell? ⟨w.heap.size, 1, none⟩ = some (.slice ax nx cx) ∧ W.cell? ⟨w.heap.size, 2, none⟩ = some (.bool gy) ∧ W.cell? ⟨w.heap.size, 3, none⟩ = some (.slice ay ny cy) ∧ W.cell? ⟨w.heap.size, 4, none⟩ = some (.int .i64 kk)) w6 := ⟨X6.c 0 _ rfl, X6.c 1 _ rfl, X6.c 2 _ rfl, X6.c 3 _ rfl, X6.c 4 _ rfl⟩
        refine hK _ _ hH ?_
        clear hK
        clear hH
        refine wpAnyH_done (by kernel_rfl) ?_ _
        exact CutANANNN.mk soa coa sob cob qb2 qb4 rfl ⟨B6, R6, X6, oa6, ob6, ap_R_oa, ap_R_ob, ap_X_oa, ap_X_ob, ap_oa_ob⟩
      refine AllReadyH.cons rfl (fun K hK => ?_) ?_
      · go_simp
        obtain ⟨w3, hw3⟩ : ∃ v, v = w2.alloc (.cells #[] 3) := ⟨_, rfl⟩
        have bb3 : Below w2.heap.size w2 w3 := by rw [hw3]; exact below1 _ _
        obtain ⟨qb3, hq3⟩ : ∃ v, v = w2.heap.size := ⟨_, rfl⟩
        have eb : ownsI w3 w2.heap.size (.slice (some ⟨qb3, 0, none⟩) 0 0) [] := by rw [hw3, hq3]; exact made_empty w2
        rw [← hw3]
        (try rw [← hq3])
        clear hw3
        have ap_X_eb : Apart (blkI (.slice (some ⟨qb3, 0, none⟩) 0 0)) [w.heap.size] := apart_one fun q hq => by have h1 := (ownsI.ltb eb q hq).1; have h2 := X2.hi; omega
        have ap_R_eb : Apart (blkI (.slice (some ⟨qb3, 0, none⟩) 0 0)) [w.heap.size + 1] := apart_one fun q hq => by have h1 := (ownsI.ltb eb q hq).1; have h2 := R2.hi; omega
        have ap_ea_eb : Apart (blkI (.slice (some ⟨qb2, 0, none⟩) 0 0)) (blkI (.slice (some ⟨qb3, 0, none⟩) 0 0)) := apart_of (fun k hk => (ownsI.ltb ea2 k hk).2) (fun k hk => (ownsI.ltb eb k hk).1)
        replace eb := ownsI_mono eb B2.size
        have B3 := B2.trans (bb3.mono B2.size)
        have X3 := X2.below bb3 (Nat.le_refl _)
        have R3 := R2.below bb3 (Nat.le_refl _)
        have ea3 := ownsI.below ea2 bb3 (Nat.le_refl _)
        clear B2 X2 R2 ea2 bb3 hH hq3
        have eb3 := eb
        clear eb
        have hH : (fun W : World => W.cell? ⟨w.heap.size, 0, none⟩ = some (.bool gx) ∧ W.cell? ⟨w.heap.size, 1, none⟩ = some (.slice ax nx cx) ∧ W.cell? ⟨w.heap.size, 2, none⟩ = some (.bool gy) ∧ W.cell? ⟨w.heap.size, 3, none⟩ = some (.slice ay ny cy) ∧ W.cell? ⟨w.heap.size, 4, none⟩ = some (.int .i64 kk)) w3 := ⟨X3.c 0 _ rfl, X3.c 1 _ rfl, X3.c 2 _ rfl, X3.c 3 _ rfl, X3.c 4 _ rfl⟩
        refine hK.out _ _ hH (fun _ => ?_)
        clear hK K
        refine oneH 7 rfl (by kernel_rfl) (fun K' hK => ?_)
        refine stepA rfl (.tmp 6) (.tmp 9) rfl w.heap.size (.slice (some ⟨qb2, 0, none⟩) 0 0) _ [] xs rfl ea3 rfl (rx.below B3 (Nat.le_refl _)) (by simp; omega) B3.size ?_
        intro voa w4 oa tn4 ha4
        rw [List.nil_append] at oa
        have B4 := tn4.below B3 B3.size (fun q hq => (ea3.ltb q hq).1)
        have X4 := X3.tn tn4 (fun h => ap_X_ea _ h (by simp))
        have R4 := R3.tn tn4 (fun h => ap_R_ea _ h (by simp))
        have eb4 := ownsI.tn eb3 tn4 (Apart.symm ap_ea_eb)
        obtain ⟨soa, coa, eoa, -⟩ := ownsI.row oa
        subst eoa
        have ap_X_oa : Apart (blkI (.slice soa xs.length coa)) [w.heap.size] := apart_one fun q hq => (ha4 q hq).elim (fun h => fun e => ap_X_ea q h (by simp [e])) (fun h => by have h1 := X3.hi; omega)
        have ap_R_oa : Apart (blkI (.slice soa xs.length coa)) [w.heap.size + 1] := apart_one fun q hq => (ha4 q hq).elim (fun h => fun e => ap_R_ea q h (by simp [e])) (fun h => by have h1 := R3.hi; omega)
        have ap_eb_oa : Apart (blkI (.slice (some ⟨qb3, 0, none⟩) 0 0)) (blkI (.slice soa xs.length coa)) := (fun q hq hs => (ha4 q hs).elim (fun h => (Apart.symm ap_ea_eb) q hq h) (fun h => by have h1 := (ownsI.ltb eb3 q hq).2; omega))
        clear B3 X3 R3 ea3 eb3 tn4 ha4 hH
        have oa4 := oa
        clear oa
        have hH : (fun W : World => W.cell? ⟨w.heap.size, 0, none⟩ = some (.bool gx) ∧ W.cell? ⟨w.heap.size, 1, none⟩ = some (.slice ax nx cx) ∧ W.cell? ⟨w.heap.size, 2, none⟩ = some (.bool gy) ∧ W.cell? ⟨w.heap.size, 3, none⟩ = some (.slice ay ny cy) ∧ W.cell? ⟨w.heap.size, 4, none⟩ = some (.int .i64 kk)) w4 := ⟨X4.c 0 _ rfl, X4.c 1 _ rfl, X4.c 2 _ rfl, X4.c 3 _ rfl, X4.c 4 _ rfl⟩
        refine hK _ _ hH ?_
        clear hK
        refine takeH 8 (some 11) (.agg #[.bool gx, .slice soa xs.length coa]) rfl rfl (by kernel_rfl) (by kernel_rfl) (by kernel_rfl) (fun _ _ _ h => h) (Or.inl ⟨rfl, fun W hW => by go_simp⟩) hH ?_
        simp only [Act.put, List.setIfInBounds_toArray, List.set_cons_zero, List.set_cons_succ]
        refine oneH 16 rfl (by kernel_rfl) (fun K' hK => ?_)
        refine stepA rfl (.tmp 15) (.tmp 18) rfl w.heap.size (.slice (some ⟨qb3, 0, none⟩) 0 0) _ [] ys rfl eb4 rfl (ry.below B4 (Nat.le_refl _)) (by simp; omega) B4.size ?_
        intro vob w5 ob tn5 ha5
        rw [List.nil_append] at ob
        have B5 := tn5.below B4 B4.size (fun q hq => (eb4.ltb q hq).1)
        have X5 := X4.tn tn5 (fun h => ap_X_eb _ h (by simp))
        have R5 := R4.tn tn5 (fun h => ap_R_eb _ h (by simp))
        have oa5 := ownsI.tn oa4 tn5 (Apart.symm ap_eb_oa)
        obtain ⟨sob, cob, eob, -⟩ := ownsI.row ob
        subst eob
        have ap_X_ob : Apart (blkI (.slice sob ys.length cob)) [w.heap.size] := apart_one fun q hq => (ha5 q hq).elim (fun h => fun e => ap_X_eb q h (by simp [e])) (fun h => by have h1 := X4.hi; omega)
        have ap_R_ob : Apart (blkI (.slice sob ys.length cob)) [w.heap.size + 1] := apart_one fun q hq => (ha5 q hq).elim (fun h => fun e => ap_R_eb q h (by simp [e])) (fun h => by have h1 := R4.hi; omega)
        have ap_oa_ob : Apart (blkI (.slice soa xs.length coa)) (blkI (.slice sob ys.length cob)) := (fun q hq hs => (ha5 q hs).elim (fun h => (Apart.symm ap_eb_oa) q hq h) (fun h => by have h1 := (ownsI.ltb oa4 q hq).2; omega))
        clear B4 X4 R4 eb4 oa4 tn5 ha5 hH
        have ob5 := ob
        clear ob
        have hH : (fun W : World => W.cell? ⟨w.heap.size, 0, none⟩ = some (.bool gx) ∧ W.cell? ⟨w.heap.size, 1, none⟩ = some (.slice ax nx cx) ∧ W.cell? ⟨w.heap.size, 2, none⟩ = some (.bool gy) ∧ W.cell? ⟨w.heap.size, 3, none⟩ = some (.slice ay ny cy) ∧ W.cell? ⟨w.heap.size, 4, none⟩ = some (.int .i64 kk)) w5 := ⟨X5.c 0 _ rfl, X5.c 1 _ rfl, X5.c 2 _ rfl, X5.c 3 _ rfl, X5.c 4 _ rfl⟩
        refine hK _ _ hH ?_
        clear hK
        refine takeH 17 (some 20) (.agg #[.bool gy, .slice sob ys.length cob]) rfl rfl (by kernel_rfl) (by kernel_rfl) (by kernel_rfl) (fun _ _ _ h => h) (Or.inl ⟨rfl, fun W hW => by go_simp⟩) hH ?_
        simp only [Act.put, List.setIfInBounds_toArray, List.set_cons_zero, List.set_cons_succ]
        refine takeH 20 (some 23) (.agg #[.bool gx, .slice soa xs.length coa, .bool gy, .slice sob ys.length cob, .int .i64 kk]) rfl rfl (by kernel_rfl) (by kernel_rfl) (by kernel_rfl) (fun _ _ _ h => h) (Or.inl ⟨rfl, fun W hW => by go_simp⟩) hH ?_
        simp only [Act.put, List.setIfInBounds_toArray, List.set_cons_zero, List.set_cons_succ]
        have c_R_0 := R5.c 0 _ rfl
        have f_R_0 := R5.f 0 _ rfl
        have c_R_1 := R5.c 1 _ rfl
        have f_R_1 := R5.f 1 _ rfl
        have c_R_2 := R5.c 2 _ rfl
        have f_R_2 := R5.f 2 _ rfl
        have c_R_3 := R5.c 3 _ rfl
        have f_R_3 := R5.f 3 _ rfl
        have c_R_4 := R5.c 4 _ rfl
        have f_R_4 := R5.f 4 _ rfl
        refine oneH 21 rfl (by kernel_rfl) (fun K' hK => ?_)
        go_simp
        obtain ⟨w6, hw6⟩ : ∃ v, v = ((((w5.setCell ⟨w.heap.size + 1, 0, none⟩ (.bool gx)).setCell ⟨w.heap.size + 1, 1, none⟩ (.slice soa xs.length coa)).setCell ⟨w.heap.size + 1, 2, none⟩ (.bool gy)).setCell ⟨w.heap.size + 1, 3, none⟩ (.slice sob ys.length cob)).setCell ⟨w.heap.size + 1, 4, none⟩ (.int .i64 kk) := ⟨_, rfl⟩
        have tn6 : Tn [w.heap.size + 1] w5 w6 := by rw [hw6]; exact (((((tnL w5 (w.heap.size + 1) 0 (.bool gx)).trans (tnL _ (w.heap.size + 1) 1 (.slice soa xs.length coa))).trans (tnL _ (w.heap.size + 1) 2 (.bool gy))).trans (tnL _ (w.heap.size + 1) 3 (.slice sob ys.length cob))).trans (tnL _ (w.heap.size + 1) 4 (.int .i64 kk)))
        have R6 : BoxL w6 w.heap.size (w.heap.size + 1) [.bool gx, .slice soa xs.length coa, .bool gy, .slice sob ys.length cob, .int .i64 kk] := by rw [hw6]; exact (((((R5.set 0 (.bool gx) (by simp)).set 1 (.slice soa xs.length coa) (by simp)).set 2 (.bool gy) (by simp)).set 3 (.slice sob ys.length cob) (by simp)).set 4 (.int .i64 kk) (by simp))
        have blo6 := R5.lo
        rw [← hw6]
        clear hw6
        have B6 := tn6.below B5 B5.size (fun q hq => by simp at hq; omega)
        have X6 := X5.tn tn6 (not_one (by omega))
        have oa6 := ownsI.tn oa5 tn6 ap_R_oa
        have ob6 := ownsI.tn ob5 tn6 ap_R_ob
        clear B5 X5 R5 oa5 ob5 tn6 blo6
        clear c_R_0 f_R_0 c_R_1 f_R_1 c_R_2 f_R_2 c_R_3 f_R_3 c_R_4 f_R_4
        clear hH
        have hH : (fun W : World => W.cell? ⟨w.heap.size, 0, none⟩ = some (.bool gx) ∧ W.cell? ⟨w.heap.size, 1, none⟩ = some (.slice ax nx cx) ∧ W.cell? ⟨w.heap.size, 2, none⟩ = some (.bool gy) ∧ W.cell? ⟨w.heap.size, 3, none⟩ = some (.slice ay ny cy) ∧ W.cell? ⟨w.heap.size, 4, none⟩ = some (.int .i64 kk)) w6 := ⟨X6.c 0 _ rfl, X6.c 1 _ rfl, X6.c 2 _ rfl, X6.c 3 _ rfl, X6.c 4 _ rfl⟩
        refine hK _ _ hH ?_
        clear hK
        clear hH
        refine wpAnyH_done (by kernel_rfl) ?_ _
        exact CutANANNN.mk soa coa sob cob qb2 qb3 rfl ⟨B6, R6, X6, oa6, ob6, ap_R_oa, ap_R_ob, ap_X_oa, ap_X_ob, ap_oa_ob⟩
      exact AllReadyH.nil
    refine AllReadyH.cons rfl (fun K hK => ?_) ?_
    · go_simp
      obtain ⟨w2, hw2⟩ : ∃ v, v = w1.alloc (.cells #[] 3) := ⟨_, rfl⟩
      have bb2 : Below w1.heap.size w1 w2 := by rw [hw2]; exact below1 _ _
      obtain ⟨qb2, hq2⟩ : ∃ v, v = w1.heap.size := ⟨_, rfl⟩
      have eb : ownsI w2 w1.heap.size (.slice (some ⟨qb2, 0, none⟩) 0 0) [] := by rw [hw2, hq2]; exact made_empty w1
      rw [← hw2]
      (try rw [← hq2])
      clear hw2
      have ap_X_eb : Apart (blkI (.slice (some ⟨qb2, 0, none⟩) 0 0)) [w.heap.size] := apart_one fun q hq => by have h1 := (ownsI.ltb eb q hq).1; have h2 := X1.hi; omega
      have ap_R_eb : Apart (blkI (.slice (some ⟨qb2, 0, none⟩) 0 0)) [w.heap.size + 1] := apart_one fun q hq => by have h1 := (ownsI.ltb eb q hq).1; have h2 := R1.hi; omega
      replace eb := ownsI_mono eb B1.size
      have B2 := B1.trans (bb2.mono B1.size)
      have X2 := X1.below bb2 (Nat.le_refl _)
      have R2 := R1.below bb2 (Nat.le_refl _)
      clear bb2 hH hq2
      have eb2 := eb
      clear eb
      have hH : (fun W : World => W.cell? ⟨w.heap.size, 0, none⟩ = some (.bool gx) ∧ W.cell? ⟨w.heap.size, 1, none⟩ = some (.slice ax nx cx) ∧ W.cell? ⟨w.heap.size, 2, none⟩ = some (.bool gy) ∧ W.cell? ⟨w.heap.size, 3, none⟩ = some (.slice ay ny cy) ∧ W.cell? ⟨w.heap.size, 4, none⟩ = some (.int .i64 kk)) w2 := ⟨X2.c 0 _ rfl, X2.c 1 _ rfl, X2.c 2 _ rfl, X2.c 3 _ rfl, X2.c 4 _ rfl⟩
      refine hK.out _ _ hH (fun _ => ?_)
      clear hK K
      refine oneH 3 rfl (by kernel_rfl) (fun K' hK => ?_)
      go_simp
      obtain ⟨w3, hw3⟩ : ∃ v, v = w2.alloc (.cells #[] 3) := ⟨_, rfl⟩
      have bb3 : Below w2.heap.size w2 w3 := by rw [hw3]; exact below1 _ _
      obtain ⟨qb3, hq3⟩ : ∃ v, v = w2.heap.size := ⟨_, rfl⟩
      have ea : ownsI w3 w2.heap.size (.slice (some ⟨qb3, 0, none⟩) 0 0) [] := by rw [hw3, hq3]; exact made_empty w2
      rw [← hw3]
      (try rw [← hq3])
      clear hw3
      have ap_X_ea : Apart (blkI (.slice (some ⟨qb3, 0, none⟩) 0 0)) [w.heap.size] := apart_one fun q hq => by have h1 := (ownsI.ltb ea q hq).1; have h2 := X2.hi; omega
      have ap_R_ea : Apart (blkI (.slice (some ⟨qb3, 0, none⟩) 0 0)) [w.heap.size + 1] := apart_one fun q hq => by have h1 := (ownsI.ltb ea q hq).1; have h2 := R2.hi; omega
      have ap_ea_eb : Apart (blkI (.slice (some ⟨qb3, 0, none⟩) 0 0)) (blkI (.slice (some ⟨qb2, 0, none⟩) 0 0)) := Apart.symm (apart_of (fun k hk => (ownsI.ltb eb2 k hk).2) (fun k hk => (ownsI.ltb ea k hk).1))
      replace ea := ownsI_mono ea B2.size
      have B3 := B2.trans (bb3.mono B2.size)
      have X3 := X2.below bb3 (Nat.le_refl _)
      have R3 := R2.below bb3 (Nat.le_refl _)
      have eb3 := ownsI.below eb2 bb3 (Nat.le_refl _)
      clear B2 X2 R2 eb2 bb3 hH hq3
      have ea3 := ea
      clear ea
      have hH : (fun W : World => W.cell? ⟨w.heap.size, 0, none⟩ = some (.bool gx) ∧ W.cell? ⟨w.heap.size, 1, none⟩ = some (.slice ax nx cx) ∧ W.cell? ⟨w.heap.size, 2, none⟩ = some (.bool gy) ∧ W.cell? ⟨w.heap.size, 3, none⟩ = some (.slice ay ny cy) ∧ W.cell? ⟨w.heap.size, 4, none⟩ = some (.int .i64 kk)) w3 := ⟨X3.c 0 _ rfl, X3.c 1 _ rfl, X3.c 2 _ rfl, X3.c 3 _ rfl, X3.c 4 _ rfl⟩
      refine hK _ _ hH ?_
      clear hK
      refine oneH 7 rfl (by kernel_rfl) (fun K' hK => ?_)
      refine stepA rfl (.tmp 6) (.tmp 9) rfl w.heap.size (.slice (some ⟨qb3, 0, none⟩) 0 0) _ [] xs rfl ea3 rfl (rx.below B3 (Nat.le_refl _)) (by simp; omega) B3.size ?_
      intro voa w4 oa tn4 ha4
      rw [List.nil_append] at oa
      have B4 := tn4.below B3 B3.size (fun q hq => (ea3.ltb q hq).1)
      have X4 := X3.tn tn4 (fun h => ap_X_ea _ h (by simp))
      have R4 := R3.tn tn4 (fun h => ap_R_ea _ h (by simp))
      have eb4 := ownsI.tn eb3 tn4 (Apart.symm ap_ea_eb)
      obtain ⟨soa, coa, eoa, -⟩ := ownsI.row oa
      subst eoa
      have ap_X_oa : Apart (blkI (.slice soa xs.length coa)) [w.heap.size] := apart_one fun q hq => (ha4 q hq).elim (fun h => fun e => ap_X_ea q h (by simp [e])) (fun h => by have h1 := X3.hi; omega)
      have ap_R_oa : Apart (blkI (.slice soa xs.length coa)) [w.heap.size + 1] := apart_one fun q hq => (ha4 q hq).elim (fun h => fun e => ap_R_ea q h (by simp [e])) (fun h => by have h1 := R3.hi; omega)
      have ap_eb_oa : Apart (blkI (.slice (some ⟨qb2, 0, none⟩) 0 0)) (blkI (.slice soa xs.length coa)) := (fun q hq hs => (ha4 q hs).elim (fun h => (Apart.symm ap_ea_eb) q hq h) (fun h => by have h1 := (ownsI.ltb eb3 q hq).2; omega))
      clear B3 X3 R3 eb3 ea3 tn4 ha4 hH
      have oa4 := oa
      clear oa
      have hH : (fun W : World => W.cell? ⟨w.heap.size, 0, none⟩ = some (.bool gx) ∧ W.cell? ⟨w.heap.size, 1, none⟩ = some (.slice ax nx cx) ∧ W.cell? ⟨w.heap.size, 2, none⟩ = some (.bool gy) ∧ W.cell? ⟨w.heap.size, 3, none⟩ = some (.slice ay ny cy) ∧ W.cell? ⟨w.heap.size, 4, none⟩ = some (.int .i64 kk)) w4 := ⟨X4.c 0 _ rfl, X4.c 1 _ rfl, X4.c 2 _ rfl, X4.c 3 _ rfl, X4.c 4 _ rfl⟩
      refine hK _ _ hH ?_
      clear hK
      refine takeH 8 (some 11) (.agg #[.bool gx, .slice soa xs.length coa]) rfl rfl (by kernel_rfl) (by kernel_rfl) (by kernel_rfl) (fun _ _ _ h => h) (Or.inl ⟨rfl, fun W hW => by go_simp⟩) hH ?_
      simp only [Act.put, List.setIfInBounds_toArray, List.set_cons_zero, List.set_cons_succ]
      refine oneH 16 rfl (by kernel_rfl) (fun K' hK => ?_)
      refine stepA rfl (.tmp 15) (.tmp 18) rfl w.heap.size (.slice (some ⟨qb2, 0, none⟩) 0 0) _ [] ys rfl eb4 rfl (ry.below B4 (Nat.le_refl _)) (by simp; omega) B4.size ?_
      intro vob w5 ob tn5 ha5
      rw [List.nil_append] at ob
      have B5 := tn5.below B4 B4.size (fun q hq => (eb4.ltb q hq).1)
      have X5 := X4.tn tn5 (fun h => ap_X_eb _ h (by simp))
      have R5 := R4.tn tn5 (fun h => ap_R_eb _ h (by simp))
      have oa5 := ownsI.tn oa4 tn5 (Apart.symm ap_eb_oa)
      obtain ⟨sob, cob, eob, -⟩ := ownsI.row ob
      subst eob
      have ap_X_ob : Apart (blkI (.slice sob ys.length cob)) [w.heap.size] := apart_one fun q hq => (ha5 q hq).elim (fun h => fun e => ap_X_eb q h (by simp [e])) (fun h => by have h1 := X4.hi; omega)
      have ap_R_ob : Apart (blkI (.slice sob ys.length cob)) [w.heap.size + 1] := apart_one fun q hq => (ha5 q hq).elim (fun h => fun e => ap_R_eb q h (by simp [e])) (fun h => by have h1 := R4.hi; omega)
      have ap_oa_ob : Apart (blkI (.slice soa xs.length coa)) (blkI (.slice sob ys.length cob)) := (fun q hq hs => (ha5 q hs).elim (fun h => (Apart.symm ap_eb_oa) q hq h) (fun h => by have h1 := (ownsI.ltb oa4 q hq).2; omega))
      clear B4 X4 R4 eb4 oa4 tn5 ha5 hH
      have ob5 := ob
      clear ob
      have hH : (fun W : World => W.cell? ⟨w.heap.size, 0, none⟩ = some (.bool gx) ∧ W.cell? ⟨w.heap.size, 1, none⟩ = some (.slice ax nx cx) ∧ W.cell? ⟨w.heap.size, 2, none⟩ = some (.bool gy) ∧ W.cell? ⟨w.heap.size, 3, none⟩ = some (.slice ay ny cy) ∧ W.cell? ⟨w.heap.size, 4, none⟩ = some (.int .i64 kk)) w5 := ⟨X5.c 0 _ rfl, X5.c 1 _ rfl, X5.c 2 _ rfl, X5.c 3 _ rfl, X5.c 4 _ rfl⟩
      refine hK _ _ hH ?_
      clear hK
      refine takeH 17 (some 20) (.agg #[.bool gy, .slice sob ys.length cob]) rfl rfl (by kernel_rfl) (by kernel_rfl) (by kernel_rfl) (fun _ _ _ h => h) (Or.inl ⟨rfl, fun W hW => by go_simp⟩) hH ?_
      simp only [Act.put, List.setIfInBounds_toArray, List.set_cons_zero, List.set_cons_succ]
      refine takeH 20 (some 23) (.agg #[.bool gx, .slice soa xs.length coa, .bool gy, .slice sob ys.length cob, .int .i64 kk]) rfl rfl (by kernel_rfl) (by kernel_rfl) (by kernel_rfl) (fun _ _ _ h => h) (Or.inl ⟨rfl, fun W hW => by go_simp⟩) hH ?_
      simp only [Act.put, List.setIfInBounds_toArray, List.set_cons_zero, List.set_cons_succ]
      have c_R_0 := R5.c 0 _ rfl
      have f_R_0 := R5.f 0 _ rfl
      have c_R_1 := R5.c 1 _ rfl
      have f_R_1 := R5.f 1 _ rfl
      have c_R_2 := R5.c 2 _ rfl
      have f_R_2 := R5.f 2 _ rfl
      have c_R_3 := R5.c 3 _ rfl
      have f_R_3 := R5.f 3 _ rfl
      have c_R_4 := R5.c 4 _ rfl
      have f_R_4 := R5.f 4 _ rfl
      refine oneH 21 rfl (by kernel_rfl) (fun K' hK => ?_)
      go_simp
      obtain ⟨w6, hw6⟩ : ∃ v, v = ((((w5.setCell ⟨w.heap.size + 1, 0, none⟩ (.bool gx)).setCell ⟨w.heap.size + 1, 1, none⟩ (.slice soa xs.length coa)).setCell ⟨w.heap.size + 1, 2, none⟩ (.bool gy)).setCell ⟨w.heap.size + 1, 3, none⟩ (.slice sob ys.length cob)).setCell ⟨w.heap.size + 1, 4, none⟩ (.int .i64 kk) := ⟨_, rfl⟩
      have tn6 : Tn [w.heap.size + 1] w5 w6 := by rw [hw6]; exact (((((tnL w5 (w.heap.size + 1) 0 (.bool gx)).trans (tnL _ (w.heap.size + 1) 1 (.slice soa xs.length coa))).trans (tnL _ (w.heap.size + 1) 2 (.bool gy))).trans (tnL _ (w.heap.size + 1) 3 (.slice sob ys.length cob))).trans (tnL _ (w.heap.size + 1) 4 (.int .i64 kk)))
      have R6 : BoxL w6 w.heap.size (w.heap.size + 1) [.bool gx, .slice soa xs.length coa, .bool gy, .slice sob ys.length cob, .int .i64 kk] := by rw [hw6]; exact (((((R5.set 0 (.bool gx) (by simp)).set 1 (.slice soa xs.length coa) (by simp)).set 2 (.bool gy) (by simp)).set 3 (.slice sob ys.length cob) (by simp)).set 4 (.int .i64 kk) (by simp))
      have blo6 := R5.lo
      rw [← hw6]
      clear hw6
      have B6 := tn6.below B5 B5.size (fun q hq => by simp at hq; omega)
      have X6 := X5.tn tn6 (not_one (by omega))
      have oa6 := ownsI.tn oa5 tn6 ap_R_oa
      have ob6 := ownsI.tn ob5 tn6 ap_R_ob
      clear B5 X5 R5 oa5 ob5 tn6 blo6
      clear c_R_0 f_R_0 c_R_1 f_R_1 c_R_2 f_R_2 c_R_3 f_R_3 c_R_4 f_R_4
      clear hH
      have hH : (fun W : World => W.cell? ⟨w.heap.size, 0, none⟩ = some (.bool gx) ∧ W.cell? ⟨w.heap.size, 1, none⟩ = some (.slice ax nx cx) ∧ W.cell? ⟨w.heap.size, 2, none⟩ = some (.bool gy) ∧ W.cell? ⟨w.heap.size, 3, none⟩ = some (.slice ay ny cy) ∧ W.cell? ⟨w.heap.size, 4, none⟩ = some (.int .i64 kk)) w6 := ⟨X6.c 0 _ rfl, X6.c 1 _ rfl, X6.c 2 _ rfl, X6.c 3 _ rfl, X6.c 4 _ rfl⟩
      refine hK _ _ hH ?_
      clear hK
      clear hH
      refine wpAnyH_done (by kernel_rfl) ?_ _
      exact CutANANNN.mk soa coa sob cob qb3 qb2 rfl ⟨B6, R6, X6, oa6, ob6, ap_R_oa, ap_R_ob, ap_X_oa, ap_X_ob, ap_oa_ob⟩
    exact AllReadyH.nil
  case hB =>
    rintro soa coa sob cob qb2 qb4 w7 ⟨B7, R7, X7, oa7, ob7, ap_R_oa, ap_R_ob, ap_X_oa, ap_X_ob, ap_oa_ob⟩
    have c_R_0 := R7.c 0 _ rfl
    have c_R_1 := R7.c 1 _ rfl
    have c_R_2 := R7.c 2 _ rfl
    have c_R_3 := R7.c 3 _ rfl
    have c_R_4 := R7.c 4 _ rfl
    go_wp2
    (try simp only [Exit.inBlock, Exit.then])
    refine bodyPost_ret (v := .agg #[.bool gx, .slice soa xs.length coa, .bool gy, .slice sob ys.length cob, .int .i64 kk]) ?_ rfl ⟨_, rfl, ownsP.mk (ownsW.mkI oa7) (ownsW.mkI ob7) ap_oa_ob, B7⟩
    rw [results_cell1 rfl]
    go_simp

set_option maxRecDepth 20000 in
set_option maxHeartbeats 6400000 in
theorem iCopyW (va : Value) (a : Wh) (w : World) (ha : rowW w va a) (hl0 : a.2.length ≤ 1048576) :
    Calls Try.prog 62 #[va] w fun e w' => ∃ v, e = .returned v ∧ ownsW w' w.heap.size v a ∧ Below w.heap.size w w' := by
  obtain ⟨gx, ax, nx, cx, eq, -⟩ := ha.cell
  subst eq
  obtain ⟨ga, xs⟩ := a
  obtain ⟨rfl, rx⟩ := rowW.lim ha
  clear ha
  dsimp only at *
  have B0_0 : Below w.heap.size w w := Below.refl _ _
  obtain ⟨ww1, hww1⟩ : ∃ v, v = w.alloc (.cells #[.bool gx, .slice ax nx cx] 27) := ⟨_, rfl⟩
  have sz1 : ww1.heap.size = w.heap.size + 1 := by rw [hww1]; simp
  have bw1 : Below w.heap.size w ww1 := by rw [hww1]; exact below1 _ _
  have B0_1 := B0_0.trans (bw1.mono B0_0.size)
  have X0_1 : BoxL ww1 w.heap.size w.heap.size [.bool gx, .slice ax nx cx] := by rw [hww1]; have h := BoxL.made w [.bool gx, .slice ax nx cx] 27; exact h
  obtain ⟨ww2, hww2⟩ : ∃ v, v = ww1.alloc (.cells #[.bool false, .slice none 0 0] 27) := ⟨_, rfl⟩
  have sz2 : ww2.heap.size = w.heap.size + 1 + 1 := by rw [hww2]; simp [sz1]
  have bw2 : Below ww1.heap.size ww1 ww2 := by rw [hww2]; exact below1 _ _
  have B0_2 := B0_1.trans (bw2.mono B0_1.size)
  have X0_2 := X0_1.below bw2 (Nat.le_refl _)
  have R0_2 : BoxL ww2 (w.heap.size + 1) (w.heap.size + 1) [.bool false, .slice none 0 0] := by rw [hww2]; have h := BoxL.made ww1 [.bool false, .slice none 0 0] 27; rw [sz1] at h; exact h
  have X0 := X0_2
  have R0 := R0_2.mono (by omega : w.heap.size ≤ w.heap.size + 1)
  have B0 := B0_2
  clear B0_0 B0_1 B0_2 bw1 bw2 X0_1 X0_2 R0_2
  go_enter Try.func62, Try.ntmps62
  go_wp2_with fail
  have hvv : (w.alloc (.cells #[.bool gx, .slice ax nx cx] 27)).alloc (.cells #[.bool false, .slice none 0 0] 27) = ww2 := by rw [hww2]; rw [hww1]
  rw [hvv]
  clear hvv hww1 hww2 sz1
  clear ww1
  have hz0 : w.heap.size + 2 ≤ ww2.heap.size := by omega
  clear sz2
  obtain ⟨w1, hw1⟩ : ∃ v, Hid (v = ww2.drew) := ⟨_, rfl⟩
  have bd : Below ww2.heap.size ww2 w1 := by rw [hw1.out]; exact (Below.refl ww2.heap.size ww2).drew
  have B1 := B0.trans (bd.mono B0.size)
  have X1 := X0.below bd (Nat.le_refl _)
  have R1 := R0.below bd (Nat.le_refl _)
  clear B0 X0 R0 bd
  have hH : (fun W : World => W.cell? ⟨w.heap.size, 0, none⟩ = some (.bool gx) ∧ W.cell? ⟨w.heap.size, 1, none⟩ = some (.slice ax nx cx)) w1 := ⟨X1.c 0 _ rfl, X1.c 1 _ rfl⟩
  refine wp_region_held_drew (S := fun W => W.cell? ⟨w.heap.size, 0, none⟩ = some (.bool gx) ∧ W.cell? ⟨w.heap.size, 1, none⟩ = some (.slice ax nx cx)) (by kernel_rfl) (by rw [← hw1.out]; exact hH) ?_
  intro _
  rw [← hw1.out]
  clear hw1
  refine takeH 0 (some 3) (.pointer (some ⟨w.heap.size, 0, none⟩)) rfl rfl (by kernel_rfl) (by kernel_rfl) (by kernel_rfl) (fun _ _ _ h => h) (Or.inl ⟨rfl, fun W hW => by go_simp⟩) hH ?_
  simp only [Act.put, List.setIfInBounds_toArray, List.set_cons_zero, List.set_cons_succ]
  refine takeH 1 (some 4) (.bool gx) rfl rfl (by kernel_rfl) (by kernel_rfl) (by kernel_rfl) (fun _ _ _ h => h) (Or.inl ⟨rfl, fun W hW => by obtain ⟨l0, l1⟩ := hW; go_simp⟩) hH ?_
  simp only [Act.put, List.setIfInBounds_toArray, List.set_cons_zero, List.set_cons_succ]
  refine takeH 2 (some 5) (.pointer (some ⟨w.heap.size, 1, none⟩)) rfl rfl (by kernel_rfl) (by kernel_rfl) (by kernel_rfl) (fun _ _ _ h => h) (Or.inl ⟨rfl, fun W hW => by go_simp⟩) hH ?_
  simp only [Act.put, List.setIfInBounds_toArray, List.set_cons_zero, List.set_cons_succ]
  refine takeH 3 (some 6) (.slice ax nx cx) rfl rfl (by kernel_rfl) (by kernel_rfl) (by kernel_rfl) (fun _ _ _ h => h) (Or.inl ⟨rfl, fun W hW => by obtain ⟨l0, l1⟩ := hW; go_simp⟩) hH ?_
  simp only [Act.put, List.setIfInBounds_toArray, List.set_cons_zero, List.set_cons_succ]
  refine oneH 4 rfl (by kernel_rfl) (fun K' hK => ?_)
  refine stepA rfl (.const (.slice none 0 0)) (.tmp 6) rfl w.heap.size (.slice none 0 0) _ [] xs rfl (nilI w1 w.heap.size) rfl (rx.below B1 (Nat.le_refl _)) (by simp; omega) B1.size ?_
  intro voa w2 oa tn2 ha2
  rw [List.nil_append] at oa
  have bb2 : Below w1.heap.size w1 w2 := tn2.below (Below.refl _ _) (Nat.le_refl _) (fun q hq => by simp [blkI, Value.ownBlock] at hq)
  have B2 := B1.trans (bb2.mono B1.size)
  have X2 := X1.below bb2 (Nat.le_refl _)
  have R2 := R1.below bb2 (Nat.le_refl _)
  obtain ⟨soa, coa, eoa, -⟩ := ownsI.row oa
  subst eoa
  have ap_X_oa : Apart (blkI (.slice soa xs.length coa)) [w.heap.size] := apart_one fun q hq => (ha2 q hq).elim (fun h => (by simp [blkI, Value.ownBlock] at h)) (fun h => by have h1 := X1.hi; omega)
  have ap_R_oa : Apart (blkI (.slice soa xs.length coa)) [w.heap.size + 1] := apart_one fun q hq => (ha2 q hq).elim (fun h => (by simp [blkI, Value.ownBlock] at h)) (fun h => by have h1 := R1.hi; omega)
  clear B1 X1 R1 tn2 ha2 hH bb2
  have oa2 := oa
  clear oa
  have hH : (fun W : World => W.cell? ⟨w.heap.size, 0, none⟩ = some (.bool gx) ∧ W.cell? ⟨w.heap.size, 1, none⟩ = some (.slice ax nx cx)) w2 := ⟨X2.c 0 _ rfl, X2.c 1 _ rfl⟩
  refine hK _ _ hH ?_
  clear hK
  refine takeH 5 (some 8) (.agg #[.bool gx, .slice soa xs.length coa]) rfl rfl (by kernel_rfl) (by kernel_rfl) (by kernel_rfl) (fun _ _ _ h => h) (Or.inl ⟨rfl, fun W hW => by go_simp⟩) hH ?_
  simp only [Act.put, List.setIfInBounds_toArray, List.set_cons_zero, List.set_cons_succ]
  have c_R_0 := R2.c 0 _ rfl
  have f_R_0 := R2.f 0 _ rfl
  have c_R_1 := R2.c 1 _ rfl
  have f_R_1 := R2.f 1 _ rfl
  refine oneH 6 rfl (by kernel_rfl) (fun K' hK => ?_)
  go_simp
  obtain ⟨w3, hw3⟩ : ∃ v, v = (w2.setCell ⟨w.heap.size + 1, 0, none⟩ (.bool gx)).setCell ⟨w.heap.size + 1, 1, none⟩ (.slice soa xs.length coa) := ⟨_, rfl⟩
  have tn3 : Tn [w.heap.size + 1] w2 w3 := by rw [hw3]; exact ((tnL w2 (w.heap.size + 1) 0 (.bool gx)).trans (tnL _ (w.heap.size + 1) 1 (.slice soa xs.length coa)))
  have R3 : BoxL w3 w.heap.size (w.heap.size + 1) [.bool gx, .slice soa xs.length coa] := by rw [hw3]; exact ((R2.set 0 (.bool gx) (by simp)).set 1 (.slice soa xs.length coa) (by simp))
  have blo3 := R2.lo
  rw [← hw3]
  clear hw3
  have B3 := tn3.below B2 B2.size (fun q hq => by simp at hq; omega)
  have X3 := X2.tn tn3 (not_one (by omega))
  have oa3 := ownsI.tn oa2 tn3 ap_R_oa
  clear B2 X2 R2 oa2 tn3 blo3
  clear c_R_0 f_R_0 c_R_1 f_R_1
  clear hH
  have hH : (fun W : World => W.cell? ⟨w.heap.size, 0, none⟩ = some (.bool gx) ∧ W.cell? ⟨w.heap.size, 1, none⟩ = some (.slice ax nx cx)) w3 := ⟨X3.c 0 _ rfl, X3.c 1 _ rfl⟩
  refine hK _ _ hH ?_
  clear hK
  clear hH
  refine wpAnyH_done (by kernel_rfl) ?_ _
  have c_R_0 := R3.c 0 _ rfl
  have c_R_1 := R3.c 1 _ rfl
  go_wp2
  (try simp only [Exit.inBlock, Exit.then])
  refine bodyPost_ret (v := .agg #[.bool gx, .slice soa xs.length coa]) ?_ rfl ⟨_, rfl, ownsW.mkI oa3, B3⟩
  rw [results_cell1 rfl]
  go_simp

set_option maxRecDepth 20000 in
set_option maxHeartbeats 6400000 in
theorem iCopyP (va : Value) (a : Ph) (w : World) (ha : rowP w va a) (hl0 : a.1.1.2.length ≤ 1048576) (hl1 : a.1.2.2.length ≤ 1048576) :
    Calls Try.prog 30 #[va] w fun e w' => ∃ v, e = .returned v ∧ ownsP w' w.heap.size v a ∧ Below w.heap.size w w' := by
  obtain ⟨gx, ax, nx, cx, gy, ay, ny, cy, eq⟩ := ha.cell
  subst eq
  have hx := ha.x
  have hy := ha.y
  obtain ⟨⟨⟨ga, xs⟩, ⟨gb, ys⟩⟩, kk⟩ := a
  clear ha
  dsimp only at *
  have kX := fun W (h : Below w.heap.size w W) => iCopyW _ (ga, xs) W (hx.below h (Nat.le_refl _)) hl0
  have kY := fun W (h : Below w.heap.size w W) => iCopyW _ (gb, ys) W (hy.below h (Nat.le_refl _)) hl1
  clear hx hy
  have B0_0 : Below w.heap.size w w := Below.refl _ _
  obtain ⟨ww1, hww1⟩ : ∃ v, v = w.alloc (.cells #[.bool gx, .slice ax nx cx, .bool gy, .slice ay ny cy, .int .i64 kk] 34) := ⟨_, rfl⟩
  have sz1 : ww1.heap.size = w.heap.size + 1 := by rw [hww1]; simp
  have bw1 : Below w.heap.size w ww1 := by rw [hww1]; exact below1 _ _
  have B0_1 := B0_0.trans (bw1.mono B0_0.size)
  have X0_1 : BoxL ww1 w.heap.size w.heap.size [.bool gx, .slice ax nx cx, .bool gy, .slice ay ny cy, .int .i64 kk] := by rw [hww1]; have h := BoxL.made w [.bool gx, .slice ax nx cx, .bool gy, .slice ay ny cy, .int .i64 kk] 34; exact h
  obtain ⟨ww2, hww2⟩ : ∃ v, v = ww1.alloc (.cells #[.bool false, .slice none 0 0, .bool false, .slice none 0 0, .int .i64 0] 34) := ⟨_, rfl⟩
  have sz2 : ww2.heap.size = w.heap.size + 1 + 1 := by rw [hww2]; simp [sz1]
  have bw2 : Below ww1.heap.size ww1 ww2 := by rw [hww2]; exact below1 _ _
  have B0_2 := B0_1.trans (bw2.mono B0_1.size)
  have X0_2 := X0_1.below bw2 (Nat.le_refl _)
  have R0_2 : BoxL ww2 (w.heap.size + 1) (w.heap.size + 1) [.bool false, .slice none 0 0, .bool false, .slice none 0 0, .int .i64 0] := by rw [hww2]; have h := BoxL.made ww1 [.bool false, .slice none 0 0, .bool false, .slice none 0 0, .int .i64 0] 34; rw [sz1] at h; exact h
  have X0 := X0_2
  have R0 := R0_2.mono (by omega : w.heap.size ≤ w.heap.size + 1)
  have B0 := B0_2
  clear B0_0 B0_1 B0_2 bw1 bw2 X0_1 X0_2 R0_2
  go_enter Try.func30, Try.ntmps30
  go_wp2_with fail
  have hvv : (w.alloc (.cells #[.bool gx, .slice ax nx cx, .bool gy, .slice ay ny cy, .int .i64 kk] 34)).alloc (.cells #[.bool false, .slice none 0 0, .bool false, .slice none 0 0, .int .i64 0] 34) = ww2 := by rw [hww2]; rw [hww1]
  rw [hvv]
  clear hvv hww1 hww2 sz1
  clear ww1
  have hz0 : w.heap.size + 2 ≤ ww2.heap.size := by omega
  clear sz2
  obtain ⟨w1, hw1⟩ : ∃ v, Hid (v = ww2.drew) := ⟨_, rfl⟩
  have bd : Below ww2.heap.size ww2 w1 := by rw [hw1.out]; exact (Below.refl ww2.heap.size ww2).drew
  have B1 := B0.trans (bd.mono B0.size)
  have X1 := X0.below bd (Nat.le_refl _)
  have R1 := R0.below bd (Nat.le_refl _)
  clear B0 X0 R0 bd
  have hH : (fun W : World => W.cell? ⟨w.heap.size, 0, none⟩ = some (.bool gx) ∧ W.cell? ⟨w.heap.size, 1, none⟩ = some (.slice ax nx cx) ∧ W.cell? ⟨w.heap.size, 2, none⟩ = some (.bool gy) ∧ W.cell? ⟨w.heap.size, 3, none⟩ = some (.slice ay ny cy) ∧ W.cell? ⟨w.heap.size, 4, none⟩ = some (.int .i64 kk)) w1 := ⟨X1.c 0 _ rfl, X1.c 1 _ rfl, X1.c 2 _ rfl, X1.c 3 _ rfl, X1.c 4 _ rfl⟩
  refine wp_region_held_drew (S := fun W => W.cell? ⟨w.heap.size, 0, none⟩ = some (.bool gx) ∧ W.cell? ⟨w.heap.size, 1, none⟩ = some (.slice ax nx cx) ∧ W.cell? ⟨w.heap.size, 2, none⟩ = some (.bool gy) ∧ W.cell? ⟨w.heap.size, 3, none⟩ = some (.slice ay ny cy) ∧ W.cell? ⟨w.heap.size, 4, none⟩ = some (.int .i64 kk)) (by kernel_rfl) (by rw [← hw1.out]; exact hH) ?_
  intro _
  rw [← hw1.out]
  clear hw1
  refine takeH 0 (some 3) (.pointer (some ⟨w.heap.size, 0, none⟩)) rfl rfl (by kernel_rfl) (by kernel_rfl) (by kernel_rfl) (fun _ _ _ h => h) (Or.inl ⟨rfl, fun W hW => by go_simp⟩) hH ?_
  simp only [Act.put, List.setIfInBounds_toArray, List.set_cons_zero, List.set_cons_succ]
  refine takeH 1 (some 4) (.agg #[.bool gx, .slice ax nx cx]) rfl rfl (by kernel_rfl) (by kernel_rfl) (by kernel_rfl) (fun _ _ _ h => h) (Or.inl ⟨rfl, fun W hW => by obtain ⟨l0, l1, l2, l3, l4⟩ := hW; go_simp⟩) hH ?_
  simp only [Act.put, List.setIfInBounds_toArray, List.set_cons_zero, List.set_cons_succ]
  refine takeH 3 (some 6) (.pointer (some ⟨w.heap.size, 2, none⟩)) rfl rfl (by kernel_rfl) (by kernel_rfl) (by kernel_rfl) (fun _ _ _ h => h) (Or.inl ⟨rfl, fun W hW => by go_simp⟩) hH ?_
  simp only [Act.put, List.setIfInBounds_toArray, List.set_cons_zero, List.set_cons_succ]
  refine takeH 4 (some 7) (.agg #[.bool gy, .slice ay ny cy]) rfl rfl (by kernel_rfl) (by kernel_rfl) (by kernel_rfl) (fun _ _ _ h => h) (Or.inl ⟨rfl, fun W hW => by obtain ⟨l0, l1, l2, l3, l4⟩ := hW; go_simp⟩) hH ?_
  simp only [Act.put, List.setIfInBounds_toArray, List.set_cons_zero, List.set_cons_succ]
  refine takeH 6 (some 9) (.pointer (some ⟨w.heap.size, 4, none⟩)) rfl rfl (by kernel_rfl) (by kernel_rfl) (by kernel_rfl) (fun _ _ _ h => h) (Or.inl ⟨rfl, fun W hW => by go_simp⟩) hH ?_
  simp only [Act.put, List.setIfInBounds_toArray, List.set_cons_zero, List.set_cons_succ]
  refine takeH 7 (some 10) (.int .i64 kk) rfl rfl (by kernel_rfl) (by kernel_rfl) (by kernel_rfl) (fun _ _ _ h => h) (Or.inl ⟨rfl, fun W hW => by obtain ⟨l0, l1, l2, l3, l4⟩ := hW; go_simp⟩) hH ?_
  simp only [Act.put, List.setIfInBounds_toArray, List.set_cons_zero, List.set_cons_succ]
  refine oneH 2 rfl (by kernel_rfl) (fun K' hK => ?_)
  go_simp
  refine (kX _ B1).mono ?_
  rintro e w2 ⟨v, rfl, oa, bb2⟩
  obtain ⟨h1, s1, t1, u1, rfl⟩ := oa.cell
  have ap_X_oa : Apart (blkW (.agg #[.bool h1, .slice s1 t1 u1])) [w.heap.size] := apart_one fun q hq => by have h1 := (ownsW.ltb oa q hq).1; have h2 := X1.hi; omega
  have ap_R_oa : Apart (blkW (.agg #[.bool h1, .slice s1 t1 u1])) [w.heap.size + 1] := apart_one fun q hq => by have h1 := (ownsW.ltb oa q hq).1; have h2 := R1.hi; omega
  replace oa := ownsW_mono oa B1.size
  have B2 := B1.trans (bb2.mono B1.size)
  have X2 := X1.below bb2 (Nat.le_refl _)
  have R2 := R1.below bb2 (Nat.le_refl _)
  clear B1 X1 R1 bb2 hH
  have oa2 := oa
  clear oa
  have hH : (fun W : World => W.cell? ⟨w.heap.size, 0, none⟩ = some (.bool gx) ∧ W.cell? ⟨w.heap.size, 1, none⟩ = some (.slice ax nx cx) ∧ W.cell? ⟨w.heap.size, 2, none⟩ = some (.bool gy) ∧ W.cell? ⟨w.heap.size, 3, none⟩ = some (.slice ay ny cy) ∧ W.cell? ⟨w.heap.size, 4, none⟩ = some (.int .i64 kk)) w2 := ⟨X2.c 0 _ rfl, X2.c 1 _ rfl, X2.c 2 _ rfl, X2.c 3 _ rfl, X2.c 4 _ rfl⟩
  refine hK _ _ hH ?_
  clear hK
  refine oneH 5 rfl (by kernel_rfl) (fun K' hK => ?_)
  go_simp
  refine (kY _ B2).mono ?_
  rintro e w3 ⟨v, rfl, ob, bb3⟩
  obtain ⟨h2, s2, t2, u2, rfl⟩ := ob.cell
  have ap_X_ob : Apart (blkW (.agg #[.bool h2, .slice s2 t2 u2])) [w.heap.size] := apart_one fun q hq => by have h1 := (ownsW.ltb ob q hq).1; have h2 := X2.hi; omega
  have ap_R_ob : Apart (blkW (.agg #[.bool h2, .slice s2 t2 u2])) [w.heap.size + 1] := apart_one fun q hq => by have h1 := (ownsW.ltb ob q hq).1; have h2 := R2.hi; omega
  have ap_oa_ob : Apart (blkW (.agg #[.bool h1, .slice s1 t1 u1])) (blkW (.agg #[.bool h2, .slice s2 t2 u2])) := apart_of (fun k hk => (ownsW.ltb oa2 k hk).2) (fun k hk => (ownsW.ltb ob k hk).1)
  replace ob := ownsW_mono ob B2.size
  have B3 := B2.trans (bb3.mono B2.size)
  have X3 := X2.below bb3 (Nat.le_refl _)
  have R3 := R2.below bb3 (Nat.le_refl _)
  have oa3 := ownsW.below oa2 bb3 (Nat.le_refl _)
  clear B2 X2 R2 oa2 bb3 hH
  have ob3 := ob
  clear ob
  have hH : (fun W : World => W.cell? ⟨w.heap.size, 0, none⟩ = some (.bool gx) ∧ W.cell? ⟨w.heap.size, 1, none⟩ = some (.slice ax nx cx) ∧ W.cell? ⟨w.heap.size, 2, none⟩ = some (.bool gy) ∧ W.cell? ⟨w.heap.size, 3, none⟩ = some (.slice ay ny cy) ∧ W.cell? ⟨w.heap.size, 4, none⟩ = some (.int .i64 kk)) w3 := ⟨X3.c 0 _ rfl, X3.c 1 _ rfl, X3.c 2 _ rfl, X3.c 3 _ rfl, X3.c 4 _ rfl⟩
  refine hK _ _ hH ?_
  clear hK
  refine takeH 8 (some 11) (.agg #[.bool h1, .slice s1 t1 u1, .bool h2, .slice s2 t2 u2, .int .i64 kk]) rfl rfl (by kernel_rfl) (by kernel_rfl) (by kernel_rfl) (fun _ _ _ h => h) (Or.inl ⟨rfl, fun W hW => by go_simp⟩) hH ?_
  simp only [Act.put, List.setIfInBounds_toArray, List.set_cons_zero, List.set_cons_succ]
  have c_R_0 := R3.c 0 _ rfl
  have f_R_0 := R3.f 0 _ rfl
  have c_R_1 := R3.c 1 _ rfl
  have f_R_1 := R3.f 1 _ rfl
  have c_R_2 := R3.c 2 _ rfl
  have f_R_2 := R3.f 2 _ rfl
  have c_R_3 := R3.c 3 _ rfl
  have f_R_3 := R3.f 3 _ rfl
  have c_R_4 := R3.c 4 _ rfl
  have f_R_4 := R3.f 4 _ rfl
  refine oneH 9 rfl (by kernel_rfl) (fun K' hK => ?_)
  go_simp
  obtain ⟨w4, hw4⟩ : ∃ v, v = ((((w3.setCell ⟨w.heap.size + 1, 0, none⟩ (.bool h1)).setCell ⟨w.heap.size + 1, 1, none⟩ (.slice s1 t1 u1)).setCell ⟨w.heap.size + 1, 2, none⟩ (.bool h2)).setCell ⟨w.heap.size + 1, 3, none⟩ (.slice s2 t2 u2)).setCell ⟨w.heap.size + 1, 4, none⟩ (.int .i64 kk) := ⟨_, rfl⟩
  have tn4 : Tn [w.heap.size + 1] w3 w4 := by rw [hw4]; exact (((((tnL w3 (w.heap.size + 1) 0 (.bool h1)).trans (tnL _ (w.heap.size + 1) 1 (.slice s1 t1 u1))).trans (tnL _ (w.heap.size + 1) 2 (.bool h2))).trans (tnL _ (w.heap.size + 1) 3 (.slice s2 t2 u2))).trans (tnL _ (w.heap.size + 1) 4 (.int .i64 kk)))
  have R4 : BoxL w4 w.heap.size (w.heap.size + 1) [.bool h1, .slice s1 t1 u1, .bool h2, .slice s2 t2 u2, .int .i64 kk] := by rw [hw4]; exact (((((R3.set 0 (.bool h1) (by simp)).set 1 (.slice s1 t1 u1) (by simp)).set 2 (.bool h2) (by simp)).set 3 (.slice s2 t2 u2) (by simp)).set 4 (.int .i64 kk) (by simp))
  have blo4 := R3.lo
  rw [← hw4]
  clear hw4
  have B4 := tn4.below B3 B3.size (fun q hq => by simp at hq; omega)
  have X4 := X3.tn tn4 (not_one (by omega))
  have oa4 := ownsW.tn oa3 tn4 ap_R_oa
  have ob4 := ownsW.tn ob3 tn4 ap_R_ob
  clear B3 X3 R3 oa3 ob3 tn4 blo4
  clear c_R_0 f_R_0 c_R_1 f_R_1 c_R_2 f_R_2 c_R_3 f_R_3 c_R_4 f_R_4
  clear hH
  have hH : (fun W : World => W.cell? ⟨w.heap.size, 0, none⟩ = some (.bool gx) ∧ W.cell? ⟨w.heap.size, 1, none⟩ = some (.slice ax nx cx) ∧ W.cell? ⟨w.heap.size, 2, none⟩ = some (.bool gy) ∧ W.cell? ⟨w.heap.size, 3, none⟩ = some (.slice ay ny cy) ∧ W.cell? ⟨w.heap.size, 4, none⟩ = some (.int .i64 kk)) w4 := ⟨X4.c 0 _ rfl, X4.c 1 _ rfl, X4.c 2 _ rfl, X4.c 3 _ rfl, X4.c 4 _ rfl⟩
  refine hK _ _ hH ?_
  clear hK
  clear hH
  refine wpAnyH_done (by kernel_rfl) ?_ _
  clear kX kY
  have c_R_0 := R4.c 0 _ rfl
  have c_R_1 := R4.c 1 _ rfl
  have c_R_2 := R4.c 2 _ rfl
  have c_R_3 := R4.c 3 _ rfl
  have c_R_4 := R4.c 4 _ rfl
  go_wp2
  (try simp only [Exit.inBlock, Exit.then])
  refine bodyPost_ret (v := .agg #[.bool h1, .slice s1 t1 u1, .bool h2, .slice s2 t2 u2, .int .i64 kk]) ?_ rfl ⟨_, rfl, ownsP.mk oa4 ob4 ap_oa_ob, B4⟩
  rw [results_cell1 rfl]
  go_simp

end Go.Proofs.Ytlpfjpbnedankaa
