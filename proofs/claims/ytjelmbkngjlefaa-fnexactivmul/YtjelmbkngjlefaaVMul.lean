/- The specification's l11Mul, by its contract. -/
import Derived.Test.YtjelmbkngjlefaaLeastB
import Derived.Test.YtjelmbkngjlefaaWB
import Derived.Test.YtjelmbkngjlefaaMoveS
import Derived.Test.YtjelmbkngjlefaaVB
namespace Go.Proofs.Ytjelmbkngjlefaa
open Go.RowKit
set_option linter.unusedSimpArgs false
set_option linter.unusedVariables false

set_option maxRecDepth 20000 in
set_option maxHeartbeats 6400000 in
theorem sVMul (gx1 gy1 : Bool) (ax1 ay1 : Option Addr) (nx1 cx1 ny1 cy1 : Nat) (gx2 gy2 : Bool) (ax2 ay2 : Option Addr) (nx2 cx2 ny2 cy2 : Nat) (x1 y1 x2 y2 : Int) (k : Nat) (w : World) (ra : rowV w (.agg #[.bool gx1, .slice ax1 nx1 cx1, .bool gy1, .slice ay1 ny1 cy1]) (mkW x1, mkW y1)) (rb : rowV w (.agg #[.bool gx2, .slice ax2 nx2 cx2, .bool gy2, .slice ay2 ny2 cy2]) (mkW x2, mkW y2)) (m1 : (limbs x1.natAbs).length ≤ 98) (m2 : (limbs y1.natAbs).length ≤ 98) (m3 : (limbs x2.natAbs).length ≤ 98) (m4 : (limbs y2.natAbs).length ≤ 98) (hk : k ≤ 600) :
    Calls Try.prog 18 #[.agg #[.bool gx1, .slice ax1 nx1 cx1, .bool gy1, .slice ay1 ny1 cy1], .agg #[.bool gx2, .slice ax2 nx2 cx2, .bool gy2, .slice ay2 ny2 cy2], .int .i64 k] w fun e w' => ∃ v, e = .returned v ∧ ownsV w' w.heap.size v (mkW (prLo x1 y1 x2 y2 / 2 ^ k), mkW (-(-prHi x1 y1 x2 y2 / 2 ^ k))) ∧ Below w.heap.size w w' := by
  have ra1 := ra.lo
  have ra2 := ra.hi
  have rb1 := rb.lo
  have rb2 := rb.hi
  clear ra rb
  have kM0 := fun W (h : Below w.heap.size w W) => sWMul _ _ x1 x2 W (ra1.below h (Nat.le_refl _)) (rb1.below h (Nat.le_refl _)) (by omega) (by omega)
  have l0 := limbs_mulI x1 x2 98 98 m1 m3
  have kM1 := fun W (h : Below w.heap.size w W) => sWMul _ _ x1 y2 W (ra1.below h (Nat.le_refl _)) (rb2.below h (Nat.le_refl _)) (by omega) (by omega)
  have l1 := limbs_mulI x1 y2 98 98 m1 m4
  have kM2 := fun W (h : Below w.heap.size w W) => sWMul _ _ y1 x2 W (ra2.below h (Nat.le_refl _)) (rb1.below h (Nat.le_refl _)) (by omega) (by omega)
  have l2 := limbs_mulI y1 x2 98 98 m2 m3
  have kM3 := fun W (h : Below w.heap.size w W) => sWMul _ _ y1 y2 W (ra2.below h (Nat.le_refl _)) (rb2.below h (Nat.le_refl _)) (by omega) (by omega)
  have l3 := limbs_mulI y1 y2 98 98 m2 m4
  have p1 := prLo_or x1 y1 x2 y2
  have p2 := prHi_or x1 y1 x2 y2
  unfold prLo prHi at *
  clear m1 m2 m3 m4 ra1 ra2 rb1 rb2
  generalize x1 * x2 = d0 at *
  generalize x1 * y2 = d1 at *
  generalize y1 * x2 = d2 at *
  generalize y1 * y2 = d3 at *
  have l5 : (limbs (lesserI (lesserI (lesserI d0 d1) d2) d3).natAbs).length ≤ 1000 := lesser_len (lesser_len (lesser_len (by omega) (by omega)) (by omega)) (by omega)
  have l6 : (limbs (moreI (moreI (moreI d0 d1) d2) d3).natAbs).length ≤ 1000 := more_len (more_len (more_len (by omega) (by omega)) (by omega)) (by omega)
  clear p1 p2
  have kF := fun v W h => sWFloor v (lesserI (lesserI (lesserI d0 d1) d2) d3) k W h (by omega) (by omega)
  have kG := fun v W h => sWCeil v (moreI (moreI (moreI d0 d1) d2) d3) k W h (by omega) (by omega)
  have B0_0 : Below w.heap.size w w := Below.refl _ _
  obtain ⟨ww1, hww1⟩ : ∃ v, v = w.alloc (.cells #[.bool gx1, .slice ax1 nx1 cx1, .bool gy1, .slice ay1 ny1 cy1] 30) := ⟨_, rfl⟩
  have sz1 : ww1.heap.size = w.heap.size + 1 := by rw [hww1]; simp
  have bw1 : Below w.heap.size w ww1 := by rw [hww1]; exact below1 _ _
  have B0_1 := B0_0.trans (bw1.mono B0_0.size)
  have X0_1 : BoxL ww1 w.heap.size w.heap.size [.bool gx1, .slice ax1 nx1 cx1, .bool gy1, .slice ay1 ny1 cy1] := by rw [hww1]; have h := BoxL.made w [.bool gx1, .slice ax1 nx1 cx1, .bool gy1, .slice ay1 ny1 cy1] 30; exact h
  obtain ⟨ww2, hww2⟩ : ∃ v, v = ww1.alloc (.cells #[.bool gx2, .slice ax2 nx2 cx2, .bool gy2, .slice ay2 ny2 cy2] 30) := ⟨_, rfl⟩
  have sz2 : ww2.heap.size = w.heap.size + 1 + 1 := by rw [hww2]; simp [sz1]
  have bw2 : Below ww1.heap.size ww1 ww2 := by rw [hww2]; exact below1 _ _
  have B0_2 := B0_1.trans (bw2.mono B0_1.size)
  have X0_2 := X0_1.below bw2 (Nat.le_refl _)
  have Y0_2 : BoxL ww2 (w.heap.size + 1) (w.heap.size + 1) [.bool gx2, .slice ax2 nx2 cx2, .bool gy2, .slice ay2 ny2 cy2] := by rw [hww2]; have h := BoxL.made ww1 [.bool gx2, .slice ax2 nx2 cx2, .bool gy2, .slice ay2 ny2 cy2] 30; rw [sz1] at h; exact h
  obtain ⟨ww3, hww3⟩ : ∃ v, v = ww2.alloc (.cells #[.bool false, .slice none 0 0, .bool false, .slice none 0 0] 30) := ⟨_, rfl⟩
  have sz3 : ww3.heap.size = w.heap.size + 1 + 1 + 1 := by rw [hww3]; simp [sz2]
  have bw3 : Below ww2.heap.size ww2 ww3 := by rw [hww3]; exact below1 _ _
  have B0_3 := B0_2.trans (bw3.mono B0_2.size)
  have X0_3 := X0_2.below bw3 (Nat.le_refl _)
  have Y0_3 := Y0_2.below bw3 (Nat.le_refl _)
  have R0_3 : BoxL ww3 (w.heap.size + 1 + 1) (w.heap.size + 1 + 1) [.bool false, .slice none 0 0, .bool false, .slice none 0 0] := by rw [hww3]; have h := BoxL.made ww2 [.bool false, .slice none 0 0, .bool false, .slice none 0 0] 30; rw [sz2] at h; exact h
  have X0 := X0_3
  have Y0 := Y0_3.mono (by omega : w.heap.size ≤ w.heap.size + 1)
  have R0 := R0_3.mono (by omega : w.heap.size ≤ w.heap.size + 1 + 1)
  have B0 := B0_3
  clear B0_0 B0_1 B0_2 B0_3 bw1 bw2 bw3 X0_1 X0_2 X0_3 Y0_2 Y0_3 R0_3
  go_enter Try.func18, Try.ntmps18
  go_wp2_with fail
  have hvv : ((w.alloc (.cells #[.bool gx1, .slice ax1 nx1 cx1, .bool gy1, .slice ay1 ny1 cy1] 30)).alloc (.cells #[.bool gx2, .slice ax2 nx2 cx2, .bool gy2, .slice ay2 ny2 cy2] 30)).alloc (.cells #[.bool false, .slice none 0 0, .bool false, .slice none 0 0] 30) = ww3 := by rw [hww3]; rw [hww2]; rw [hww1]
  rw [hvv]
  clear hvv hww1 hww2 hww3 sz1 sz2
  clear ww1 ww2
  have hz0 : w.heap.size + 3 ≤ ww3.heap.size := by omega
  clear sz3
  obtain ⟨w1, hw1⟩ : ∃ v, Hid (v = ww3.drew) := ⟨_, rfl⟩
  have bd : Below ww3.heap.size ww3 w1 := by rw [hw1.out]; exact (Below.refl ww3.heap.size ww3).drew
  have B1 := B0.trans (bd.mono B0.size)
  have X1 := X0.below bd (Nat.le_refl _)
  have Y1 := Y0.below bd (Nat.le_refl _)
  have R1 := R0.below bd (Nat.le_refl _)
  clear B0 X0 Y0 R0 bd
  have hH : (fun W : World => W.cell? ⟨w.heap.size, 0, none⟩ = some (.bool gx1) ∧ W.cell? ⟨w.heap.size, 1, none⟩ = some (.slice ax1 nx1 cx1) ∧ W.cell? ⟨w.heap.size, 2, none⟩ = some (.bool gy1) ∧ W.cell? ⟨w.heap.size, 3, none⟩ = some (.slice ay1 ny1 cy1) ∧ W.cell? ⟨w.heap.size + 1, 0, none⟩ = some (.bool gx2) ∧ W.cell? ⟨w.heap.size + 1, 1, none⟩ = some (.slice ax2 nx2 cx2) ∧ W.cell? ⟨w.heap.size + 1, 2, none⟩ = some (.bool gy2) ∧ W.cell? ⟨w.heap.size + 1, 3, none⟩ = some (.slice ay2 ny2 cy2)) w1 := ⟨X1.c 0 _ rfl, X1.c 1 _ rfl, X1.c 2 _ rfl, X1.c 3 _ rfl, Y1.c 0 _ rfl, Y1.c 1 _ rfl, Y1.c 2 _ rfl, Y1.c 3 _ rfl⟩
  refine wp_region_held_drew (S := fun W => W.cell? ⟨w.heap.size, 0, none⟩ = some (.bool gx1) ∧ W.cell? ⟨w.heap.size, 1, none⟩ = some (.slice ax1 nx1 cx1) ∧ W.cell? ⟨w.heap.size, 2, none⟩ = some (.bool gy1) ∧ W.cell? ⟨w.heap.size, 3, none⟩ = some (.slice ay1 ny1 cy1) ∧ W.cell? ⟨w.heap.size + 1, 0, none⟩ = some (.bool gx2) ∧ W.cell? ⟨w.heap.size + 1, 1, none⟩ = some (.slice ax2 nx2 cx2) ∧ W.cell? ⟨w.heap.size + 1, 2, none⟩ = some (.bool gy2) ∧ W.cell? ⟨w.heap.size + 1, 3, none⟩ = some (.slice ay2 ny2 cy2)) (by kernel_rfl) (by rw [← hw1.out]; exact hH) ?_
  intro _
  rw [← hw1.out]
  clear hw1
  refine takeH 0 (some 8) (.pointer (some ⟨w.heap.size, 0, none⟩)) rfl rfl (by kernel_rfl) (by kernel_rfl) (by kernel_rfl) (fun _ _ _ h => h) (Or.inl ⟨rfl, fun W hW => by go_simp⟩) hH ?_
  simp only [Act.put, List.setIfInBounds_toArray, List.set_cons_zero, List.set_cons_succ]
  refine takeH 1 (some 9) (.agg #[.bool gx1, .slice ax1 nx1 cx1]) rfl rfl (by kernel_rfl) (by kernel_rfl) (by kernel_rfl) (fun _ _ _ h => h) (Or.inl ⟨rfl, fun W hW => by obtain ⟨l0, l1, l2, l3, l4, l5, l6, l7⟩ := hW; go_simp⟩) hH ?_
  simp only [Act.put, List.setIfInBounds_toArray, List.set_cons_zero, List.set_cons_succ]
  refine takeH 2 (some 10) (.pointer (some ⟨w.heap.size + 1, 0, none⟩)) rfl rfl (by kernel_rfl) (by kernel_rfl) (by kernel_rfl) (fun _ _ _ h => h) (Or.inl ⟨rfl, fun W hW => by go_simp⟩) hH ?_
  simp only [Act.put, List.setIfInBounds_toArray, List.set_cons_zero, List.set_cons_succ]
  refine takeH 3 (some 11) (.agg #[.bool gx2, .slice ax2 nx2 cx2]) rfl rfl (by kernel_rfl) (by kernel_rfl) (by kernel_rfl) (fun _ _ _ h => h) (Or.inl ⟨rfl, fun W hW => by obtain ⟨l0, l1, l2, l3, l4, l5, l6, l7⟩ := hW; go_simp⟩) hH ?_
  simp only [Act.put, List.setIfInBounds_toArray, List.set_cons_zero, List.set_cons_succ]
  refine takeH 5 (some 13) (.pointer (some ⟨w.heap.size, 0, none⟩)) rfl rfl (by kernel_rfl) (by kernel_rfl) (by kernel_rfl) (fun _ _ _ h => h) (Or.inl ⟨rfl, fun W hW => by go_simp⟩) hH ?_
  simp only [Act.put, List.setIfInBounds_toArray, List.set_cons_zero, List.set_cons_succ]
  refine takeH 6 (some 14) (.agg #[.bool gx1, .slice ax1 nx1 cx1]) rfl rfl (by kernel_rfl) (by kernel_rfl) (by kernel_rfl) (fun _ _ _ h => h) (Or.inl ⟨rfl, fun W hW => by obtain ⟨l0, l1, l2, l3, l4, l5, l6, l7⟩ := hW; go_simp⟩) hH ?_
  simp only [Act.put, List.setIfInBounds_toArray, List.set_cons_zero, List.set_cons_succ]
  refine takeH 7 (some 15) (.pointer (some ⟨w.heap.size + 1, 2, none⟩)) rfl rfl (by kernel_rfl) (by kernel_rfl) (by kernel_rfl) (fun _ _ _ h => h) (Or.inl ⟨rfl, fun W hW => by go_simp⟩) hH ?_
  simp only [Act.put, List.setIfInBounds_toArray, List.set_cons_zero, List.set_cons_succ]
  refine takeH 8 (some 16) (.agg #[.bool gy2, .slice ay2 ny2 cy2]) rfl rfl (by kernel_rfl) (by kernel_rfl) (by kernel_rfl) (fun _ _ _ h => h) (Or.inl ⟨rfl, fun W hW => by obtain ⟨l0, l1, l2, l3, l4, l5, l6, l7⟩ := hW; go_simp⟩) hH ?_
  simp only [Act.put, List.setIfInBounds_toArray, List.set_cons_zero, List.set_cons_succ]
  refine takeH 10 (some 18) (.pointer (some ⟨w.heap.size, 2, none⟩)) rfl rfl (by kernel_rfl) (by kernel_rfl) (by kernel_rfl) (fun _ _ _ h => h) (Or.inl ⟨rfl, fun W hW => by go_simp⟩) hH ?_
  simp only [Act.put, List.setIfInBounds_toArray, List.set_cons_zero, List.set_cons_succ]
  refine takeH 11 (some 19) (.agg #[.bool gy1, .slice ay1 ny1 cy1]) rfl rfl (by kernel_rfl) (by kernel_rfl) (by kernel_rfl) (fun _ _ _ h => h) (Or.inl ⟨rfl, fun W hW => by obtain ⟨l0, l1, l2, l3, l4, l5, l6, l7⟩ := hW; go_simp⟩) hH ?_
  simp only [Act.put, List.setIfInBounds_toArray, List.set_cons_zero, List.set_cons_succ]
  refine takeH 12 (some 20) (.pointer (some ⟨w.heap.size + 1, 0, none⟩)) rfl rfl (by kernel_rfl) (by kernel_rfl) (by kernel_rfl) (fun _ _ _ h => h) (Or.inl ⟨rfl, fun W hW => by go_simp⟩) hH ?_
  simp only [Act.put, List.setIfInBounds_toArray, List.set_cons_zero, List.set_cons_succ]
  refine takeH 13 (some 21) (.agg #[.bool gx2, .slice ax2 nx2 cx2]) rfl rfl (by kernel_rfl) (by kernel_rfl) (by kernel_rfl) (fun _ _ _ h => h) (Or.inl ⟨rfl, fun W hW => by obtain ⟨l0, l1, l2, l3, l4, l5, l6, l7⟩ := hW; go_simp⟩) hH ?_
  simp only [Act.put, List.setIfInBounds_toArray, List.set_cons_zero, List.set_cons_succ]
  refine takeH 15 (some 23) (.pointer (some ⟨w.heap.size, 2, none⟩)) rfl rfl (by kernel_rfl) (by kernel_rfl) (by kernel_rfl) (fun _ _ _ h => h) (Or.inl ⟨rfl, fun W hW => by go_simp⟩) hH ?_
  simp only [Act.put, List.setIfInBounds_toArray, List.set_cons_zero, List.set_cons_succ]
  refine takeH 16 (some 24) (.agg #[.bool gy1, .slice ay1 ny1 cy1]) rfl rfl (by kernel_rfl) (by kernel_rfl) (by kernel_rfl) (fun _ _ _ h => h) (Or.inl ⟨rfl, fun W hW => by obtain ⟨l0, l1, l2, l3, l4, l5, l6, l7⟩ := hW; go_simp⟩) hH ?_
  simp only [Act.put, List.setIfInBounds_toArray, List.set_cons_zero, List.set_cons_succ]
  refine takeH 17 (some 25) (.pointer (some ⟨w.heap.size + 1, 2, none⟩)) rfl rfl (by kernel_rfl) (by kernel_rfl) (by kernel_rfl) (fun _ _ _ h => h) (Or.inl ⟨rfl, fun W hW => by go_simp⟩) hH ?_
  simp only [Act.put, List.setIfInBounds_toArray, List.set_cons_zero, List.set_cons_succ]
  refine takeH 18 (some 26) (.agg #[.bool gy2, .slice ay2 ny2 cy2]) rfl rfl (by kernel_rfl) (by kernel_rfl) (by kernel_rfl) (fun _ _ _ h => h) (Or.inl ⟨rfl, fun W hW => by obtain ⟨l0, l1, l2, l3, l4, l5, l6, l7⟩ := hW; go_simp⟩) hH ?_
  simp only [Act.put, List.setIfInBounds_toArray, List.set_cons_zero, List.set_cons_succ]
  refine oneH 4 rfl (by kernel_rfl) (fun K' hK => ?_)
  go_simp
  refine (kM0 _ B1).mono ?_
  rintro e w2 ⟨v, rfl, oa, bb2⟩
  obtain ⟨h0, s0, t0, u0, rfl⟩ := oa.cell
  have ap_X_oa : Apart (blkW (.agg #[.bool h0, .slice s0 t0 u0])) [w.heap.size] := apart_one fun q hq => by have h1 := (ownsW.ltb oa q hq).1; have h2 := X1.hi; omega
  have ap_Y_oa : Apart (blkW (.agg #[.bool h0, .slice s0 t0 u0])) [w.heap.size + 1] := apart_one fun q hq => by have h1 := (ownsW.ltb oa q hq).1; have h2 := Y1.hi; omega
  have ap_R_oa : Apart (blkW (.agg #[.bool h0, .slice s0 t0 u0])) [w.heap.size + 1 + 1] := apart_one fun q hq => by have h1 := (ownsW.ltb oa q hq).1; have h2 := R1.hi; omega
  replace oa := ownsW_mono oa B1.size
  have B2 := B1.trans (bb2.mono B1.size)
  have X2 := X1.below bb2 (Nat.le_refl _)
  have Y2 := Y1.below bb2 (Nat.le_refl _)
  have R2 := R1.below bb2 (Nat.le_refl _)
  clear B1 X1 Y1 R1 bb2 hH
  have oa2 := oa
  clear oa
  have hH : (fun W : World => W.cell? ⟨w.heap.size, 0, none⟩ = some (.bool gx1) ∧ W.cell? ⟨w.heap.size, 1, none⟩ = some (.slice ax1 nx1 cx1) ∧ W.cell? ⟨w.heap.size, 2, none⟩ = some (.bool gy1) ∧ W.cell? ⟨w.heap.size, 3, none⟩ = some (.slice ay1 ny1 cy1) ∧ W.cell? ⟨w.heap.size + 1, 0, none⟩ = some (.bool gx2) ∧ W.cell? ⟨w.heap.size + 1, 1, none⟩ = some (.slice ax2 nx2 cx2) ∧ W.cell? ⟨w.heap.size + 1, 2, none⟩ = some (.bool gy2) ∧ W.cell? ⟨w.heap.size + 1, 3, none⟩ = some (.slice ay2 ny2 cy2)) w2 := ⟨X2.c 0 _ rfl, X2.c 1 _ rfl, X2.c 2 _ rfl, X2.c 3 _ rfl, Y2.c 0 _ rfl, Y2.c 1 _ rfl, Y2.c 2 _ rfl, Y2.c 3 _ rfl⟩
  refine hK _ _ hH ?_
  clear hK
  refine oneH 9 rfl (by kernel_rfl) (fun K' hK => ?_)
  go_simp
  refine (kM1 _ B2).mono ?_
  rintro e w3 ⟨v, rfl, ob, bb3⟩
  obtain ⟨h1, s1, t1, u1, rfl⟩ := ob.cell
  have ap_X_ob : Apart (blkW (.agg #[.bool h1, .slice s1 t1 u1])) [w.heap.size] := apart_one fun q hq => by have h1 := (ownsW.ltb ob q hq).1; have h2 := X2.hi; omega
  have ap_Y_ob : Apart (blkW (.agg #[.bool h1, .slice s1 t1 u1])) [w.heap.size + 1] := apart_one fun q hq => by have h1 := (ownsW.ltb ob q hq).1; have h2 := Y2.hi; omega
  have ap_R_ob : Apart (blkW (.agg #[.bool h1, .slice s1 t1 u1])) [w.heap.size + 1 + 1] := apart_one fun q hq => by have h1 := (ownsW.ltb ob q hq).1; have h2 := R2.hi; omega
  have ap_oa_ob : Apart (blkW (.agg #[.bool h0, .slice s0 t0 u0])) (blkW (.agg #[.bool h1, .slice s1 t1 u1])) := apart_of (fun k hk => (ownsW.ltb oa2 k hk).2) (fun k hk => (ownsW.ltb ob k hk).1)
  replace ob := ownsW_mono ob B2.size
  have B3 := B2.trans (bb3.mono B2.size)
  have X3 := X2.below bb3 (Nat.le_refl _)
  have Y3 := Y2.below bb3 (Nat.le_refl _)
  have R3 := R2.below bb3 (Nat.le_refl _)
  have oa3 := ownsW.below oa2 bb3 (Nat.le_refl _)
  clear B2 X2 Y2 R2 oa2 bb3 hH
  have ob3 := ob
  clear ob
  have hH : (fun W : World => W.cell? ⟨w.heap.size, 0, none⟩ = some (.bool gx1) ∧ W.cell? ⟨w.heap.size, 1, none⟩ = some (.slice ax1 nx1 cx1) ∧ W.cell? ⟨w.heap.size, 2, none⟩ = some (.bool gy1) ∧ W.cell? ⟨w.heap.size, 3, none⟩ = some (.slice ay1 ny1 cy1) ∧ W.cell? ⟨w.heap.size + 1, 0, none⟩ = some (.bool gx2) ∧ W.cell? ⟨w.heap.size + 1, 1, none⟩ = some (.slice ax2 nx2 cx2) ∧ W.cell? ⟨w.heap.size + 1, 2, none⟩ = some (.bool gy2) ∧ W.cell? ⟨w.heap.size + 1, 3, none⟩ = some (.slice ay2 ny2 cy2)) w3 := ⟨X3.c 0 _ rfl, X3.c 1 _ rfl, X3.c 2 _ rfl, X3.c 3 _ rfl, Y3.c 0 _ rfl, Y3.c 1 _ rfl, Y3.c 2 _ rfl, Y3.c 3 _ rfl⟩
  refine hK _ _ hH ?_
  clear hK
  refine oneH 14 rfl (by kernel_rfl) (fun K' hK => ?_)
  go_simp
  refine (kM2 _ B3).mono ?_
  rintro e w4 ⟨v, rfl, oc, bb4⟩
  obtain ⟨h2, s2, t2, u2, rfl⟩ := oc.cell
  have ap_X_oc : Apart (blkW (.agg #[.bool h2, .slice s2 t2 u2])) [w.heap.size] := apart_one fun q hq => by have h1 := (ownsW.ltb oc q hq).1; have h2 := X3.hi; omega
  have ap_Y_oc : Apart (blkW (.agg #[.bool h2, .slice s2 t2 u2])) [w.heap.size + 1] := apart_one fun q hq => by have h1 := (ownsW.ltb oc q hq).1; have h2 := Y3.hi; omega
  have ap_R_oc : Apart (blkW (.agg #[.bool h2, .slice s2 t2 u2])) [w.heap.size + 1 + 1] := apart_one fun q hq => by have h1 := (ownsW.ltb oc q hq).1; have h2 := R3.hi; omega
  have ap_oa_oc : Apart (blkW (.agg #[.bool h0, .slice s0 t0 u0])) (blkW (.agg #[.bool h2, .slice s2 t2 u2])) := apart_of (fun k hk => (ownsW.ltb oa3 k hk).2) (fun k hk => (ownsW.ltb oc k hk).1)
  have ap_ob_oc : Apart (blkW (.agg #[.bool h1, .slice s1 t1 u1])) (blkW (.agg #[.bool h2, .slice s2 t2 u2])) := apart_of (fun k hk => (ownsW.ltb ob3 k hk).2) (fun k hk => (ownsW.ltb oc k hk).1)
  replace oc := ownsW_mono oc B3.size
  have B4 := B3.trans (bb4.mono B3.size)
  have X4 := X3.below bb4 (Nat.le_refl _)
  have Y4 := Y3.below bb4 (Nat.le_refl _)
  have R4 := R3.below bb4 (Nat.le_refl _)
  have oa4 := ownsW.below oa3 bb4 (Nat.le_refl _)
  have ob4 := ownsW.below ob3 bb4 (Nat.le_refl _)
  clear B3 X3 Y3 R3 oa3 ob3 bb4 hH
  have oc4 := oc
  clear oc
  have hH : (fun W : World => W.cell? ⟨w.heap.size, 0, none⟩ = some (.bool gx1) ∧ W.cell? ⟨w.heap.size, 1, none⟩ = some (.slice ax1 nx1 cx1) ∧ W.cell? ⟨w.heap.size, 2, none⟩ = some (.bool gy1) ∧ W.cell? ⟨w.heap.size, 3, none⟩ = some (.slice ay1 ny1 cy1) ∧ W.cell? ⟨w.heap.size + 1, 0, none⟩ = some (.bool gx2) ∧ W.cell? ⟨w.heap.size + 1, 1, none⟩ = some (.slice ax2 nx2 cx2) ∧ W.cell? ⟨w.heap.size + 1, 2, none⟩ = some (.bool gy2) ∧ W.cell? ⟨w.heap.size + 1, 3, none⟩ = some (.slice ay2 ny2 cy2)) w4 := ⟨X4.c 0 _ rfl, X4.c 1 _ rfl, X4.c 2 _ rfl, X4.c 3 _ rfl, Y4.c 0 _ rfl, Y4.c 1 _ rfl, Y4.c 2 _ rfl, Y4.c 3 _ rfl⟩
  refine hK _ _ hH ?_
  clear hK
  refine oneH 19 rfl (by kernel_rfl) (fun K' hK => ?_)
  go_simp
  refine (kM3 _ B4).mono ?_
  rintro e w5 ⟨v, rfl, od, bb5⟩
  obtain ⟨h3, s3, t3, u3, rfl⟩ := od.cell
  have ap_X_od : Apart (blkW (.agg #[.bool h3, .slice s3 t3 u3])) [w.heap.size] := apart_one fun q hq => by have h1 := (ownsW.ltb od q hq).1; have h2 := X4.hi; omega
  have ap_Y_od : Apart (blkW (.agg #[.bool h3, .slice s3 t3 u3])) [w.heap.size + 1] := apart_one fun q hq => by have h1 := (ownsW.ltb od q hq).1; have h2 := Y4.hi; omega
  have ap_R_od : Apart (blkW (.agg #[.bool h3, .slice s3 t3 u3])) [w.heap.size + 1 + 1] := apart_one fun q hq => by have h1 := (ownsW.ltb od q hq).1; have h2 := R4.hi; omega
  have ap_oa_od : Apart (blkW (.agg #[.bool h0, .slice s0 t0 u0])) (blkW (.agg #[.bool h3, .slice s3 t3 u3])) := apart_of (fun k hk => (ownsW.ltb oa4 k hk).2) (fun k hk => (ownsW.ltb od k hk).1)
  have ap_ob_od : Apart (blkW (.agg #[.bool h1, .slice s1 t1 u1])) (blkW (.agg #[.bool h3, .slice s3 t3 u3])) := apart_of (fun k hk => (ownsW.ltb ob4 k hk).2) (fun k hk => (ownsW.ltb od k hk).1)
  have ap_oc_od : Apart (blkW (.agg #[.bool h2, .slice s2 t2 u2])) (blkW (.agg #[.bool h3, .slice s3 t3 u3])) := apart_of (fun k hk => (ownsW.ltb oc4 k hk).2) (fun k hk => (ownsW.ltb od k hk).1)
  replace od := ownsW_mono od B4.size
  have B5 := B4.trans (bb5.mono B4.size)
  have X5 := X4.below bb5 (Nat.le_refl _)
  have Y5 := Y4.below bb5 (Nat.le_refl _)
  have R5 := R4.below bb5 (Nat.le_refl _)
  have oa5 := ownsW.below oa4 bb5 (Nat.le_refl _)
  have ob5 := ownsW.below ob4 bb5 (Nat.le_refl _)
  have oc5 := ownsW.below oc4 bb5 (Nat.le_refl _)
  clear B4 X4 Y4 R4 oa4 ob4 oc4 bb5 hH
  have od5 := od
  clear od
  have hH : (fun W : World => W.cell? ⟨w.heap.size, 0, none⟩ = some (.bool gx1) ∧ W.cell? ⟨w.heap.size, 1, none⟩ = some (.slice ax1 nx1 cx1) ∧ W.cell? ⟨w.heap.size, 2, none⟩ = some (.bool gy1) ∧ W.cell? ⟨w.heap.size, 3, none⟩ = some (.slice ay1 ny1 cy1) ∧ W.cell? ⟨w.heap.size + 1, 0, none⟩ = some (.bool gx2) ∧ W.cell? ⟨w.heap.size + 1, 1, none⟩ = some (.slice ax2 nx2 cx2) ∧ W.cell? ⟨w.heap.size + 1, 2, none⟩ = some (.bool gy2) ∧ W.cell? ⟨w.heap.size + 1, 3, none⟩ = some (.slice ay2 ny2 cy2)) w5 := ⟨X5.c 0 _ rfl, X5.c 1 _ rfl, X5.c 2 _ rfl, X5.c 3 _ rfl, Y5.c 0 _ rfl, Y5.c 1 _ rfl, Y5.c 2 _ rfl, Y5.c 3 _ rfl⟩
  refine hK _ _ hH ?_
  clear hK
  refine oneH 20 rfl (by kernel_rfl) (fun K' hK => ?_)
  go_simp
  clear hH
  obtain ⟨w6, hw6⟩ : ∃ v, v = w5.alloc (.cells #[.bool h0, .slice s0 t0 u0, .bool h1, .slice s1 t1 u1, .bool h2, .slice s2 t2 u2, .bool h3, .slice s3 t3 u3] 28) := ⟨_, rfl⟩
  have bb6 : Below w5.heap.size w5 w6 := by rw [hw6]; exact below1 _ _
  obtain ⟨q6, hq6⟩ : ∃ q, q = w5.heap.size := ⟨_, rfl⟩
  have T6 : BoxL w6 w.heap.size q6 [.bool h0, .slice s0 t0 u0, .bool h1, .slice s1 t1 u1, .bool h2, .slice s2 t2 u2, .bool h3, .slice s3 t3 u3] := by rw [hw6, hq6]; exact (BoxL.made w5 [.bool h0, .slice s0 t0 u0, .bool h1, .slice s1 t1 u1, .bool h2, .slice s2 t2 u2, .bool h3, .slice s3 t3 u3] 28).mono B5.size
  rw [← hw6]
  (try rw [← hq6])
  clear hw6
  have B6 := B5.trans (bb6.mono B5.size)
  have X6 := X5.below bb6 (Nat.le_refl _)
  have Y6 := Y5.below bb6 (Nat.le_refl _)
  have R6 := R5.below bb6 (Nat.le_refl _)
  have oa6 := ownsW.below oa5 bb6 (Nat.le_refl _)
  have ob6 := ownsW.below ob5 bb6 (Nat.le_refl _)
  have oc6 := ownsW.below oc5 bb6 (Nat.le_refl _)
  have od6 := ownsW.below od5 bb6 (Nat.le_refl _)
  have lt_X_T : w.heap.size < q6 := by rw [hq6]; exact X5.hi
  have lt_Y_T : w.heap.size + 1 < q6 := by rw [hq6]; exact Y5.hi
  have lt_R_T : w.heap.size + 1 + 1 < q6 := by rw [hq6]; exact R5.hi
  have ap_T_oa : Apart (blkW (.agg #[.bool h0, .slice s0 t0 u0])) [q6] := apart_one fun q hq => by have h1 := (ownsW.ltb oa5 q hq).2; omega
  have ap_T_ob : Apart (blkW (.agg #[.bool h1, .slice s1 t1 u1])) [q6] := apart_one fun q hq => by have h1 := (ownsW.ltb ob5 q hq).2; omega
  have ap_T_oc : Apart (blkW (.agg #[.bool h2, .slice s2 t2 u2])) [q6] := apart_one fun q hq => by have h1 := (ownsW.ltb oc5 q hq).2; omega
  have ap_T_od : Apart (blkW (.agg #[.bool h3, .slice s3 t3 u3])) [q6] := apart_one fun q hq => by have h1 := (ownsW.ltb od5 q hq).2; omega
  clear B5 X5 Y5 R5 oa5 ob5 oc5 od5 bb6 hq6
  have hH : (fun W : World => W.cell? ⟨w.heap.size, 0, none⟩ = some (.bool gx1) ∧ W.cell? ⟨w.heap.size, 1, none⟩ = some (.slice ax1 nx1 cx1) ∧ W.cell? ⟨w.heap.size, 2, none⟩ = some (.bool gy1) ∧ W.cell? ⟨w.heap.size, 3, none⟩ = some (.slice ay1 ny1 cy1) ∧ W.cell? ⟨w.heap.size + 1, 0, none⟩ = some (.bool gx2) ∧ W.cell? ⟨w.heap.size + 1, 1, none⟩ = some (.slice ax2 nx2 cx2) ∧ W.cell? ⟨w.heap.size + 1, 2, none⟩ = some (.bool gy2) ∧ W.cell? ⟨w.heap.size + 1, 3, none⟩ = some (.slice ay2 ny2 cy2)) w6 := ⟨X6.c 0 _ rfl, X6.c 1 _ rfl, X6.c 2 _ rfl, X6.c 3 _ rfl, Y6.c 0 _ rfl, Y6.c 1 _ rfl, Y6.c 2 _ rfl, Y6.c 3 _ rfl⟩
  refine hK _ _ hH ?_
  clear hK
  refine takeH 21 (some 7) (.slice (some ⟨q6, 0, none⟩) 4 4) rfl rfl (by kernel_rfl) (by kernel_rfl) (by kernel_rfl) (fun _ _ _ h => h) (Or.inl ⟨rfl, fun W hW => by go_simp⟩) hH ?_
  simp only [Act.put, List.setIfInBounds_toArray, List.set_cons_zero, List.set_cons_succ]
  clear hH
  refine wpAnyH_done (by kernel_rfl) ?_ _
  clear kM0 kM1 kM2 kM3
  clear X6 Y6
  go_wp2_with fail
  refine (least4 q6 _ _ _ _ _ _ _ _ _ _ _ _ _ _ _ _ d0 d1 d2 d3 _ (T6.mono (Nat.zero_le _)) oa6.row ob6.row oc6.row od6.row (by omega) (by omega) (by omega) (by omega)).mono ?_
  rintro e w7 ⟨v5, rfl, rl, bb7⟩
  replace rl := rowW.below rl bb7 (Nat.le_refl _)
  have B7 := B6.trans (bb7.mono B6.size)
  have R7 := R6.below bb7 (Nat.le_refl _)
  have oa7 := ownsW.below oa6 bb7 (Nat.le_refl _)
  have ob7 := ownsW.below ob6 bb7 (Nat.le_refl _)
  have oc7 := ownsW.below oc6 bb7 (Nat.le_refl _)
  have od7 := ownsW.below od6 bb7 (Nat.le_refl _)
  have T7 := T6.below bb7 (Nat.le_refl _)
  clear B6 R6 oa6 ob6 oc6 od6 T6 bb7
  have rl7 := rl
  clear rl
  go_wp2_with fail
  refine (kF _ _ rl7).mono ?_
  rintro e w8 ⟨v6, rfl, oe, bb8⟩
  have ap_R_oe : Apart (blkW v6) [w.heap.size + 1 + 1] := apart_one fun q hq => by have h1 := (ownsW.ltb oe q hq).1; have h2 := R7.hi; omega
  have ap_T_oe : Apart (blkW v6) [q6] := apart_one fun q hq => by have h1 := (ownsW.ltb oe q hq).1; have h2 := T7.hi; omega
  have ap_oa_oe : Apart (blkW (.agg #[.bool h0, .slice s0 t0 u0])) (blkW v6) := apart_of (fun k hk => (ownsW.ltb oa7 k hk).2) (fun k hk => (ownsW.ltb oe k hk).1)
  have ap_ob_oe : Apart (blkW (.agg #[.bool h1, .slice s1 t1 u1])) (blkW v6) := apart_of (fun k hk => (ownsW.ltb ob7 k hk).2) (fun k hk => (ownsW.ltb oe k hk).1)
  have ap_oc_oe : Apart (blkW (.agg #[.bool h2, .slice s2 t2 u2])) (blkW v6) := apart_of (fun k hk => (ownsW.ltb oc7 k hk).2) (fun k hk => (ownsW.ltb oe k hk).1)
  have ap_od_oe : Apart (blkW (.agg #[.bool h3, .slice s3 t3 u3])) (blkW v6) := apart_of (fun k hk => (ownsW.ltb od7 k hk).2) (fun k hk => (ownsW.ltb oe k hk).1)
  replace oe := ownsW_mono oe B7.size
  have B8 := B7.trans (bb8.mono B7.size)
  have R8 := R7.below bb8 (Nat.le_refl _)
  have oa8 := ownsW.below oa7 bb8 (Nat.le_refl _)
  have ob8 := ownsW.below ob7 bb8 (Nat.le_refl _)
  have oc8 := ownsW.below oc7 bb8 (Nat.le_refl _)
  have od8 := ownsW.below od7 bb8 (Nat.le_refl _)
  have T8 := T7.below bb8 (Nat.le_refl _)
  have rl8 := rowW.below rl7 bb8 (Nat.le_refl _)
  clear B7 R7 oa7 ob7 oc7 od7 T7 rl7 bb8
  have oe8 := oe
  clear oe
  clear rl8
  clear kF
  go_wp2_with fail
  refine (most4 q6 _ _ _ _ _ _ _ _ _ _ _ _ _ _ _ _ d0 d1 d2 d3 _ (T8.mono (Nat.zero_le _)) oa8.row ob8.row oc8.row od8.row (by omega) (by omega) (by omega) (by omega)).mono ?_
  rintro e w9 ⟨v7, rfl, rm, bb9⟩
  replace rm := rowW.below rm bb9 (Nat.le_refl _)
  have B9 := B8.trans (bb9.mono B8.size)
  have R9 := R8.below bb9 (Nat.le_refl _)
  have oa9 := ownsW.below oa8 bb9 (Nat.le_refl _)
  have ob9 := ownsW.below ob8 bb9 (Nat.le_refl _)
  have oc9 := ownsW.below oc8 bb9 (Nat.le_refl _)
  have od9 := ownsW.below od8 bb9 (Nat.le_refl _)
  have T9 := T8.below bb9 (Nat.le_refl _)
  have oe9 := ownsW.below oe8 bb9 (Nat.le_refl _)
  clear B8 R8 oa8 ob8 oc8 od8 T8 oe8 bb9
  have rm9 := rm
  clear rm
  clear oa9 ob9 oc9 od9 T9
  go_wp2_with fail
  refine (kG _ _ rm9).mono ?_
  rintro e w10 ⟨v8, rfl, of, bb10⟩
  have ap_R_of : Apart (blkW v8) [w.heap.size + 1 + 1] := apart_one fun q hq => by have h1 := (ownsW.ltb of q hq).1; have h2 := R9.hi; omega
  have ap_oe_of : Apart (blkW v6) (blkW v8) := apart_of (fun k hk => (ownsW.ltb oe9 k hk).2) (fun k hk => (ownsW.ltb of k hk).1)
  replace of := ownsW_mono of B9.size
  have B10 := B9.trans (bb10.mono B9.size)
  have R10 := R9.below bb10 (Nat.le_refl _)
  have oe10 := ownsW.below oe9 bb10 (Nat.le_refl _)
  have rm10 := rowW.below rm9 bb10 (Nat.le_refl _)
  clear B9 R9 oe9 rm9 bb10
  have of10 := of
  clear of
  clear rm10
  clear kG
  obtain ⟨h5, s5, t5, u5, rfl⟩ := oe10.cell
  obtain ⟨h6, s6, t6, u6, rfl⟩ := of10.cell
  have c_R_0 := R10.c 0 _ rfl
  have f_R_0 := R10.f 0 _ rfl
  have c_R_1 := R10.c 1 _ rfl
  have f_R_1 := R10.f 1 _ rfl
  have c_R_2 := R10.c 2 _ rfl
  have f_R_2 := R10.f 2 _ rfl
  have c_R_3 := R10.c 3 _ rfl
  have f_R_3 := R10.f 3 _ rfl
  obtain ⟨w11, hw11⟩ : ∃ v, v = (((w10.setCell ⟨w.heap.size + 1 + 1, 0, none⟩ (.bool h5)).setCell ⟨w.heap.size + 1 + 1, 1, none⟩ (.slice s5 t5 u5)).setCell ⟨w.heap.size + 1 + 1, 2, none⟩ (.bool h6)).setCell ⟨w.heap.size + 1 + 1, 3, none⟩ (.slice s6 t6 u6) := ⟨_, rfl⟩
  have t11 : Tn [w.heap.size + 1 + 1] w10 w11 := by rw [hw11]; exact ((((tnL w10 (w.heap.size + 1 + 1) 0 (.bool h5)).trans (tnL _ (w.heap.size + 1 + 1) 1 (.slice s5 t5 u5))).trans (tnL _ (w.heap.size + 1 + 1) 2 (.bool h6))).trans (tnL _ (w.heap.size + 1 + 1) 3 (.slice s6 t6 u6)))
  have R11 : BoxL w11 w.heap.size (w.heap.size + 1 + 1) [.bool h5, .slice s5 t5 u5, .bool h6, .slice s6 t6 u6] := by rw [hw11]; exact ((((R10.set 0 (.bool h5) (by simp)).set 1 (.slice s5 t5 u5) (by simp)).set 2 (.bool h6) (by simp)).set 3 (.slice s6 t6 u6) (by simp))
  have lo11 := R10.lo
  have B11 := t11.below B10 B10.size (fun q hq => by simp at hq; omega)
  have oe11 := ownsW.tn oe10 t11 ap_R_oe
  have of11 := ownsW.tn of10 t11 ap_R_of
  clear B10 R10 oe10 of10 t11 lo11
  subst hw11
  go_wp2
  (try simp only [Exit.inBlock, Exit.then])
  refine bodyPost_ret (v := .agg #[.bool h5, .slice s5 t5 u5, .bool h6, .slice s6 t6 u6]) ?_ rfl ⟨_, rfl, ownsV.mk oe11 of11 ap_oe_of, B11⟩
  rw [results_cell1 rfl]
  go_simp

end Go.Proofs.Ytjelmbkngjlefaa
