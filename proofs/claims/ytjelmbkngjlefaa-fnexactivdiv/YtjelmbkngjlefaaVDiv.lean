/- The specification's l11Div, by its contract. -/
import Derived.Test.YtjelmbkngjlefaaLeastB
import Derived.Test.YtjelmbkngjlefaaDivM
import Derived.Test.YtjelmbkngjlefaaWB
import Derived.Test.YtjelmbkngjlefaaSWDiv
import Derived.Test.YtjelmbkngjlefaaDivUpB
import Derived.Test.YtjelmbkngjlefaaVB
namespace Go.Proofs.Ytjelmbkngjlefaa
open Go.RowKit
set_option linter.unusedSimpArgs false
set_option linter.unusedVariables false

set_option maxRecDepth 20000 in
set_option maxHeartbeats 6400000 in
theorem sVDiv (gx1 gy1 : Bool) (ax1 ay1 : Option Addr) (nx1 cx1 ny1 cy1 : Nat) (gx2 gy2 : Bool) (ax2 ay2 : Option Addr) (nx2 cx2 ny2 cy2 : Nat) (x1 y1 x2 y2 : Int) (k : Nat) (w : World) (ra : rowV w (.agg #[.bool gx1, .slice ax1 nx1 cx1, .bool gy1, .slice ay1 ny1 cy1]) (mkW x1, mkW y1)) (rb : rowV w (.agg #[.bool gx2, .slice ax2 nx2 cx2, .bool gy2, .slice ay2 ny2 cy2]) (mkW x2, mkW y2)) (h0 : 0 < x2) (h1 : x2 ≤ y2) (m1 : (limbs x1.natAbs).length ≤ 48) (m2 : (limbs y1.natAbs).length ≤ 48) (m3 : (limbs x2.natAbs).length ≤ 48) (m4 : (limbs y2.natAbs).length ≤ 48) (hk : k ≤ 480) :
    Calls Try.prog 28 #[.agg #[.bool gx1, .slice ax1 nx1 cx1, .bool gy1, .slice ay1 ny1 cy1], .agg #[.bool gx2, .slice ax2 nx2 cx2, .bool gy2, .slice ay2 ny2 cy2], .int .i64 k] w fun e w' => ∃ v, e = .returned v ∧ ownsV w' w.heap.size v (mkW (dvLo (x1 * 2 ^ k) x2 y2), mkW (dvHi (y1 * 2 ^ k) x2 y2)) ∧ Below w.heap.size w w' := by
  have ra1 := ra.lo
  have ra2 := ra.hi
  have rb1 := rb.lo
  have rb2 := rb.hi
  clear ra rb
  have h2 : 0 < y2 := by omega
  have e1 := upI_len x1 k m1 hk
  have e2 := upI_len y1 k m2 hk
  have kU := fun W (h : Below w.heap.size w W) => sWUp _ x1 k W (ra1.below h (Nat.le_refl _)) (by omega) (by omega)
  have kW := fun W (h : Below w.heap.size w W) => sWUp _ y1 k W (ra2.below h (Nat.le_refl _)) (by omega) (by omega)
  generalize x1 * 2 ^ k = X at *
  generalize y1 * 2 ^ k = Z at *
  have kA := fun v W (h : Below w.heap.size w W) q => sWDiv v _ X x2 W q (rb1.below h (Nat.le_refl _)) (by omega) (by omega) h0
  have kB := fun v W (h : Below w.heap.size w W) q => sWDiv v _ X y2 W q (rb2.below h (Nat.le_refl _)) (by omega) (by omega) h2
  have kC := fun v W (h : Below w.heap.size w W) q => sWDivUp v _ Z x2 W q (rb1.below h (Nat.le_refl _)) (by omega) (by omega) h0
  have kD := fun v W (h : Below w.heap.size w W) q => sWDivUp v _ Z y2 W q (rb2.below h (Nat.le_refl _)) (by omega) (by omega) h2
  have l1 : (limbs (X / x2).natAbs).length ≤ 1000 := Nat.le_trans (limbs_len_mono (div_abs X x2 h0)) (by omega)
  have l2 : (limbs (X / y2).natAbs).length ≤ 1000 := Nat.le_trans (limbs_len_mono (div_abs X y2 h2)) (by omega)
  have l3 : (limbs (-(-Z / x2)).natAbs).length ≤ 1000 := by rw [Int.natAbs_neg]; exact Nat.le_trans (limbs_len_mono (div_abs (-Z) x2 h0)) (by rw [Int.natAbs_neg]; omega)
  have l4 : (limbs (-(-Z / y2)).natAbs).length ≤ 1000 := by rw [Int.natAbs_neg]; exact Nat.le_trans (limbs_len_mono (div_abs (-Z) y2 h2)) (by rw [Int.natAbs_neg]; omega)
  unfold dvLo dvHi
  clear ra1 ra2 rb1 rb2 h0 h1 h2 m1 m2 m3 m4 e1 e2 hk
  generalize X / x2 = d0 at *
  generalize X / y2 = d1 at *
  generalize -(-Z / x2) = d2 at *
  generalize -(-Z / y2) = d3 at *
  have B0_0 : Below w.heap.size w w := Below.refl _ _
  obtain ⟨ww1, hww1⟩ : ∃ v, v = w.alloc (.cells #[.bool gx1, .slice ax1 nx1 cx1, .bool gy1, .slice ay1 ny1 cy1] 30) := ⟨_, rfl⟩
  have sz1 : ww1.heap.size = w.heap.size + 1 := by rw [hww1]; simp
  have bw1 : Below w.heap.size w ww1 := by rw [hww1]; exact below1 _ _
  have B0_1 := B0_0.trans (bw1.mono B0_0.size)
  have X0_1 : BoxL ww1 w.heap.size w.heap.size [.bool gx1, .slice ax1 nx1 cx1, .bool gy1, .slice ay1 ny1 cy1] := by rw [hww1]; have h := BoxL.made w [.bool gx1, .slice ax1 nx1 cx1, .bool gy1, .slice ay1 ny1 cy1] 30; exact h
  obtain ⟨ww2, hww2⟩ : ∃ v, v = ww1.alloc (.cells #[.bool gx2, .slice ax2 nx2 cx2, .bool gy2, .slice ay2 ny2 cy2] 30) := ⟨_, rfl⟩
  have sz2 : ww2.heap.size = w.heap.size + 1 + 1 := by rw [hww2]; simp [sz1]
  have bw2 : Below ww1.heap.size ww1 ww2 := by rw [hww2]; exact below1 _ _
  have B0_2 := B0_1.trans (bw2.mono B0_1.size)
  have X0_2 := X0_1.below bw2 (Nat.le_refl _)
  have Y0_2 : BoxL ww2 (w.heap.size + 1) (w.heap.size + 1) [.bool gx2, .slice ax2 nx2 cx2, .bool gy2, .slice ay2 ny2 cy2] := by rw [hww2]; have h := BoxL.made ww1 [.bool gx2, .slice ax2 nx2 cx2, .bool gy2, .slice ay2 ny2 cy2] 30; rw [sz1] at h; exact h
  obtain ⟨ww3, hww3⟩ : ∃ v, v = ww2.alloc (.cells #[.bool false, .slice none 0 0, .bool false, .slice none 0 0] 30) := ⟨_, rfl⟩
  have sz3 : ww3.heap.size = w.heap.size + 1 + 1 + 1 := by rw [hww3]; simp [sz2]
  have bw3 : Below ww2.heap.size ww2 ww3 := by rw [hww3]; exact below1 _ _
  have B0_3 := B0_2.trans (bw3.mono B0_2.size)
  have X0_3 := X0_2.below bw3 (Nat.le_refl _)
  have Y0_3 := Y0_2.below bw3 (Nat.le_refl _)
  have R0_3 : BoxL ww3 (w.heap.size + 1 + 1) (w.heap.size + 1 + 1) [.bool false, .slice none 0 0, .bool false, .slice none 0 0] := by rw [hww3]; have h := BoxL.made ww2 [.bool false, .slice none 0 0, .bool false, .slice none 0 0] 30; rw [sz2] at h; exact h
  have X0 := X0_3
  have Y0 := Y0_3.mono (by omega : w.heap.size ≤ w.heap.size + 1)
  have R0 := R0_3.mono (by omega : w.heap.size ≤ w.heap.size + 1 + 1)
  have B0 := B0_3
  clear B0_0 B0_1 B0_2 B0_3 bw1 bw2 bw3 X0_1 X0_2 X0_3 Y0_2 Y0_3 R0_3
  go_enter Try.func28, Try.ntmps28
  go_wp2_with fail
  have hvv : ((w.alloc (.cells #[.bool gx1, .slice ax1 nx1 cx1, .bool gy1, .slice ay1 ny1 cy1] 30)).alloc (.cells #[.bool gx2, .slice ax2 nx2 cx2, .bool gy2, .slice ay2 ny2 cy2] 30)).alloc (.cells #[.bool false, .slice none 0 0, .bool false, .slice none 0 0] 30) = ww3 := by rw [hww3]; rw [hww2]; rw [hww1]
  rw [hvv]
  clear hvv hww1 hww2 hww3 sz1 sz2
  clear ww1 ww2
  have hz0 : w.heap.size + 3 ≤ ww3.heap.size := by omega
  clear sz3
  refine (kU _ B0).mono ?_
  rintro e w1 ⟨v, rfl, op, bb1⟩
  obtain ⟨h4, s4, t4, u4, rfl⟩ := op.cell
  have ap_X_op : Apart (blkW (.agg #[.bool h4, .slice s4 t4 u4])) [w.heap.size] := apart_one fun q hq => by have h1 := (ownsW.ltb op q hq).1; have h2 := X0.hi; omega
  have ap_Y_op : Apart (blkW (.agg #[.bool h4, .slice s4 t4 u4])) [w.heap.size + 1] := apart_one fun q hq => by have h1 := (ownsW.ltb op q hq).1; have h2 := Y0.hi; omega
  have ap_R_op : Apart (blkW (.agg #[.bool h4, .slice s4 t4 u4])) [w.heap.size + 1 + 1] := apart_one fun q hq => by have h1 := (ownsW.ltb op q hq).1; have h2 := R0.hi; omega
  replace op := ownsW_mono op B0.size
  have B1 := B0.trans (bb1.mono B0.size)
  have X1 := X0.below bb1 (Nat.le_refl _)
  have Y1 := Y0.below bb1 (Nat.le_refl _)
  have R1 := R0.below bb1 (Nat.le_refl _)
  clear B0 X0 Y0 R0 bb1
  have op1 := op
  clear op
  clear kU
  obtain ⟨w2, hw2⟩ : ∃ v, Hid (v = w1.alloc (.cells #[.bool h4, .slice s4 t4 u4] 28)) := ⟨_, rfl⟩
  have bb2 : Below w1.heap.size w1 w2 := by rw [hw2.out]; exact below1 _ _
  obtain ⟨qb2, hq2⟩ : ∃ v, Hid (v = w1.heap.size) := ⟨_, rfl⟩
  have P2 : BoxL w2 w.heap.size qb2 [.bool h4, .slice s4 t4 u4] := by rw [hw2.out, hq2.out]; exact (BoxL.made w1 [.bool h4, .slice s4 t4 u4] 28).mono B1.size
  have B2 := B1.trans (bb2.mono B1.size)
  have X2 := X1.below bb2 (Nat.le_refl _)
  have Y2 := Y1.below bb2 (Nat.le_refl _)
  have R2 := R1.below bb2 (Nat.le_refl _)
  have op2 := ownsW.below op1 bb2 (Nat.le_refl _)
  have lt_X_P : w.heap.size < qb2 := by rw [hq2.out]; exact X1.hi
  have lt_Y_P : w.heap.size + 1 < qb2 := by rw [hq2.out]; exact Y1.hi
  have lt_R_P : w.heap.size + 1 + 1 < qb2 := by rw [hq2.out]; exact R1.hi
  have ap_P_op : Apart (blkW (.agg #[.bool h4, .slice s4 t4 u4])) [qb2] := apart_one fun q hq => by rw [hq2.out]; have h1 := (ownsW.ltb op1 q hq).2; omega
  clear B1 X1 Y1 R1 op1 bb2
  have c_X_0 := X2.c 0 _ rfl
  have c_X_1 := X2.c 1 _ rfl
  have c_X_2 := X2.c 2 _ rfl
  have c_X_3 := X2.c 3 _ rfl
  rw [hw2.out] at c_X_0
  rw [hw2.out] at c_X_1
  rw [hw2.out] at c_X_2
  rw [hw2.out] at c_X_3
  go_wp2_with fail
  rw [← hw2.out]
  (try rw [← hq2.out])
  clear c_X_0 c_X_1 c_X_2 c_X_3
  clear hw2 hq2
  refine (kW _ B2).mono ?_
  rintro e w3 ⟨v, rfl, oq, bb3⟩
  obtain ⟨h5, s5, t5, u5, rfl⟩ := oq.cell
  have ap_X_oq : Apart (blkW (.agg #[.bool h5, .slice s5 t5 u5])) [w.heap.size] := apart_one fun q hq => by have h1 := (ownsW.ltb oq q hq).1; have h2 := X2.hi; omega
  have ap_Y_oq : Apart (blkW (.agg #[.bool h5, .slice s5 t5 u5])) [w.heap.size + 1] := apart_one fun q hq => by have h1 := (ownsW.ltb oq q hq).1; have h2 := Y2.hi; omega
  have ap_R_oq : Apart (blkW (.agg #[.bool h5, .slice s5 t5 u5])) [w.heap.size + 1 + 1] := apart_one fun q hq => by have h1 := (ownsW.ltb oq q hq).1; have h2 := R2.hi; omega
  have ap_P_oq : Apart (blkW (.agg #[.bool h5, .slice s5 t5 u5])) [qb2] := apart_one fun q hq => by have h1 := (ownsW.ltb oq q hq).1; have h2 := P2.hi; omega
  have ap_op_oq : Apart (blkW (.agg #[.bool h4, .slice s4 t4 u4])) (blkW (.agg #[.bool h5, .slice s5 t5 u5])) := apart_of (fun k hk => (ownsW.ltb op2 k hk).2) (fun k hk => (ownsW.ltb oq k hk).1)
  replace oq := ownsW_mono oq B2.size
  have B3 := B2.trans (bb3.mono B2.size)
  have X3 := X2.below bb3 (Nat.le_refl _)
  have Y3 := Y2.below bb3 (Nat.le_refl _)
  have R3 := R2.below bb3 (Nat.le_refl _)
  have op3 := ownsW.below op2 bb3 (Nat.le_refl _)
  have P3 := P2.below bb3 (Nat.le_refl _)
  clear B2 X2 Y2 R2 op2 P2 bb3
  have oq3 := oq
  clear oq
  clear kW
  clear X3
  go_wp2_with fail
  obtain ⟨w4, hw4⟩ : ∃ v, v = w3.alloc (.cells #[.bool h5, .slice s5 t5 u5] 28) := ⟨_, rfl⟩
  have bb4 : Below w3.heap.size w3 w4 := by rw [hw4]; exact below1 _ _
  obtain ⟨qb4, hq4⟩ : ∃ v, v = w3.heap.size := ⟨_, rfl⟩
  have Q4 : BoxL w4 w.heap.size qb4 [.bool h5, .slice s5 t5 u5] := by rw [hw4, hq4]; exact (BoxL.made w3 [.bool h5, .slice s5 t5 u5] 28).mono B3.size
  have sn4 : w4.heap.size = qb4 + 1 := by rw [hw4, hq4]; simp
  rw [← hw4]
  (try rw [← hq4])
  clear hw4
  have B4 := B3.trans (bb4.mono B3.size)
  have Y4 := Y3.below bb4 (Nat.le_refl _)
  have R4 := R3.below bb4 (Nat.le_refl _)
  have op4 := ownsW.below op3 bb4 (Nat.le_refl _)
  have P4 := P3.below bb4 (Nat.le_refl _)
  have oq4 := ownsW.below oq3 bb4 (Nat.le_refl _)
  have lt_Y_Q : w.heap.size + 1 < qb4 := by rw [hq4]; exact Y3.hi
  have lt_R_Q : w.heap.size + 1 + 1 < qb4 := by rw [hq4]; exact R3.hi
  have ap_Q_op : Apart (blkW (.agg #[.bool h4, .slice s4 t4 u4])) [qb4] := apart_one fun q hq => by have h1 := (ownsW.ltb op3 q hq).2; omega
  have lt_P_Q : qb2 < qb4 := by rw [hq4]; exact P3.hi
  have ap_Q_oq : Apart (blkW (.agg #[.bool h5, .slice s5 t5 u5])) [qb4] := apart_one fun q hq => by have h1 := (ownsW.ltb oq3 q hq).2; omega
  clear B3 Y3 R3 op3 P3 oq3 bb4 hq4 sn4
  obtain ⟨w5, hw5⟩ : ∃ v, Hid (v = w4.drew) := ⟨_, rfl⟩
  have bd : Below w4.heap.size w4 w5 := by rw [hw5.out]; exact (Below.refl w4.heap.size w4).drew
  have B5 := B4.trans (bd.mono B4.size)
  have Y5 := Y4.below bd (Nat.le_refl _)
  have R5 := R4.below bd (Nat.le_refl _)
  have op5 := ownsW.below op4 bd (Nat.le_refl _)
  have P5 := P4.below bd (Nat.le_refl _)
  have oq5 := ownsW.below oq4 bd (Nat.le_refl _)
  have Q5 := Q4.below bd (Nat.le_refl _)
  clear B4 Y4 R4 op4 P4 oq4 Q4 bd
  have hH : (fun W : World => W.cell? ⟨qb2, 0, none⟩ = some (.bool h4) ∧ W.cell? ⟨qb2, 1, none⟩ = some (.slice s4 t4 u4) ∧ W.cell? ⟨qb4, 0, none⟩ = some (.bool h5) ∧ W.cell? ⟨qb4, 1, none⟩ = some (.slice s5 t5 u5) ∧ W.cell? ⟨w.heap.size + 1, 0, none⟩ = some (.bool gx2) ∧ W.cell? ⟨w.heap.size + 1, 1, none⟩ = some (.slice ax2 nx2 cx2) ∧ W.cell? ⟨w.heap.size + 1, 2, none⟩ = some (.bool gy2) ∧ W.cell? ⟨w.heap.size + 1, 3, none⟩ = some (.slice ay2 ny2 cy2)) w5 := ⟨P5.c 0 _ rfl, P5.c 1 _ rfl, Q5.c 0 _ rfl, Q5.c 1 _ rfl, Y5.c 0 _ rfl, Y5.c 1 _ rfl, Y5.c 2 _ rfl, Y5.c 3 _ rfl⟩
  refine wp_region_held_drew (S := fun W => W.cell? ⟨qb2, 0, none⟩ = some (.bool h4) ∧ W.cell? ⟨qb2, 1, none⟩ = some (.slice s4 t4 u4) ∧ W.cell? ⟨qb4, 0, none⟩ = some (.bool h5) ∧ W.cell? ⟨qb4, 1, none⟩ = some (.slice s5 t5 u5) ∧ W.cell? ⟨w.heap.size + 1, 0, none⟩ = some (.bool gx2) ∧ W.cell? ⟨w.heap.size + 1, 1, none⟩ = some (.slice ax2 nx2 cx2) ∧ W.cell? ⟨w.heap.size + 1, 2, none⟩ = some (.bool gy2) ∧ W.cell? ⟨w.heap.size + 1, 3, none⟩ = some (.slice ay2 ny2 cy2)) (by kernel_rfl) (by rw [← hw5.out]; exact hH) ?_
  intro _
  rw [← hw5.out]
  clear hw5
  refine takeH 0 (some 17) (.agg #[.bool h4, .slice s4 t4 u4]) rfl rfl (by kernel_rfl) (by kernel_rfl) (by kernel_rfl) (fun _ _ _ h => h) (Or.inl ⟨rfl, fun W hW => by obtain ⟨l0, l1, l2, l3, l4, l5, l6, l7⟩ := hW; go_simp⟩) hH ?_
  simp only [Act.put, List.setIfInBounds_toArray, List.set_cons_zero, List.set_cons_succ]
  refine takeH 1 (some 18) (.pointer (some ⟨w.heap.size + 1, 0, none⟩)) rfl rfl (by kernel_rfl) (by kernel_rfl) (by kernel_rfl) (fun _ _ _ h => h) (Or.inl ⟨rfl, fun W hW => by go_simp⟩) hH ?_
  simp only [Act.put, List.setIfInBounds_toArray, List.set_cons_zero, List.set_cons_succ]
  refine takeH 2 (some 19) (.agg #[.bool gx2, .slice ax2 nx2 cx2]) rfl rfl (by kernel_rfl) (by kernel_rfl) (by kernel_rfl) (fun _ _ _ h => h) (Or.inl ⟨rfl, fun W hW => by obtain ⟨l0, l1, l2, l3, l4, l5, l6, l7⟩ := hW; go_simp⟩) hH ?_
  simp only [Act.put, List.setIfInBounds_toArray, List.set_cons_zero, List.set_cons_succ]
  refine takeH 4 (some 21) (.agg #[.bool h4, .slice s4 t4 u4]) rfl rfl (by kernel_rfl) (by kernel_rfl) (by kernel_rfl) (fun _ _ _ h => h) (Or.inl ⟨rfl, fun W hW => by obtain ⟨l0, l1, l2, l3, l4, l5, l6, l7⟩ := hW; go_simp⟩) hH ?_
  simp only [Act.put, List.setIfInBounds_toArray, List.set_cons_zero, List.set_cons_succ]
  refine takeH 5 (some 22) (.pointer (some ⟨w.heap.size + 1, 2, none⟩)) rfl rfl (by kernel_rfl) (by kernel_rfl) (by kernel_rfl) (fun _ _ _ h => h) (Or.inl ⟨rfl, fun W hW => by go_simp⟩) hH ?_
  simp only [Act.put, List.setIfInBounds_toArray, List.set_cons_zero, List.set_cons_succ]
  refine takeH 6 (some 23) (.agg #[.bool gy2, .slice ay2 ny2 cy2]) rfl rfl (by kernel_rfl) (by kernel_rfl) (by kernel_rfl) (fun _ _ _ h => h) (Or.inl ⟨rfl, fun W hW => by obtain ⟨l0, l1, l2, l3, l4, l5, l6, l7⟩ := hW; go_simp⟩) hH ?_
  simp only [Act.put, List.setIfInBounds_toArray, List.set_cons_zero, List.set_cons_succ]
  refine takeH 10 (some 27) (.agg #[.bool h5, .slice s5 t5 u5]) rfl rfl (by kernel_rfl) (by kernel_rfl) (by kernel_rfl) (fun _ _ _ h => h) (Or.inl ⟨rfl, fun W hW => by obtain ⟨l0, l1, l2, l3, l4, l5, l6, l7⟩ := hW; go_simp⟩) hH ?_
  simp only [Act.put, List.setIfInBounds_toArray, List.set_cons_zero, List.set_cons_succ]
  refine takeH 11 (some 28) (.pointer (some ⟨w.heap.size + 1, 0, none⟩)) rfl rfl (by kernel_rfl) (by kernel_rfl) (by kernel_rfl) (fun _ _ _ h => h) (Or.inl ⟨rfl, fun W hW => by go_simp⟩) hH ?_
  simp only [Act.put, List.setIfInBounds_toArray, List.set_cons_zero, List.set_cons_succ]
  refine takeH 12 (some 29) (.agg #[.bool gx2, .slice ax2 nx2 cx2]) rfl rfl (by kernel_rfl) (by kernel_rfl) (by kernel_rfl) (fun _ _ _ h => h) (Or.inl ⟨rfl, fun W hW => by obtain ⟨l0, l1, l2, l3, l4, l5, l6, l7⟩ := hW; go_simp⟩) hH ?_
  simp only [Act.put, List.setIfInBounds_toArray, List.set_cons_zero, List.set_cons_succ]
  refine takeH 14 (some 31) (.agg #[.bool h5, .slice s5 t5 u5]) rfl rfl (by kernel_rfl) (by kernel_rfl) (by kernel_rfl) (fun _ _ _ h => h) (Or.inl ⟨rfl, fun W hW => by obtain ⟨l0, l1, l2, l3, l4, l5, l6, l7⟩ := hW; go_simp⟩) hH ?_
  simp only [Act.put, List.setIfInBounds_toArray, List.set_cons_zero, List.set_cons_succ]
  refine takeH 15 (some 32) (.pointer (some ⟨w.heap.size + 1, 2, none⟩)) rfl rfl (by kernel_rfl) (by kernel_rfl) (by kernel_rfl) (fun _ _ _ h => h) (Or.inl ⟨rfl, fun W hW => by go_simp⟩) hH ?_
  simp only [Act.put, List.setIfInBounds_toArray, List.set_cons_zero, List.set_cons_succ]
  refine takeH 16 (some 33) (.agg #[.bool gy2, .slice ay2 ny2 cy2]) rfl rfl (by kernel_rfl) (by kernel_rfl) (by kernel_rfl) (fun _ _ _ h => h) (Or.inl ⟨rfl, fun W hW => by obtain ⟨l0, l1, l2, l3, l4, l5, l6, l7⟩ := hW; go_simp⟩) hH ?_
  simp only [Act.put, List.setIfInBounds_toArray, List.set_cons_zero, List.set_cons_succ]
  refine oneH 3 rfl (by kernel_rfl) (fun K' hK => ?_)
  go_simp
  refine (kA _ _ B5 op5.row).mono ?_
  rintro e w6 ⟨v, rfl, oa, bb6⟩
  obtain ⟨h0, s0, t0, u0, rfl⟩ := oa.cell
  have ap_Y_oa : Apart (blkW (.agg #[.bool h0, .slice s0 t0 u0])) [w.heap.size + 1] := apart_one fun q hq => by have h1 := (ownsW.ltb oa q hq).1; have h2 := Y5.hi; omega
  have ap_R_oa : Apart (blkW (.agg #[.bool h0, .slice s0 t0 u0])) [w.heap.size + 1 + 1] := apart_one fun q hq => by have h1 := (ownsW.ltb oa q hq).1; have h2 := R5.hi; omega
  have ap_P_oa : Apart (blkW (.agg #[.bool h0, .slice s0 t0 u0])) [qb2] := apart_one fun q hq => by have h1 := (ownsW.ltb oa q hq).1; have h2 := P5.hi; omega
  have ap_Q_oa : Apart (blkW (.agg #[.bool h0, .slice s0 t0 u0])) [qb4] := apart_one fun q hq => by have h1 := (ownsW.ltb oa q hq).1; have h2 := Q5.hi; omega
  have ap_oa_op : Apart (blkW (.agg #[.bool h0, .slice s0 t0 u0])) (blkW (.agg #[.bool h4, .slice s4 t4 u4])) := Apart.symm (apart_of (fun k hk => (ownsW.ltb op5 k hk).2) (fun k hk => (ownsW.ltb oa k hk).1))
  have ap_oa_oq : Apart (blkW (.agg #[.bool h0, .slice s0 t0 u0])) (blkW (.agg #[.bool h5, .slice s5 t5 u5])) := Apart.symm (apart_of (fun k hk => (ownsW.ltb oq5 k hk).2) (fun k hk => (ownsW.ltb oa k hk).1))
  replace oa := ownsW_mono oa B5.size
  have B6 := B5.trans (bb6.mono B5.size)
  have Y6 := Y5.below bb6 (Nat.le_refl _)
  have R6 := R5.below bb6 (Nat.le_refl _)
  have op6 := ownsW.below op5 bb6 (Nat.le_refl _)
  have P6 := P5.below bb6 (Nat.le_refl _)
  have oq6 := ownsW.below oq5 bb6 (Nat.le_refl _)
  have Q6 := Q5.below bb6 (Nat.le_refl _)
  clear B5 Y5 R5 op5 P5 oq5 Q5 bb6 hH
  have oa6 := oa
  clear oa
  have hH : (fun W : World => W.cell? ⟨qb2, 0, none⟩ = some (.bool h4) ∧ W.cell? ⟨qb2, 1, none⟩ = some (.slice s4 t4 u4) ∧ W.cell? ⟨qb4, 0, none⟩ = some (.bool h5) ∧ W.cell? ⟨qb4, 1, none⟩ = some (.slice s5 t5 u5) ∧ W.cell? ⟨w.heap.size + 1, 0, none⟩ = some (.bool gx2) ∧ W.cell? ⟨w.heap.size + 1, 1, none⟩ = some (.slice ax2 nx2 cx2) ∧ W.cell? ⟨w.heap.size + 1, 2, none⟩ = some (.bool gy2) ∧ W.cell? ⟨w.heap.size + 1, 3, none⟩ = some (.slice ay2 ny2 cy2)) w6 := ⟨P6.c 0 _ rfl, P6.c 1 _ rfl, Q6.c 0 _ rfl, Q6.c 1 _ rfl, Y6.c 0 _ rfl, Y6.c 1 _ rfl, Y6.c 2 _ rfl, Y6.c 3 _ rfl⟩
  refine hK _ _ hH ?_
  clear hK
  refine oneH 7 rfl (by kernel_rfl) (fun K' hK => ?_)
  go_simp
  refine (kB _ _ B6 op6.row).mono ?_
  rintro e w7 ⟨v, rfl, ob, bb7⟩
  obtain ⟨h1, s1, t1, u1, rfl⟩ := ob.cell
  have ap_Y_ob : Apart (blkW (.agg #[.bool h1, .slice s1 t1 u1])) [w.heap.size + 1] := apart_one fun q hq => by have h1 := (ownsW.ltb ob q hq).1; have h2 := Y6.hi; omega
  have ap_R_ob : Apart (blkW (.agg #[.bool h1, .slice s1 t1 u1])) [w.heap.size + 1 + 1] := apart_one fun q hq => by have h1 := (ownsW.ltb ob q hq).1; have h2 := R6.hi; omega
  have ap_P_ob : Apart (blkW (.agg #[.bool h1, .slice s1 t1 u1])) [qb2] := apart_one fun q hq => by have h1 := (ownsW.ltb ob q hq).1; have h2 := P6.hi; omega
  have ap_Q_ob : Apart (blkW (.agg #[.bool h1, .slice s1 t1 u1])) [qb4] := apart_one fun q hq => by have h1 := (ownsW.ltb ob q hq).1; have h2 := Q6.hi; omega
  have ap_ob_op : Apart (blkW (.agg #[.bool h1, .slice s1 t1 u1])) (blkW (.agg #[.bool h4, .slice s4 t4 u4])) := Apart.symm (apart_of (fun k hk => (ownsW.ltb op6 k hk).2) (fun k hk => (ownsW.ltb ob k hk).1))
  have ap_ob_oq : Apart (blkW (.agg #[.bool h1, .slice s1 t1 u1])) (blkW (.agg #[.bool h5, .slice s5 t5 u5])) := Apart.symm (apart_of (fun k hk => (ownsW.ltb oq6 k hk).2) (fun k hk => (ownsW.ltb ob k hk).1))
  have ap_oa_ob : Apart (blkW (.agg #[.bool h0, .slice s0 t0 u0])) (blkW (.agg #[.bool h1, .slice s1 t1 u1])) := apart_of (fun k hk => (ownsW.ltb oa6 k hk).2) (fun k hk => (ownsW.ltb ob k hk).1)
  replace ob := ownsW_mono ob B6.size
  have B7 := B6.trans (bb7.mono B6.size)
  have Y7 := Y6.below bb7 (Nat.le_refl _)
  have R7 := R6.below bb7 (Nat.le_refl _)
  have op7 := ownsW.below op6 bb7 (Nat.le_refl _)
  have P7 := P6.below bb7 (Nat.le_refl _)
  have oq7 := ownsW.below oq6 bb7 (Nat.le_refl _)
  have Q7 := Q6.below bb7 (Nat.le_refl _)
  have oa7 := ownsW.below oa6 bb7 (Nat.le_refl _)
  clear B6 Y6 R6 op6 P6 oq6 Q6 oa6 bb7 hH
  have ob7 := ob
  clear ob
  have hH : (fun W : World => W.cell? ⟨qb2, 0, none⟩ = some (.bool h4) ∧ W.cell? ⟨qb2, 1, none⟩ = some (.slice s4 t4 u4) ∧ W.cell? ⟨qb4, 0, none⟩ = some (.bool h5) ∧ W.cell? ⟨qb4, 1, none⟩ = some (.slice s5 t5 u5) ∧ W.cell? ⟨w.heap.size + 1, 0, none⟩ = some (.bool gx2) ∧ W.cell? ⟨w.heap.size + 1, 1, none⟩ = some (.slice ax2 nx2 cx2) ∧ W.cell? ⟨w.heap.size + 1, 2, none⟩ = some (.bool gy2) ∧ W.cell? ⟨w.heap.size + 1, 3, none⟩ = some (.slice ay2 ny2 cy2)) w7 := ⟨P7.c 0 _ rfl, P7.c 1 _ rfl, Q7.c 0 _ rfl, Q7.c 1 _ rfl, Y7.c 0 _ rfl, Y7.c 1 _ rfl, Y7.c 2 _ rfl, Y7.c 3 _ rfl⟩
  refine hK _ _ hH ?_
  clear hK
  refine oneH 8 rfl (by kernel_rfl) (fun K' hK => ?_)
  go_simp
  clear hH
  obtain ⟨w8, hw8⟩ : ∃ v, v = w7.alloc (.cells #[.bool h0, .slice s0 t0 u0, .bool h1, .slice s1 t1 u1] 28) := ⟨_, rfl⟩
  have bb8 : Below w7.heap.size w7 w8 := by rw [hw8]; exact below1 _ _
  obtain ⟨qb8, hq8⟩ : ∃ v, v = w7.heap.size := ⟨_, rfl⟩
  have T8 : BoxL w8 w.heap.size qb8 [.bool h0, .slice s0 t0 u0, .bool h1, .slice s1 t1 u1] := by rw [hw8, hq8]; exact (BoxL.made w7 [.bool h0, .slice s0 t0 u0, .bool h1, .slice s1 t1 u1] 28).mono B7.size
  have sn8 : w8.heap.size = qb8 + 1 := by rw [hw8, hq8]; simp
  rw [← hw8]
  (try rw [← hq8])
  clear hw8
  have B8 := B7.trans (bb8.mono B7.size)
  have Y8 := Y7.below bb8 (Nat.le_refl _)
  have R8 := R7.below bb8 (Nat.le_refl _)
  have op8 := ownsW.below op7 bb8 (Nat.le_refl _)
  have P8 := P7.below bb8 (Nat.le_refl _)
  have oq8 := ownsW.below oq7 bb8 (Nat.le_refl _)
  have Q8 := Q7.below bb8 (Nat.le_refl _)
  have oa8 := ownsW.below oa7 bb8 (Nat.le_refl _)
  have ob8 := ownsW.below ob7 bb8 (Nat.le_refl _)
  have lt_Y_T : w.heap.size + 1 < qb8 := by rw [hq8]; exact Y7.hi
  have lt_R_T : w.heap.size + 1 + 1 < qb8 := by rw [hq8]; exact R7.hi
  have ap_T_op : Apart (blkW (.agg #[.bool h4, .slice s4 t4 u4])) [qb8] := apart_one fun q hq => by have h1 := (ownsW.ltb op7 q hq).2; omega
  have lt_P_T : qb2 < qb8 := by rw [hq8]; exact P7.hi
  have ap_T_oq : Apart (blkW (.agg #[.bool h5, .slice s5 t5 u5])) [qb8] := apart_one fun q hq => by have h1 := (ownsW.ltb oq7 q hq).2; omega
  have lt_Q_T : qb4 < qb8 := by rw [hq8]; exact Q7.hi
  have ap_T_oa : Apart (blkW (.agg #[.bool h0, .slice s0 t0 u0])) [qb8] := apart_one fun q hq => by have h1 := (ownsW.ltb oa7 q hq).2; omega
  have ap_T_ob : Apart (blkW (.agg #[.bool h1, .slice s1 t1 u1])) [qb8] := apart_one fun q hq => by have h1 := (ownsW.ltb ob7 q hq).2; omega
  clear B7 Y7 R7 op7 P7 oq7 Q7 oa7 ob7 bb8 hq8 sn8
  have hH : (fun W : World => W.cell? ⟨qb2, 0, none⟩ = some (.bool h4) ∧ W.cell? ⟨qb2, 1, none⟩ = some (.slice s4 t4 u4) ∧ W.cell? ⟨qb4, 0, none⟩ = some (.bool h5) ∧ W.cell? ⟨qb4, 1, none⟩ = some (.slice s5 t5 u5) ∧ W.cell? ⟨w.heap.size + 1, 0, none⟩ = some (.bool gx2) ∧ W.cell? ⟨w.heap.size + 1, 1, none⟩ = some (.slice ax2 nx2 cx2) ∧ W.cell? ⟨w.heap.size + 1, 2, none⟩ = some (.bool gy2) ∧ W.cell? ⟨w.heap.size + 1, 3, none⟩ = some (.slice ay2 ny2 cy2)) w8 := ⟨P8.c 0 _ rfl, P8.c 1 _ rfl, Q8.c 0 _ rfl, Q8.c 1 _ rfl, Y8.c 0 _ rfl, Y8.c 1 _ rfl, Y8.c 2 _ rfl, Y8.c 3 _ rfl⟩
  refine hK _ _ hH ?_
  clear hK
  refine oneH 9 rfl (by kernel_rfl) (fun K' hK => ?_)
  go_simp
  refine (least2 qb8 _ _ _ _ _ _ _ _ d0 d1 _ (T8.mono (Nat.zero_le _)) oa8.row ob8.row (by omega) (by omega)).mono ?_
  rintro e w9 ⟨v, rfl, -, hU, bb9⟩
  have oe : ownsW w9 w.heap.size v (mkW (lesserI d0 d1)) := by
    rcases hU.out with ⟨e1, e2⟩ | ⟨e1, e2⟩
    · rw [e1, e2]; exact ownsW.below oa8 bb9 (Nat.le_refl _)
    · rw [e1, e2]; exact ownsW.below ob8 bb9 (Nat.le_refl _)
  have ap_Y_oe : Apart (blkW v) [w.heap.size + 1] := by rcases hU.out with ⟨e1, e2⟩ | ⟨e1, e2⟩; (rw [e1]; exact ap_Y_oa); (rw [e1]; exact ap_Y_ob)
  have ap_R_oe : Apart (blkW v) [w.heap.size + 1 + 1] := by rcases hU.out with ⟨e1, e2⟩ | ⟨e1, e2⟩; (rw [e1]; exact ap_R_oa); (rw [e1]; exact ap_R_ob)
  have ap_P_oe : Apart (blkW v) [qb2] := by rcases hU.out with ⟨e1, e2⟩ | ⟨e1, e2⟩; (rw [e1]; exact ap_P_oa); (rw [e1]; exact ap_P_ob)
  have ap_Q_oe : Apart (blkW v) [qb4] := by rcases hU.out with ⟨e1, e2⟩ | ⟨e1, e2⟩; (rw [e1]; exact ap_Q_oa); (rw [e1]; exact ap_Q_ob)
  have ap_T_oe : Apart (blkW v) [qb8] := by rcases hU.out with ⟨e1, e2⟩ | ⟨e1, e2⟩; (rw [e1]; exact ap_T_oa); (rw [e1]; exact ap_T_ob)
  have ap_oe_op : Apart (blkW v) (blkW (.agg #[.bool h4, .slice s4 t4 u4])) := by rcases hU.out with ⟨e1, e2⟩ | ⟨e1, e2⟩; (rw [e1]; exact ap_oa_op); (rw [e1]; exact ap_ob_op)
  have ap_oe_oq : Apart (blkW v) (blkW (.agg #[.bool h5, .slice s5 t5 u5])) := by rcases hU.out with ⟨e1, e2⟩ | ⟨e1, e2⟩; (rw [e1]; exact ap_oa_oq); (rw [e1]; exact ap_ob_oq)
  have B9 := B8.trans (bb9.mono B8.size)
  have Y9 := Y8.below bb9 (Nat.le_refl _)
  have R9 := R8.below bb9 (Nat.le_refl _)
  have op9 := ownsW.below op8 bb9 (Nat.le_refl _)
  have P9 := P8.below bb9 (Nat.le_refl _)
  have oq9 := ownsW.below oq8 bb9 (Nat.le_refl _)
  have Q9 := Q8.below bb9 (Nat.le_refl _)
  have oa9 := ownsW.below oa8 bb9 (Nat.le_refl _)
  have ob9 := ownsW.below ob8 bb9 (Nat.le_refl _)
  have T9 := T8.below bb9 (Nat.le_refl _)
  clear B8 Y8 R8 op8 P8 oq8 Q8 oa8 ob8 T8 bb9 hH
  have oe9 := oe
  clear oe
  obtain ⟨h6, s6, t6, u6, rfl⟩ := oe9.cell
  clear hU
  clear oa9 ob9 T9
  have hH : (fun W : World => W.cell? ⟨qb2, 0, none⟩ = some (.bool h4) ∧ W.cell? ⟨qb2, 1, none⟩ = some (.slice s4 t4 u4) ∧ W.cell? ⟨qb4, 0, none⟩ = some (.bool h5) ∧ W.cell? ⟨qb4, 1, none⟩ = some (.slice s5 t5 u5) ∧ W.cell? ⟨w.heap.size + 1, 0, none⟩ = some (.bool gx2) ∧ W.cell? ⟨w.heap.size + 1, 1, none⟩ = some (.slice ax2 nx2 cx2) ∧ W.cell? ⟨w.heap.size + 1, 2, none⟩ = some (.bool gy2) ∧ W.cell? ⟨w.heap.size + 1, 3, none⟩ = some (.slice ay2 ny2 cy2)) w9 := ⟨P9.c 0 _ rfl, P9.c 1 _ rfl, Q9.c 0 _ rfl, Q9.c 1 _ rfl, Y9.c 0 _ rfl, Y9.c 1 _ rfl, Y9.c 2 _ rfl, Y9.c 3 _ rfl⟩
  refine hK _ _ hH ?_
  clear hK
  refine oneH 13 rfl (by kernel_rfl) (fun K' hK => ?_)
  go_simp
  refine (kC _ _ B9 oq9.row).mono ?_
  rintro e w10 ⟨v, rfl, oc, bb10⟩
  obtain ⟨h2, s2, t2, u2, rfl⟩ := oc.cell
  have ap_Y_oc : Apart (blkW (.agg #[.bool h2, .slice s2 t2 u2])) [w.heap.size + 1] := apart_one fun q hq => by have h1 := (ownsW.ltb oc q hq).1; have h2 := Y9.hi; omega
  have ap_R_oc : Apart (blkW (.agg #[.bool h2, .slice s2 t2 u2])) [w.heap.size + 1 + 1] := apart_one fun q hq => by have h1 := (ownsW.ltb oc q hq).1; have h2 := R9.hi; omega
  have ap_P_oc : Apart (blkW (.agg #[.bool h2, .slice s2 t2 u2])) [qb2] := apart_one fun q hq => by have h1 := (ownsW.ltb oc q hq).1; have h2 := P9.hi; omega
  have ap_Q_oc : Apart (blkW (.agg #[.bool h2, .slice s2 t2 u2])) [qb4] := apart_one fun q hq => by have h1 := (ownsW.ltb oc q hq).1; have h2 := Q9.hi; omega
  have ap_oc_op : Apart (blkW (.agg #[.bool h2, .slice s2 t2 u2])) (blkW (.agg #[.bool h4, .slice s4 t4 u4])) := Apart.symm (apart_of (fun k hk => (ownsW.ltb op9 k hk).2) (fun k hk => (ownsW.ltb oc k hk).1))
  have ap_oc_oq : Apart (blkW (.agg #[.bool h2, .slice s2 t2 u2])) (blkW (.agg #[.bool h5, .slice s5 t5 u5])) := Apart.symm (apart_of (fun k hk => (ownsW.ltb oq9 k hk).2) (fun k hk => (ownsW.ltb oc k hk).1))
  have ap_oc_oe : Apart (blkW (.agg #[.bool h2, .slice s2 t2 u2])) (blkW (.agg #[.bool h6, .slice s6 t6 u6])) := Apart.symm (apart_of (fun k hk => (ownsW.ltb oe9 k hk).2) (fun k hk => (ownsW.ltb oc k hk).1))
  replace oc := ownsW_mono oc B9.size
  have B10 := B9.trans (bb10.mono B9.size)
  have Y10 := Y9.below bb10 (Nat.le_refl _)
  have R10 := R9.below bb10 (Nat.le_refl _)
  have op10 := ownsW.below op9 bb10 (Nat.le_refl _)
  have P10 := P9.below bb10 (Nat.le_refl _)
  have oq10 := ownsW.below oq9 bb10 (Nat.le_refl _)
  have Q10 := Q9.below bb10 (Nat.le_refl _)
  have oe10 := ownsW.below oe9 bb10 (Nat.le_refl _)
  clear B9 Y9 R9 op9 P9 oq9 Q9 oe9 bb10 hH
  have oc10 := oc
  clear oc
  have hH : (fun W : World => W.cell? ⟨qb2, 0, none⟩ = some (.bool h4) ∧ W.cell? ⟨qb2, 1, none⟩ = some (.slice s4 t4 u4) ∧ W.cell? ⟨qb4, 0, none⟩ = some (.bool h5) ∧ W.cell? ⟨qb4, 1, none⟩ = some (.slice s5 t5 u5) ∧ W.cell? ⟨w.heap.size + 1, 0, none⟩ = some (.bool gx2) ∧ W.cell? ⟨w.heap.size + 1, 1, none⟩ = some (.slice ax2 nx2 cx2) ∧ W.cell? ⟨w.heap.size + 1, 2, none⟩ = some (.bool gy2) ∧ W.cell? ⟨w.heap.size + 1, 3, none⟩ = some (.slice ay2 ny2 cy2)) w10 := ⟨P10.c 0 _ rfl, P10.c 1 _ rfl, Q10.c 0 _ rfl, Q10.c 1 _ rfl, Y10.c 0 _ rfl, Y10.c 1 _ rfl, Y10.c 2 _ rfl, Y10.c 3 _ rfl⟩
  refine hK _ _ hH ?_
  clear hK
  refine oneH 17 rfl (by kernel_rfl) (fun K' hK => ?_)
  go_simp
  refine (kD _ _ B10 oq10.row).mono ?_
  rintro e w11 ⟨v, rfl, od, bb11⟩
  obtain ⟨h3, s3, t3, u3, rfl⟩ := od.cell
  have ap_Y_od : Apart (blkW (.agg #[.bool h3, .slice s3 t3 u3])) [w.heap.size + 1] := apart_one fun q hq => by have h1 := (ownsW.ltb od q hq).1; have h2 := Y10.hi; omega
  have ap_R_od : Apart (blkW (.agg #[.bool h3, .slice s3 t3 u3])) [w.heap.size + 1 + 1] := apart_one fun q hq => by have h1 := (ownsW.ltb od q hq).1; have h2 := R10.hi; omega
  have ap_P_od : Apart (blkW (.agg #[.bool h3, .slice s3 t3 u3])) [qb2] := apart_one fun q hq => by have h1 := (ownsW.ltb od q hq).1; have h2 := P10.hi; omega
  have ap_Q_od : Apart (blkW (.agg #[.bool h3, .slice s3 t3 u3])) [qb4] := apart_one fun q hq => by have h1 := (ownsW.ltb od q hq).1; have h2 := Q10.hi; omega
  have ap_od_op : Apart (blkW (.agg #[.bool h3, .slice s3 t3 u3])) (blkW (.agg #[.bool h4, .slice s4 t4 u4])) := Apart.symm (apart_of (fun k hk => (ownsW.ltb op10 k hk).2) (fun k hk => (ownsW.ltb od k hk).1))
  have ap_od_oq : Apart (blkW (.agg #[.bool h3, .slice s3 t3 u3])) (blkW (.agg #[.bool h5, .slice s5 t5 u5])) := Apart.symm (apart_of (fun k hk => (ownsW.ltb oq10 k hk).2) (fun k hk => (ownsW.ltb od k hk).1))
  have ap_od_oe : Apart (blkW (.agg #[.bool h3, .slice s3 t3 u3])) (blkW (.agg #[.bool h6, .slice s6 t6 u6])) := Apart.symm (apart_of (fun k hk => (ownsW.ltb oe10 k hk).2) (fun k hk => (ownsW.ltb od k hk).1))
  have ap_oc_od : Apart (blkW (.agg #[.bool h2, .slice s2 t2 u2])) (blkW (.agg #[.bool h3, .slice s3 t3 u3])) := apart_of (fun k hk => (ownsW.ltb oc10 k hk).2) (fun k hk => (ownsW.ltb od k hk).1)
  replace od := ownsW_mono od B10.size
  have B11 := B10.trans (bb11.mono B10.size)
  have Y11 := Y10.below bb11 (Nat.le_refl _)
  have R11 := R10.below bb11 (Nat.le_refl _)
  have op11 := ownsW.below op10 bb11 (Nat.le_refl _)
  have P11 := P10.below bb11 (Nat.le_refl _)
  have oq11 := ownsW.below oq10 bb11 (Nat.le_refl _)
  have Q11 := Q10.below bb11 (Nat.le_refl _)
  have oe11 := ownsW.below oe10 bb11 (Nat.le_refl _)
  have oc11 := ownsW.below oc10 bb11 (Nat.le_refl _)
  clear B10 Y10 R10 op10 P10 oq10 Q10 oe10 oc10 bb11 hH
  have od11 := od
  clear od
  have hH : (fun W : World => W.cell? ⟨qb2, 0, none⟩ = some (.bool h4) ∧ W.cell? ⟨qb2, 1, none⟩ = some (.slice s4 t4 u4) ∧ W.cell? ⟨qb4, 0, none⟩ = some (.bool h5) ∧ W.cell? ⟨qb4, 1, none⟩ = some (.slice s5 t5 u5) ∧ W.cell? ⟨w.heap.size + 1, 0, none⟩ = some (.bool gx2) ∧ W.cell? ⟨w.heap.size + 1, 1, none⟩ = some (.slice ax2 nx2 cx2) ∧ W.cell? ⟨w.heap.size + 1, 2, none⟩ = some (.bool gy2) ∧ W.cell? ⟨w.heap.size + 1, 3, none⟩ = some (.slice ay2 ny2 cy2)) w11 := ⟨P11.c 0 _ rfl, P11.c 1 _ rfl, Q11.c 0 _ rfl, Q11.c 1 _ rfl, Y11.c 0 _ rfl, Y11.c 1 _ rfl, Y11.c 2 _ rfl, Y11.c 3 _ rfl⟩
  refine hK _ _ hH ?_
  clear hK
  refine oneH 18 rfl (by kernel_rfl) (fun K' hK => ?_)
  go_simp
  clear hH
  obtain ⟨w12, hw12⟩ : ∃ v, v = w11.alloc (.cells #[.bool h2, .slice s2 t2 u2, .bool h3, .slice s3 t3 u3] 28) := ⟨_, rfl⟩
  have bb12 : Below w11.heap.size w11 w12 := by rw [hw12]; exact below1 _ _
  obtain ⟨qb12, hq12⟩ : ∃ v, v = w11.heap.size := ⟨_, rfl⟩
  have U12 : BoxL w12 w.heap.size qb12 [.bool h2, .slice s2 t2 u2, .bool h3, .slice s3 t3 u3] := by rw [hw12, hq12]; exact (BoxL.made w11 [.bool h2, .slice s2 t2 u2, .bool h3, .slice s3 t3 u3] 28).mono B11.size
  have sn12 : w12.heap.size = qb12 + 1 := by rw [hw12, hq12]; simp
  rw [← hw12]
  (try rw [← hq12])
  clear hw12
  have B12 := B11.trans (bb12.mono B11.size)
  have Y12 := Y11.below bb12 (Nat.le_refl _)
  have R12 := R11.below bb12 (Nat.le_refl _)
  have op12 := ownsW.below op11 bb12 (Nat.le_refl _)
  have P12 := P11.below bb12 (Nat.le_refl _)
  have oq12 := ownsW.below oq11 bb12 (Nat.le_refl _)
  have Q12 := Q11.below bb12 (Nat.le_refl _)
  have oe12 := ownsW.below oe11 bb12 (Nat.le_refl _)
  have oc12 := ownsW.below oc11 bb12 (Nat.le_refl _)
  have od12 := ownsW.below od11 bb12 (Nat.le_refl _)
  have lt_Y_U : w.heap.size + 1 < qb12 := by rw [hq12]; exact Y11.hi
  have lt_R_U : w.heap.size + 1 + 1 < qb12 := by rw [hq12]; exact R11.hi
  have ap_U_op : Apart (blkW (.agg #[.bool h4, .slice s4 t4 u4])) [qb12] := apart_one fun q hq => by have h1 := (ownsW.ltb op11 q hq).2; omega
  have lt_P_U : qb2 < qb12 := by rw [hq12]; exact P11.hi
  have ap_U_oq : Apart (blkW (.agg #[.bool h5, .slice s5 t5 u5])) [qb12] := apart_one fun q hq => by have h1 := (ownsW.ltb oq11 q hq).2; omega
  have lt_Q_U : qb4 < qb12 := by rw [hq12]; exact Q11.hi
  have ap_U_oe : Apart (blkW (.agg #[.bool h6, .slice s6 t6 u6])) [qb12] := apart_one fun q hq => by have h1 := (ownsW.ltb oe11 q hq).2; omega
  have ap_U_oc : Apart (blkW (.agg #[.bool h2, .slice s2 t2 u2])) [qb12] := apart_one fun q hq => by have h1 := (ownsW.ltb oc11 q hq).2; omega
  have ap_U_od : Apart (blkW (.agg #[.bool h3, .slice s3 t3 u3])) [qb12] := apart_one fun q hq => by have h1 := (ownsW.ltb od11 q hq).2; omega
  clear B11 Y11 R11 op11 P11 oq11 Q11 oe11 oc11 od11 bb12 hq12 sn12
  have hH : (fun W : World => W.cell? ⟨qb2, 0, none⟩ = some (.bool h4) ∧ W.cell? ⟨qb2, 1, none⟩ = some (.slice s4 t4 u4) ∧ W.cell? ⟨qb4, 0, none⟩ = some (.bool h5) ∧ W.cell? ⟨qb4, 1, none⟩ = some (.slice s5 t5 u5) ∧ W.cell? ⟨w.heap.size + 1, 0, none⟩ = some (.bool gx2) ∧ W.cell? ⟨w.heap.size + 1, 1, none⟩ = some (.slice ax2 nx2 cx2) ∧ W.cell? ⟨w.heap.size + 1, 2, none⟩ = some (.bool gy2) ∧ W.cell? ⟨w.heap.size + 1, 3, none⟩ = some (.slice ay2 ny2 cy2)) w12 := ⟨P12.c 0 _ rfl, P12.c 1 _ rfl, Q12.c 0 _ rfl, Q12.c 1 _ rfl, Y12.c 0 _ rfl, Y12.c 1 _ rfl, Y12.c 2 _ rfl, Y12.c 3 _ rfl⟩
  refine hK _ _ hH ?_
  clear hK
  refine oneH 19 rfl (by kernel_rfl) (fun K' hK => ?_)
  go_simp
  refine (most2 qb12 _ _ _ _ _ _ _ _ d2 d3 _ (U12.mono (Nat.zero_le _)) oc12.row od12.row (by omega) (by omega)).mono ?_
  rintro e w13 ⟨v, rfl, -, hU, bb13⟩
  have of : ownsW w13 w.heap.size v (mkW (moreI d2 d3)) := by
    rcases hU.out with ⟨e1, e2⟩ | ⟨e1, e2⟩
    · rw [e1, e2]; exact ownsW.below oc12 bb13 (Nat.le_refl _)
    · rw [e1, e2]; exact ownsW.below od12 bb13 (Nat.le_refl _)
  have ap_Y_of : Apart (blkW v) [w.heap.size + 1] := by rcases hU.out with ⟨e1, e2⟩ | ⟨e1, e2⟩; (rw [e1]; exact ap_Y_oc); (rw [e1]; exact ap_Y_od)
  have ap_R_of : Apart (blkW v) [w.heap.size + 1 + 1] := by rcases hU.out with ⟨e1, e2⟩ | ⟨e1, e2⟩; (rw [e1]; exact ap_R_oc); (rw [e1]; exact ap_R_od)
  have ap_P_of : Apart (blkW v) [qb2] := by rcases hU.out with ⟨e1, e2⟩ | ⟨e1, e2⟩; (rw [e1]; exact ap_P_oc); (rw [e1]; exact ap_P_od)
  have ap_Q_of : Apart (blkW v) [qb4] := by rcases hU.out with ⟨e1, e2⟩ | ⟨e1, e2⟩; (rw [e1]; exact ap_Q_oc); (rw [e1]; exact ap_Q_od)
  have ap_U_of : Apart (blkW v) [qb12] := by rcases hU.out with ⟨e1, e2⟩ | ⟨e1, e2⟩; (rw [e1]; exact ap_U_oc); (rw [e1]; exact ap_U_od)
  have ap_of_op : Apart (blkW v) (blkW (.agg #[.bool h4, .slice s4 t4 u4])) := by rcases hU.out with ⟨e1, e2⟩ | ⟨e1, e2⟩; (rw [e1]; exact ap_oc_op); (rw [e1]; exact ap_od_op)
  have ap_of_oq : Apart (blkW v) (blkW (.agg #[.bool h5, .slice s5 t5 u5])) := by rcases hU.out with ⟨e1, e2⟩ | ⟨e1, e2⟩; (rw [e1]; exact ap_oc_oq); (rw [e1]; exact ap_od_oq)
  have ap_oe_of : Apart (blkW (.agg #[.bool h6, .slice s6 t6 u6])) (blkW v) := by rcases hU.out with ⟨e1, e2⟩ | ⟨e1, e2⟩; (rw [e1]; exact (Apart.symm ap_oc_oe)); (rw [e1]; exact (Apart.symm ap_od_oe))
  have B13 := B12.trans (bb13.mono B12.size)
  have Y13 := Y12.below bb13 (Nat.le_refl _)
  have R13 := R12.below bb13 (Nat.le_refl _)
  have op13 := ownsW.below op12 bb13 (Nat.le_refl _)
  have P13 := P12.below bb13 (Nat.le_refl _)
  have oq13 := ownsW.below oq12 bb13 (Nat.le_refl _)
  have Q13 := Q12.below bb13 (Nat.le_refl _)
  have oe13 := ownsW.below oe12 bb13 (Nat.le_refl _)
  have oc13 := ownsW.below oc12 bb13 (Nat.le_refl _)
  have od13 := ownsW.below od12 bb13 (Nat.le_refl _)
  have U13 := U12.below bb13 (Nat.le_refl _)
  clear B12 Y12 R12 op12 P12 oq12 Q12 oe12 oc12 od12 U12 bb13 hH
  have of13 := of
  clear of
  obtain ⟨h7, s7, t7, u7, rfl⟩ := of13.cell
  clear hU
  clear oc13 od13 U13
  have hH : (fun W : World => W.cell? ⟨qb2, 0, none⟩ = some (.bool h4) ∧ W.cell? ⟨qb2, 1, none⟩ = some (.slice s4 t4 u4) ∧ W.cell? ⟨qb4, 0, none⟩ = some (.bool h5) ∧ W.cell? ⟨qb4, 1, none⟩ = some (.slice s5 t5 u5) ∧ W.cell? ⟨w.heap.size + 1, 0, none⟩ = some (.bool gx2) ∧ W.cell? ⟨w.heap.size + 1, 1, none⟩ = some (.slice ax2 nx2 cx2) ∧ W.cell? ⟨w.heap.size + 1, 2, none⟩ = some (.bool gy2) ∧ W.cell? ⟨w.heap.size + 1, 3, none⟩ = some (.slice ay2 ny2 cy2)) w13 := ⟨P13.c 0 _ rfl, P13.c 1 _ rfl, Q13.c 0 _ rfl, Q13.c 1 _ rfl, Y13.c 0 _ rfl, Y13.c 1 _ rfl, Y13.c 2 _ rfl, Y13.c 3 _ rfl⟩
  refine hK _ _ hH ?_
  clear hK
  refine takeH 20 (some 37) (.agg #[.bool h6, .slice s6 t6 u6, .bool h7, .slice s7 t7 u7]) rfl rfl (by kernel_rfl) (by kernel_rfl) (by kernel_rfl) (fun _ _ _ h => h) (Or.inl ⟨rfl, fun W hW => by go_simp⟩) hH ?_
  simp only [Act.put, List.setIfInBounds_toArray, List.set_cons_zero, List.set_cons_succ]
  have c_R_0 := R13.c 0 _ rfl
  have f_R_0 := R13.f 0 _ rfl
  have c_R_1 := R13.c 1 _ rfl
  have f_R_1 := R13.f 1 _ rfl
  have c_R_2 := R13.c 2 _ rfl
  have f_R_2 := R13.f 2 _ rfl
  have c_R_3 := R13.c 3 _ rfl
  have f_R_3 := R13.f 3 _ rfl
  refine oneH 21 rfl (by kernel_rfl) (fun K' hK => ?_)
  go_simp
  obtain ⟨w14, hw14⟩ : ∃ v, v = (((w13.setCell ⟨w.heap.size + 1 + 1, 0, none⟩ (.bool h6)).setCell ⟨w.heap.size + 1 + 1, 1, none⟩ (.slice s6 t6 u6)).setCell ⟨w.heap.size + 1 + 1, 2, none⟩ (.bool h7)).setCell ⟨w.heap.size + 1 + 1, 3, none⟩ (.slice s7 t7 u7) := ⟨_, rfl⟩
  have tn14 : Tn [w.heap.size + 1 + 1] w13 w14 := by rw [hw14]; exact ((((tnL w13 (w.heap.size + 1 + 1) 0 (.bool h6)).trans (tnL _ (w.heap.size + 1 + 1) 1 (.slice s6 t6 u6))).trans (tnL _ (w.heap.size + 1 + 1) 2 (.bool h7))).trans (tnL _ (w.heap.size + 1 + 1) 3 (.slice s7 t7 u7)))
  have R14 : BoxL w14 w.heap.size (w.heap.size + 1 + 1) [.bool h6, .slice s6 t6 u6, .bool h7, .slice s7 t7 u7] := by rw [hw14]; exact ((((R13.set 0 (.bool h6) (by simp)).set 1 (.slice s6 t6 u6) (by simp)).set 2 (.bool h7) (by simp)).set 3 (.slice s7 t7 u7) (by simp))
  have blo14 := R13.lo
  rw [← hw14]
  clear hw14
  have B14 := tn14.below B13 B13.size (fun q hq => by simp at hq; omega)
  have Y14 := Y13.tn tn14 (not_one (by omega))
  have op14 := ownsW.tn op13 tn14 ap_R_op
  have P14 := P13.tn tn14 (not_one (by omega))
  have oq14 := ownsW.tn oq13 tn14 ap_R_oq
  have Q14 := Q13.tn tn14 (not_one (by omega))
  have oe14 := ownsW.tn oe13 tn14 ap_R_oe
  have of14 := ownsW.tn of13 tn14 ap_R_of
  clear B13 Y13 R13 op13 P13 oq13 Q13 oe13 of13 tn14 blo14
  clear c_R_0 f_R_0 c_R_1 f_R_1 c_R_2 f_R_2 c_R_3 f_R_3
  clear hH
  have hH : (fun W : World => W.cell? ⟨qb2, 0, none⟩ = some (.bool h4) ∧ W.cell? ⟨qb2, 1, none⟩ = some (.slice s4 t4 u4) ∧ W.cell? ⟨qb4, 0, none⟩ = some (.bool h5) ∧ W.cell? ⟨qb4, 1, none⟩ = some (.slice s5 t5 u5) ∧ W.cell? ⟨w.heap.size + 1, 0, none⟩ = some (.bool gx2) ∧ W.cell? ⟨w.heap.size + 1, 1, none⟩ = some (.slice ax2 nx2 cx2) ∧ W.cell? ⟨w.heap.size + 1, 2, none⟩ = some (.bool gy2) ∧ W.cell? ⟨w.heap.size + 1, 3, none⟩ = some (.slice ay2 ny2 cy2)) w14 := ⟨P14.c 0 _ rfl, P14.c 1 _ rfl, Q14.c 0 _ rfl, Q14.c 1 _ rfl, Y14.c 0 _ rfl, Y14.c 1 _ rfl, Y14.c 2 _ rfl, Y14.c 3 _ rfl⟩
  refine hK _ _ hH ?_
  clear hK
  clear hH
  refine wpAnyH_done (by kernel_rfl) ?_ _
  clear kA kB kC kD
  clear P14 Q14 Y14 op14 oq14
  have c_R_0 := R14.c 0 _ rfl
  have c_R_1 := R14.c 1 _ rfl
  have c_R_2 := R14.c 2 _ rfl
  have c_R_3 := R14.c 3 _ rfl
  go_wp2
  (try simp only [Exit.inBlock, Exit.then])
  refine bodyPost_ret (v := .agg #[.bool h6, .slice s6 t6 u6, .bool h7, .slice s7 t7 u7]) ?_ rfl ⟨_, rfl, ownsV.mk oe14 of14 ap_oe_of, B14⟩
  rw [results_cell1 rfl]
  go_simp

end Go.Proofs.Ytjelmbkngjlefaa
