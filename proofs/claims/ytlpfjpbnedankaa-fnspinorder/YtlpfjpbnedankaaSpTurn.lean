/- A Spin's step inside, by its contract. -/
import Derived.Test.YtlpfjpbnedankaaSpStepM
import Derived.Test.YtlpfjpbnedankaaSgShift
import Derived.Test.YtlpfjpbnedankaaSOf
import Derived.Test.YtlpfjpbnedankaaSWhole
import Derived.Test.YtlpfjpbnedankaaFB
namespace Go.Proofs.Ytlpfjpbnedankaa
open Go.RowKit
set_option linter.unusedSimpArgs false
set_option linter.unusedVariables false

set_option maxRecDepth 20000 in
set_option maxHeartbeats 6400000 in
theorem turned_c (p q : Nat) (x y : Int) (k : Nat) (d : Int) (w : World) (sp : SG w p x) (sq : SG w q y) (m1 : (limbs x.natAbs).length ≤ 48) (m2 : (limbs y.natAbs).length ≤ 48) (hk : k ≤ 30) (hd : d = 1 ∨ d = -1) :
    Calls Try.prog 80 #[.agg #[.pointer (some ⟨p, 0, none⟩), .pointer (some ⟨q, 0, none⟩)], .int .i64 k, .int .i64 d] w fun e w' => ∃ c c2 : Nat, e = .returned (.agg #[.pointer (some ⟨c, 0, none⟩), .pointer (some ⟨c2, 0, none⟩)]) ∧ SG w' c (stX x y k d) ∧ SG w' c2 (stY x y k d) ∧ Below w.heap.size w w' ∧ w.heap.size ≤ c ∧ w.heap.size ≤ c2 := by
  have e1 := up30_len x k m1 hk
  have e2 := up30_len y k m2 hk
  have e3 := one_len d hd
  have e4 := one_mul_len x d hd
  have e5 := one_mul_len y d hd
  have b1 : -9223372036854775808 ≤ d := by omega
  have b2 : d ≤ 9223372036854775807 := by omega
  have kO := fun W => sOf d W b1 b2
  have kU := fun W h => sgUp p x k W h (by omega) (by omega)
  have kV := fun W h => sgUp q y k W h (by omega) (by omega)
  have kM := fun m W h1 h2 => sgTimes q m y d W h1 h2 (by omega)
  have kN := fun m W h1 h2 => sgTimes p m x d W h1 h2 (by omega)
  have kS := fun u v W h1 h2 => sgMinus u v (x * 2 ^ k) (y * d) W h1 h2 (by omega) (by omega)
  have kT := fun u v W h1 h2 => sgPlus u v (y * 2 ^ k) (x * d) W h1 h2 (by omega) (by omega)
  unfold stX stY
  clear m1 m2 hk hd e1 e2 e3 e4 e5 b1 b2
  generalize x * 2 ^ k - y * d = X at *
  generalize y * 2 ^ k + x * d = Y at *
  generalize x * 2 ^ k = y0 at *
  generalize y * 2 ^ k = y1 at *
  generalize x * d = y2 at *
  generalize y * d = y3 at *
  have B0_0 : Below w.heap.size w w := Below.refl _ _
  obtain ⟨ww1, hww1⟩ : ∃ v, v = w.alloc (.cells #[.pointer (some ⟨p, 0, none⟩), .pointer (some ⟨q, 0, none⟩)] 63) := ⟨_, rfl⟩
  have sz1 : ww1.heap.size = w.heap.size + 1 := by rw [hww1]; simp
  have bw1 : Below w.heap.size w ww1 := by rw [hww1]; exact below1 _ _
  have B0_1 := B0_0.trans (bw1.mono B0_0.size)
  have X0_1 : BoxL ww1 w.heap.size w.heap.size [.pointer (some ⟨p, 0, none⟩), .pointer (some ⟨q, 0, none⟩)] := by rw [hww1]; have h := BoxL.made w [.pointer (some ⟨p, 0, none⟩), .pointer (some ⟨q, 0, none⟩)] 63; exact h
  obtain ⟨ww2, hww2⟩ : ∃ v, v = ww1.alloc (.cells #[.pointer none, .pointer none] 63) := ⟨_, rfl⟩
  have sz2 : ww2.heap.size = w.heap.size + 1 + 1 := by rw [hww2]; simp [sz1]
  have bw2 : Below ww1.heap.size ww1 ww2 := by rw [hww2]; exact below1 _ _
  have B0_2 := B0_1.trans (bw2.mono B0_1.size)
  have X0_2 := X0_1.below bw2 (Nat.le_refl _)
  have R0_2 : BoxL ww2 (w.heap.size + 1) (w.heap.size + 1) [.pointer none, .pointer none] := by rw [hww2]; have h := BoxL.made ww1 [.pointer none, .pointer none] 63; rw [sz1] at h; exact h
  have X0 := X0_2
  have R0 := R0_2.mono (by omega : w.heap.size ≤ w.heap.size + 1)
  have B0 := B0_2
  have sp0 := sp.below B0 sp.lt
  have lt_sp := sp.lt
  have sq0 := sq.below B0 sq.lt
  have lt_sq := sq.lt
  clear B0_0 B0_1 B0_2 bw1 bw2 X0_1 X0_2 R0_2
  clear sp sq
  go_enter Try.func80, Try.ntmps80
  go_wp2_with fail
  have hvv : (w.alloc (.cells #[.pointer (some ⟨p, 0, none⟩), .pointer (some ⟨q, 0, none⟩)] 63)).alloc (.cells #[.pointer none, .pointer none] 63) = ww2 := by rw [hww2]; rw [hww1]
  rw [hvv]
  clear hvv hww1 hww2 sz1
  clear ww1
  have hz0 : w.heap.size + 2 ≤ ww2.heap.size := by omega
  clear sz2
  refine (kO _).mono ?_
  rintro e w1 ⟨m, rfl, hc, sm, bb1⟩
  have ge_sm : w.heap.size ≤ m := Nat.le_trans B0.size hc
  have ne_X_sm : ¬ (m = w.heap.size) := fun e => by have h1 := X0.hi; omega
  have ne_R_sm : ¬ (m = w.heap.size + 1) := fun e => by have h1 := R0.hi; omega
  clear hc
  have B1 := B0.trans (bb1.mono B0.size)
  have X1 := X0.below bb1 (Nat.le_refl _)
  have R1 := R0.below bb1 (Nat.le_refl _)
  have sp1 := sp0.below bb1 sp0.lt
  have sq1 := sq0.below bb1 sq0.lt
  clear B0 X0 R0 sp0 sq0 bb1
  have sm1 := sm
  clear sm
  clear kO
  go_wp2_with fail
  obtain ⟨w2, hw2⟩ : ∃ v, Hid (v = w1.drew) := ⟨_, rfl⟩
  have bd : Below w1.heap.size w1 w2 := by rw [hw2.out]; exact (Below.refl w1.heap.size w1).drew
  have B2 := B1.trans (bd.mono B1.size)
  have X2 := X1.below bd (Nat.le_refl _)
  have R2 := R1.below bd (Nat.le_refl _)
  have sp2 := sp1.below bd sp1.lt
  have sq2 := sq1.below bd sq1.lt
  have sm2 := sm1.below bd sm1.lt
  clear B1 X1 R1 sp1 sq1 sm1 bd
  have hH : (fun W : World => W.cell? ⟨w.heap.size, 0, none⟩ = some (.pointer (some ⟨p, 0, none⟩)) ∧ W.cell? ⟨w.heap.size, 1, none⟩ = some (.pointer (some ⟨q, 0, none⟩))) w2 := ⟨X2.c 0 _ rfl, X2.c 1 _ rfl⟩
  refine wp_region_held_drew (S := fun W => W.cell? ⟨w.heap.size, 0, none⟩ = some (.pointer (some ⟨p, 0, none⟩)) ∧ W.cell? ⟨w.heap.size, 1, none⟩ = some (.pointer (some ⟨q, 0, none⟩))) (by kernel_rfl) (by rw [← hw2.out]; exact hH) ?_
  intro _
  rw [← hw2.out]
  clear hw2
  refine takeH 0 (some 10) (.pointer (some ⟨w.heap.size, 0, none⟩)) rfl rfl (by kernel_rfl) (by kernel_rfl) (by kernel_rfl) (fun _ _ _ h => h) (Or.inl ⟨rfl, fun W hW => by go_simp⟩) hH ?_
  simp only [Act.put, List.setIfInBounds_toArray, List.set_cons_zero, List.set_cons_succ]
  refine takeH 1 (some 11) (.pointer (some ⟨p, 0, none⟩)) rfl rfl (by kernel_rfl) (by kernel_rfl) (by kernel_rfl) (fun _ _ _ h => h) (Or.inl ⟨rfl, fun W hW => by obtain ⟨l0, l1⟩ := hW; go_simp⟩) hH ?_
  simp only [Act.put, List.setIfInBounds_toArray, List.set_cons_zero, List.set_cons_succ]
  refine takeH 2 (some 12) (.int .i64 k) rfl rfl (by kernel_rfl) (by kernel_rfl) (by kernel_rfl) (fun _ _ _ h => h) (Or.inl ⟨rfl, fun W hW => by go_simp⟩) hH ?_
  simp only [Act.put, List.setIfInBounds_toArray, List.set_cons_zero, List.set_cons_succ]
  refine takeH 4 (some 14) (.pointer (some ⟨w.heap.size, 1, none⟩)) rfl rfl (by kernel_rfl) (by kernel_rfl) (by kernel_rfl) (fun _ _ _ h => h) (Or.inl ⟨rfl, fun W hW => by go_simp⟩) hH ?_
  simp only [Act.put, List.setIfInBounds_toArray, List.set_cons_zero, List.set_cons_succ]
  refine takeH 5 (some 15) (.pointer (some ⟨q, 0, none⟩)) rfl rfl (by kernel_rfl) (by kernel_rfl) (by kernel_rfl) (fun _ _ _ h => h) (Or.inl ⟨rfl, fun W hW => by obtain ⟨l0, l1⟩ := hW; go_simp⟩) hH ?_
  simp only [Act.put, List.setIfInBounds_toArray, List.set_cons_zero, List.set_cons_succ]
  refine takeH 6 (some 16) (.pointer (some ⟨m, 0, none⟩)) rfl rfl (by kernel_rfl) (by kernel_rfl) (by kernel_rfl) (fun _ _ _ h => h) (Or.inl ⟨rfl, fun W hW => by go_simp⟩) hH ?_
  simp only [Act.put, List.setIfInBounds_toArray, List.set_cons_zero, List.set_cons_succ]
  refine takeH 9 (some 19) (.pointer (some ⟨w.heap.size, 1, none⟩)) rfl rfl (by kernel_rfl) (by kernel_rfl) (by kernel_rfl) (fun _ _ _ h => h) (Or.inl ⟨rfl, fun W hW => by go_simp⟩) hH ?_
  simp only [Act.put, List.setIfInBounds_toArray, List.set_cons_zero, List.set_cons_succ]
  refine takeH 10 (some 20) (.pointer (some ⟨q, 0, none⟩)) rfl rfl (by kernel_rfl) (by kernel_rfl) (by kernel_rfl) (fun _ _ _ h => h) (Or.inl ⟨rfl, fun W hW => by obtain ⟨l0, l1⟩ := hW; go_simp⟩) hH ?_
  simp only [Act.put, List.setIfInBounds_toArray, List.set_cons_zero, List.set_cons_succ]
  refine takeH 11 (some 21) (.int .i64 k) rfl rfl (by kernel_rfl) (by kernel_rfl) (by kernel_rfl) (fun _ _ _ h => h) (Or.inl ⟨rfl, fun W hW => by go_simp⟩) hH ?_
  simp only [Act.put, List.setIfInBounds_toArray, List.set_cons_zero, List.set_cons_succ]
  refine takeH 13 (some 23) (.pointer (some ⟨w.heap.size, 0, none⟩)) rfl rfl (by kernel_rfl) (by kernel_rfl) (by kernel_rfl) (fun _ _ _ h => h) (Or.inl ⟨rfl, fun W hW => by go_simp⟩) hH ?_
  simp only [Act.put, List.setIfInBounds_toArray, List.set_cons_zero, List.set_cons_succ]
  refine takeH 14 (some 24) (.pointer (some ⟨p, 0, none⟩)) rfl rfl (by kernel_rfl) (by kernel_rfl) (by kernel_rfl) (fun _ _ _ h => h) (Or.inl ⟨rfl, fun W hW => by obtain ⟨l0, l1⟩ := hW; go_simp⟩) hH ?_
  simp only [Act.put, List.setIfInBounds_toArray, List.set_cons_zero, List.set_cons_succ]
  refine takeH 15 (some 25) (.pointer (some ⟨m, 0, none⟩)) rfl rfl (by kernel_rfl) (by kernel_rfl) (by kernel_rfl) (fun _ _ _ h => h) (Or.inl ⟨rfl, fun W hW => by go_simp⟩) hH ?_
  simp only [Act.put, List.setIfInBounds_toArray, List.set_cons_zero, List.set_cons_succ]
  refine oneH 3 rfl (by kernel_rfl) (fun K' hK => ?_)
  go_simp
  refine (kU _ sp2).mono ?_
  rintro e w3 ⟨c1, rfl, hc, sa, bb3⟩
  have ge_sa : w.heap.size ≤ c1 := Nat.le_trans B2.size hc
  have ne_X_sa : ¬ (c1 = w.heap.size) := fun e => by have h1 := X2.hi; omega
  have ne_R_sa : ¬ (c1 = w.heap.size + 1) := fun e => by have h1 := R2.hi; omega
  clear hc
  have B3 := B2.trans (bb3.mono B2.size)
  have X3 := X2.below bb3 (Nat.le_refl _)
  have R3 := R2.below bb3 (Nat.le_refl _)
  have sp3 := sp2.below bb3 sp2.lt
  have sq3 := sq2.below bb3 sq2.lt
  have sm3 := sm2.below bb3 sm2.lt
  clear B2 X2 R2 sp2 sq2 sm2 bb3 hH
  have sa3 := sa
  clear sa
  have hH : (fun W : World => W.cell? ⟨w.heap.size, 0, none⟩ = some (.pointer (some ⟨p, 0, none⟩)) ∧ W.cell? ⟨w.heap.size, 1, none⟩ = some (.pointer (some ⟨q, 0, none⟩))) w3 := ⟨X3.c 0 _ rfl, X3.c 1 _ rfl⟩
  refine hK _ _ hH ?_
  clear hK
  refine oneH 7 rfl (by kernel_rfl) (fun K' hK => ?_)
  go_simp
  refine (kM _ _ sq3 sm3).mono ?_
  rintro e w4 ⟨c2, rfl, hc, sb, bb4⟩
  have ge_sb : w.heap.size ≤ c2 := Nat.le_trans B3.size hc
  have ne_X_sb : ¬ (c2 = w.heap.size) := fun e => by have h1 := X3.hi; omega
  have ne_R_sb : ¬ (c2 = w.heap.size + 1) := fun e => by have h1 := R3.hi; omega
  clear hc
  have B4 := B3.trans (bb4.mono B3.size)
  have X4 := X3.below bb4 (Nat.le_refl _)
  have R4 := R3.below bb4 (Nat.le_refl _)
  have sp4 := sp3.below bb4 sp3.lt
  have sq4 := sq3.below bb4 sq3.lt
  have sm4 := sm3.below bb4 sm3.lt
  have sa4 := sa3.below bb4 sa3.lt
  clear B3 X3 R3 sp3 sq3 sm3 sa3 bb4 hH
  have sb4 := sb
  clear sb
  have hH : (fun W : World => W.cell? ⟨w.heap.size, 0, none⟩ = some (.pointer (some ⟨p, 0, none⟩)) ∧ W.cell? ⟨w.heap.size, 1, none⟩ = some (.pointer (some ⟨q, 0, none⟩))) w4 := ⟨X4.c 0 _ rfl, X4.c 1 _ rfl⟩
  refine hK _ _ hH ?_
  clear hK
  refine oneH 8 rfl (by kernel_rfl) (fun K' hK => ?_)
  go_simp
  refine (kS _ _ _ sa4 sb4).mono ?_
  rintro e w5 ⟨c3, rfl, hc, sc, bb5⟩
  have ge_sc : w.heap.size ≤ c3 := Nat.le_trans B4.size hc
  have ne_X_sc : ¬ (c3 = w.heap.size) := fun e => by have h1 := X4.hi; omega
  have ne_R_sc : ¬ (c3 = w.heap.size + 1) := fun e => by have h1 := R4.hi; omega
  clear hc
  have B5 := B4.trans (bb5.mono B4.size)
  have X5 := X4.below bb5 (Nat.le_refl _)
  have R5 := R4.below bb5 (Nat.le_refl _)
  have sp5 := sp4.below bb5 sp4.lt
  have sq5 := sq4.below bb5 sq4.lt
  have sm5 := sm4.below bb5 sm4.lt
  have sa5 := sa4.below bb5 sa4.lt
  have sb5 := sb4.below bb5 sb4.lt
  clear B4 X4 R4 sp4 sq4 sm4 sa4 sb4 bb5 hH
  have sc5 := sc
  clear sc
  clear sa5 sb5
  have hH : (fun W : World => W.cell? ⟨w.heap.size, 0, none⟩ = some (.pointer (some ⟨p, 0, none⟩)) ∧ W.cell? ⟨w.heap.size, 1, none⟩ = some (.pointer (some ⟨q, 0, none⟩))) w5 := ⟨X5.c 0 _ rfl, X5.c 1 _ rfl⟩
  refine hK _ _ hH ?_
  clear hK
  refine oneH 12 rfl (by kernel_rfl) (fun K' hK => ?_)
  go_simp
  refine (kV _ sq5).mono ?_
  rintro e w6 ⟨c4, rfl, hc, sd, bb6⟩
  have ge_sd : w.heap.size ≤ c4 := Nat.le_trans B5.size hc
  have ne_X_sd : ¬ (c4 = w.heap.size) := fun e => by have h1 := X5.hi; omega
  have ne_R_sd : ¬ (c4 = w.heap.size + 1) := fun e => by have h1 := R5.hi; omega
  clear hc
  have B6 := B5.trans (bb6.mono B5.size)
  have X6 := X5.below bb6 (Nat.le_refl _)
  have R6 := R5.below bb6 (Nat.le_refl _)
  have sp6 := sp5.below bb6 sp5.lt
  have sq6 := sq5.below bb6 sq5.lt
  have sm6 := sm5.below bb6 sm5.lt
  have sc6 := sc5.below bb6 sc5.lt
  clear B5 X5 R5 sp5 sq5 sm5 sc5 bb6 hH
  have sd6 := sd
  clear sd
  have hH : (fun W : World => W.cell? ⟨w.heap.size, 0, none⟩ = some (.pointer (some ⟨p, 0, none⟩)) ∧ W.cell? ⟨w.heap.size, 1, none⟩ = some (.pointer (some ⟨q, 0, none⟩))) w6 := ⟨X6.c 0 _ rfl, X6.c 1 _ rfl⟩
  refine hK _ _ hH ?_
  clear hK
  refine oneH 16 rfl (by kernel_rfl) (fun K' hK => ?_)
  go_simp
  refine (kN _ _ sp6 sm6).mono ?_
  rintro e w7 ⟨c5, rfl, hc, se, bb7⟩
  have ge_se : w.heap.size ≤ c5 := Nat.le_trans B6.size hc
  have ne_X_se : ¬ (c5 = w.heap.size) := fun e => by have h1 := X6.hi; omega
  have ne_R_se : ¬ (c5 = w.heap.size + 1) := fun e => by have h1 := R6.hi; omega
  clear hc
  have B7 := B6.trans (bb7.mono B6.size)
  have X7 := X6.below bb7 (Nat.le_refl _)
  have R7 := R6.below bb7 (Nat.le_refl _)
  have sp7 := sp6.below bb7 sp6.lt
  have sq7 := sq6.below bb7 sq6.lt
  have sm7 := sm6.below bb7 sm6.lt
  have sc7 := sc6.below bb7 sc6.lt
  have sd7 := sd6.below bb7 sd6.lt
  clear B6 X6 R6 sp6 sq6 sm6 sc6 sd6 bb7 hH
  have se7 := se
  clear se
  have hH : (fun W : World => W.cell? ⟨w.heap.size, 0, none⟩ = some (.pointer (some ⟨p, 0, none⟩)) ∧ W.cell? ⟨w.heap.size, 1, none⟩ = some (.pointer (some ⟨q, 0, none⟩))) w7 := ⟨X7.c 0 _ rfl, X7.c 1 _ rfl⟩
  refine hK _ _ hH ?_
  clear hK
  refine oneH 17 rfl (by kernel_rfl) (fun K' hK => ?_)
  go_simp
  refine (kT _ _ _ sd7 se7).mono ?_
  rintro e w8 ⟨c6, rfl, hc, sf, bb8⟩
  have ge_sf : w.heap.size ≤ c6 := Nat.le_trans B7.size hc
  have ne_X_sf : ¬ (c6 = w.heap.size) := fun e => by have h1 := X7.hi; omega
  have ne_R_sf : ¬ (c6 = w.heap.size + 1) := fun e => by have h1 := R7.hi; omega
  clear hc
  have B8 := B7.trans (bb8.mono B7.size)
  have X8 := X7.below bb8 (Nat.le_refl _)
  have R8 := R7.below bb8 (Nat.le_refl _)
  have sp8 := sp7.below bb8 sp7.lt
  have sq8 := sq7.below bb8 sq7.lt
  have sm8 := sm7.below bb8 sm7.lt
  have sc8 := sc7.below bb8 sc7.lt
  have sd8 := sd7.below bb8 sd7.lt
  have se8 := se7.below bb8 se7.lt
  clear B7 X7 R7 sp7 sq7 sm7 sc7 sd7 se7 bb8 hH
  have sf8 := sf
  clear sf
  clear sd8 se8
  have hH : (fun W : World => W.cell? ⟨w.heap.size, 0, none⟩ = some (.pointer (some ⟨p, 0, none⟩)) ∧ W.cell? ⟨w.heap.size, 1, none⟩ = some (.pointer (some ⟨q, 0, none⟩))) w8 := ⟨X8.c 0 _ rfl, X8.c 1 _ rfl⟩
  refine hK _ _ hH ?_
  clear hK
  refine takeH 18 (some 28) (.agg #[.pointer (some ⟨c3, 0, none⟩), .pointer (some ⟨c6, 0, none⟩)]) rfl rfl (by kernel_rfl) (by kernel_rfl) (by kernel_rfl) (fun _ _ _ h => h) (Or.inl ⟨rfl, fun W hW => by go_simp⟩) hH ?_
  simp only [Act.put, List.setIfInBounds_toArray, List.set_cons_zero, List.set_cons_succ]
  have c_R_0 := R8.c 0 _ rfl
  have f_R_0 := R8.f 0 _ rfl
  have c_R_1 := R8.c 1 _ rfl
  have f_R_1 := R8.f 1 _ rfl
  refine oneH 19 rfl (by kernel_rfl) (fun K' hK => ?_)
  go_simp
  obtain ⟨w9, hw9⟩ : ∃ v, v = (w8.setCell ⟨w.heap.size + 1, 0, none⟩ (.pointer (some ⟨c3, 0, none⟩))).setCell ⟨w.heap.size + 1, 1, none⟩ (.pointer (some ⟨c6, 0, none⟩)) := ⟨_, rfl⟩
  have tn9 : Tn [w.heap.size + 1] w8 w9 := by rw [hw9]; exact ((tnL w8 (w.heap.size + 1) 0 (.pointer (some ⟨c3, 0, none⟩))).trans (tnL _ (w.heap.size + 1) 1 (.pointer (some ⟨c6, 0, none⟩))))
  have R9 : BoxL w9 w.heap.size (w.heap.size + 1) [.pointer (some ⟨c3, 0, none⟩), .pointer (some ⟨c6, 0, none⟩)] := by rw [hw9]; exact ((R8.set 0 (.pointer (some ⟨c3, 0, none⟩)) (by simp)).set 1 (.pointer (some ⟨c6, 0, none⟩)) (by simp))
  have blo9 := R8.lo
  rw [← hw9]
  clear hw9
  have B9 := tn9.below B8 B8.size (fun q hq => by simp at hq; omega)
  have X9 := X8.tn tn9 (not_one (by omega))
  have sp9 := sp8.tnL tn9 (not_one (by omega))
  have sq9 := sq8.tnL tn9 (not_one (by omega))
  have sm9 := sm8.tnL tn9 (not_one (by omega))
  have sc9 := sc8.tnL tn9 (not_one (by omega))
  have sf9 := sf8.tnL tn9 (not_one (by omega))
  clear B8 X8 R8 sp8 sq8 sm8 sc8 sf8 tn9 blo9
  clear c_R_0 f_R_0 c_R_1 f_R_1
  clear hH
  have hH : (fun W : World => W.cell? ⟨w.heap.size, 0, none⟩ = some (.pointer (some ⟨p, 0, none⟩)) ∧ W.cell? ⟨w.heap.size, 1, none⟩ = some (.pointer (some ⟨q, 0, none⟩))) w9 := ⟨X9.c 0 _ rfl, X9.c 1 _ rfl⟩
  refine hK _ _ hH ?_
  clear hK
  clear hH
  refine wpAnyH_done (by kernel_rfl) ?_ _
  clear kU kV kM kN kS kT
  have c_R_0 := R9.c 0 _ rfl
  have c_R_1 := R9.c 1 _ rfl
  go_wp2
  (try simp only [Exit.inBlock, Exit.then])
  refine bodyPost_ret (v := .agg #[.pointer (some ⟨c3, 0, none⟩), .pointer (some ⟨c6, 0, none⟩)]) ?_ rfl ⟨_, _, rfl, sc9, sf9, B9, ge_sc, ge_sf⟩
  rw [results_cell1 rfl]
  go_simp

set_option maxRecDepth 20000 in
set_option maxHeartbeats 6400000 in
theorem stepI_c (p q : Nat) (x y kk : Int) (k : Nat) (d : Int) (w : World) (sp : SG w p x) (sq : SG w q y) (m1 : (limbs x.natAbs).length ≤ 48) (m2 : (limbs y.natAbs).length ≤ 48) (hk : k ≤ 30) (hd : d = 1 ∨ d = -1) (h0 : 0 ≤ kk) (h1 : kk ≤ 2000) :
    Calls Try.prog 44 #[.agg #[.pointer (some ⟨p, 0, none⟩), .pointer (some ⟨q, 0, none⟩), .int .i64 kk], .int .i64 k, .int .i64 d] w fun e w' => ∃ c c2 : Nat, e = .returned (.agg #[.pointer (some ⟨c, 0, none⟩), .pointer (some ⟨c2, 0, none⟩), .int .i64 (kk + k)]) ∧ SG w' c (stX x y k d) ∧ SG w' c2 (stY x y k d) ∧ Below w.heap.size w w' ∧ w.heap.size ≤ c ∧ w.heap.size ≤ c2 := by
  have kT := fun W h1 h2 => turned_c p q x y k d W h1 h2 m1 m2 hk hd
  have hs1 : 0 ≤ kk + (k : Int) := by omega
  have hs2 : kk + (k : Int) ≤ 2030 := by omega
  have hwk : IntKind.i64.wrap (kk + (k : Int)) = kk + (k : Int) := by rw [IntKind.wrap_i64]; omega
  clear m1 m2 hd hk hs1 hs2
  have B0_0 : Below w.heap.size w w := Below.refl _ _
  obtain ⟨ww1, hww1⟩ : ∃ v, v = w.alloc (.cells #[.pointer (some ⟨p, 0, none⟩), .pointer (some ⟨q, 0, none⟩), .int .i64 kk] 65) := ⟨_, rfl⟩
  have sz1 : ww1.heap.size = w.heap.size + 1 := by rw [hww1]; simp
  have bw1 : Below w.heap.size w ww1 := by rw [hww1]; exact below1 _ _
  have B0_1 := B0_0.trans (bw1.mono B0_0.size)
  have X0_1 : BoxL ww1 w.heap.size w.heap.size [.pointer (some ⟨p, 0, none⟩), .pointer (some ⟨q, 0, none⟩), .int .i64 kk] := by rw [hww1]; have h := BoxL.made w [.pointer (some ⟨p, 0, none⟩), .pointer (some ⟨q, 0, none⟩), .int .i64 kk] 65; exact h
  obtain ⟨ww2, hww2⟩ : ∃ v, v = ww1.alloc (.cells #[.pointer none, .pointer none, .int .i64 0] 65) := ⟨_, rfl⟩
  have sz2 : ww2.heap.size = w.heap.size + 1 + 1 := by rw [hww2]; simp [sz1]
  have bw2 : Below ww1.heap.size ww1 ww2 := by rw [hww2]; exact below1 _ _
  have B0_2 := B0_1.trans (bw2.mono B0_1.size)
  have X0_2 := X0_1.below bw2 (Nat.le_refl _)
  have R0_2 : BoxL ww2 (w.heap.size + 1) (w.heap.size + 1) [.pointer none, .pointer none, .int .i64 0] := by rw [hww2]; have h := BoxL.made ww1 [.pointer none, .pointer none, .int .i64 0] 65; rw [sz1] at h; exact h
  have X0 := X0_2
  have R0 := R0_2.mono (by omega : w.heap.size ≤ w.heap.size + 1)
  have B0 := B0_2
  have sp0 := sp.below B0 sp.lt
  have lt_sp := sp.lt
  have sq0 := sq.below B0 sq.lt
  have lt_sq := sq.lt
  clear B0_0 B0_1 B0_2 bw1 bw2 X0_1 X0_2 R0_2
  clear sp sq
  go_enter Try.func44, Try.ntmps44
  go_wp2_with fail
  have hvv : (w.alloc (.cells #[.pointer (some ⟨p, 0, none⟩), .pointer (some ⟨q, 0, none⟩), .int .i64 kk] 65)).alloc (.cells #[.pointer none, .pointer none, .int .i64 0] 65) = ww2 := by rw [hww2]; rw [hww1]
  rw [hvv]
  clear hvv hww1 hww2 sz1
  clear ww1
  have hz0 : w.heap.size + 2 ≤ ww2.heap.size := by omega
  clear sz2
  obtain ⟨w1, hw1⟩ : ∃ v, Hid (v = ww2.drew) := ⟨_, rfl⟩
  have bd : Below ww2.heap.size ww2 w1 := by rw [hw1.out]; exact (Below.refl ww2.heap.size ww2).drew
  have B1 := B0.trans (bd.mono B0.size)
  have X1 := X0.below bd (Nat.le_refl _)
  have R1 := R0.below bd (Nat.le_refl _)
  have sp1 := sp0.below bd sp0.lt
  have sq1 := sq0.below bd sq0.lt
  clear B0 X0 R0 sp0 sq0 bd
  have hH : (fun W : World => W.cell? ⟨w.heap.size, 0, none⟩ = some (.pointer (some ⟨p, 0, none⟩)) ∧ W.cell? ⟨w.heap.size, 1, none⟩ = some (.pointer (some ⟨q, 0, none⟩)) ∧ W.cell? ⟨w.heap.size, 2, none⟩ = some (.int .i64 kk)) w1 := ⟨X1.c 0 _ rfl, X1.c 1 _ rfl, X1.c 2 _ rfl⟩
  refine wp_region_held_drew (S := fun W => W.cell? ⟨w.heap.size, 0, none⟩ = some (.pointer (some ⟨p, 0, none⟩)) ∧ W.cell? ⟨w.heap.size, 1, none⟩ = some (.pointer (some ⟨q, 0, none⟩)) ∧ W.cell? ⟨w.heap.size, 2, none⟩ = some (.int .i64 kk)) (by kernel_rfl) (by rw [← hw1.out]; exact hH) ?_
  intro _
  rw [← hw1.out]
  clear hw1
  refine takeH 0 (some 7) (.pointer (some ⟨w.heap.size, 0, none⟩)) rfl rfl (by kernel_rfl) (by kernel_rfl) (by kernel_rfl) (fun _ _ _ h => h) (Or.inl ⟨rfl, fun W hW => by go_simp⟩) hH ?_
  simp only [Act.put, List.setIfInBounds_toArray, List.set_cons_zero, List.set_cons_succ]
  refine takeH 1 (some 8) (.agg #[.pointer (some ⟨p, 0, none⟩), .pointer (some ⟨q, 0, none⟩)]) rfl rfl (by kernel_rfl) (by kernel_rfl) (by kernel_rfl) (fun _ _ _ h => h) (Or.inl ⟨rfl, fun W hW => by obtain ⟨l0, l1, l2⟩ := hW; go_simp⟩) hH ?_
  simp only [Act.put, List.setIfInBounds_toArray, List.set_cons_zero, List.set_cons_succ]
  refine takeH 2 (some 9) (.int .i64 k) rfl rfl (by kernel_rfl) (by kernel_rfl) (by kernel_rfl) (fun _ _ _ h => h) (Or.inl ⟨rfl, fun W hW => by go_simp⟩) hH ?_
  simp only [Act.put, List.setIfInBounds_toArray, List.set_cons_zero, List.set_cons_succ]
  refine takeH 3 (some 10) (.int .i64 d) rfl rfl (by kernel_rfl) (by kernel_rfl) (by kernel_rfl) (fun _ _ _ h => h) (Or.inl ⟨rfl, fun W hW => by go_simp⟩) hH ?_
  simp only [Act.put, List.setIfInBounds_toArray, List.set_cons_zero, List.set_cons_succ]
  refine takeH 5 (some 12) (.pointer (some ⟨w.heap.size, 2, none⟩)) rfl rfl (by kernel_rfl) (by kernel_rfl) (by kernel_rfl) (fun _ _ _ h => h) (Or.inl ⟨rfl, fun W hW => by go_simp⟩) hH ?_
  simp only [Act.put, List.setIfInBounds_toArray, List.set_cons_zero, List.set_cons_succ]
  refine takeH 6 (some 13) (.int .i64 kk) rfl rfl (by kernel_rfl) (by kernel_rfl) (by kernel_rfl) (fun _ _ _ h => h) (Or.inl ⟨rfl, fun W hW => by obtain ⟨l0, l1, l2⟩ := hW; go_simp⟩) hH ?_
  simp only [Act.put, List.setIfInBounds_toArray, List.set_cons_zero, List.set_cons_succ]
  refine takeH 7 (some 14) (.int .i64 k) rfl rfl (by kernel_rfl) (by kernel_rfl) (by kernel_rfl) (fun _ _ _ h => h) (Or.inl ⟨rfl, fun W hW => by go_simp⟩) hH ?_
  simp only [Act.put, List.setIfInBounds_toArray, List.set_cons_zero, List.set_cons_succ]
  refine takeH 8 (some 15) (.int .i64 (kk + (k : Int))) rfl rfl (by kernel_rfl) (by kernel_rfl) (by kernel_rfl) (fun _ _ _ h => h) (Or.inl ⟨rfl, fun W hW => by go_simp⟩) hH ?_
  simp only [Act.put, List.setIfInBounds_toArray, List.set_cons_zero, List.set_cons_succ]
  refine oneH 4 rfl (by kernel_rfl) (fun K' hK => ?_)
  go_simp
  refine (kT _ sp1 sq1).mono ?_
  rintro e w2 ⟨c, c2, rfl, sa, sb, bb2, hc, hd⟩
  have ge_sa : w.heap.size ≤ c := Nat.le_trans B1.size hc
  have ne_X_sa : ¬ (c = w.heap.size) := fun e => by have h1 := X1.hi; omega
  have ne_R_sa : ¬ (c = w.heap.size + 1) := fun e => by have h1 := R1.hi; omega
  clear hc
  have ge_sb : w.heap.size ≤ c2 := Nat.le_trans B1.size hd
  have ne_X_sb : ¬ (c2 = w.heap.size) := fun e => by have h1 := X1.hi; omega
  have ne_R_sb : ¬ (c2 = w.heap.size + 1) := fun e => by have h1 := R1.hi; omega
  clear hd
  have B2 := B1.trans (bb2.mono B1.size)
  have X2 := X1.below bb2 (Nat.le_refl _)
  have R2 := R1.below bb2 (Nat.le_refl _)
  have sp2 := sp1.below bb2 sp1.lt
  have sq2 := sq1.below bb2 sq1.lt
  clear B1 X1 R1 sp1 sq1 bb2 hH
  have sa2 := sa
  clear sa
  have sb2 := sb
  clear sb
  have hH : (fun W : World => W.cell? ⟨w.heap.size, 0, none⟩ = some (.pointer (some ⟨p, 0, none⟩)) ∧ W.cell? ⟨w.heap.size, 1, none⟩ = some (.pointer (some ⟨q, 0, none⟩)) ∧ W.cell? ⟨w.heap.size, 2, none⟩ = some (.int .i64 kk)) w2 := ⟨X2.c 0 _ rfl, X2.c 1 _ rfl, X2.c 2 _ rfl⟩
  refine hK _ _ hH ?_
  clear hK
  refine takeH 9 (some 16) (.agg #[.pointer (some ⟨c, 0, none⟩), .pointer (some ⟨c2, 0, none⟩), .int .i64 (kk + (k : Int))]) rfl rfl (by kernel_rfl) (by kernel_rfl) (by kernel_rfl) (fun _ _ _ h => h) (Or.inl ⟨rfl, fun W hW => by go_simp⟩) hH ?_
  simp only [Act.put, List.setIfInBounds_toArray, List.set_cons_zero, List.set_cons_succ]
  have c_R_0 := R2.c 0 _ rfl
  have f_R_0 := R2.f 0 _ rfl
  have c_R_1 := R2.c 1 _ rfl
  have f_R_1 := R2.f 1 _ rfl
  have c_R_2 := R2.c 2 _ rfl
  have f_R_2 := R2.f 2 _ rfl
  refine oneH 10 rfl (by kernel_rfl) (fun K' hK => ?_)
  go_simp
  obtain ⟨w3, hw3⟩ : ∃ v, v = ((w2.setCell ⟨w.heap.size + 1, 0, none⟩ (.pointer (some ⟨c, 0, none⟩))).setCell ⟨w.heap.size + 1, 1, none⟩ (.pointer (some ⟨c2, 0, none⟩))).setCell ⟨w.heap.size + 1, 2, none⟩ (.int .i64 (kk + (k : Int))) := ⟨_, rfl⟩
  have tn3 : Tn [w.heap.size + 1] w2 w3 := by rw [hw3]; exact (((tnL w2 (w.heap.size + 1) 0 (.pointer (some ⟨c, 0, none⟩))).trans (tnL _ (w.heap.size + 1) 1 (.pointer (some ⟨c2, 0, none⟩)))).trans (tnL _ (w.heap.size + 1) 2 (.int .i64 (kk + (k : Int)))))
  have R3 : BoxL w3 w.heap.size (w.heap.size + 1) [.pointer (some ⟨c, 0, none⟩), .pointer (some ⟨c2, 0, none⟩), .int .i64 (kk + (k : Int))] := by rw [hw3]; exact (((R2.set 0 (.pointer (some ⟨c, 0, none⟩)) (by simp)).set 1 (.pointer (some ⟨c2, 0, none⟩)) (by simp)).set 2 (.int .i64 (kk + (k : Int))) (by simp))
  have blo3 := R2.lo
  rw [← hw3]
  clear hw3
  have B3 := tn3.below B2 B2.size (fun q hq => by simp at hq; omega)
  have X3 := X2.tn tn3 (not_one (by omega))
  have sp3 := sp2.tnL tn3 (not_one (by omega))
  have sq3 := sq2.tnL tn3 (not_one (by omega))
  have sa3 := sa2.tnL tn3 (not_one (by omega))
  have sb3 := sb2.tnL tn3 (not_one (by omega))
  clear B2 X2 R2 sp2 sq2 sa2 sb2 tn3 blo3
  clear c_R_0 f_R_0 c_R_1 f_R_1 c_R_2 f_R_2
  clear hH
  have hH : (fun W : World => W.cell? ⟨w.heap.size, 0, none⟩ = some (.pointer (some ⟨p, 0, none⟩)) ∧ W.cell? ⟨w.heap.size, 1, none⟩ = some (.pointer (some ⟨q, 0, none⟩)) ∧ W.cell? ⟨w.heap.size, 2, none⟩ = some (.int .i64 kk)) w3 := ⟨X3.c 0 _ rfl, X3.c 1 _ rfl, X3.c 2 _ rfl⟩
  refine hK _ _ hH ?_
  clear hK
  clear hH
  refine wpAnyH_done (by kernel_rfl) ?_ _
  clear kT
  have c_R_0 := R3.c 0 _ rfl
  have c_R_1 := R3.c 1 _ rfl
  have c_R_2 := R3.c 2 _ rfl
  go_wp2
  (try simp only [Exit.inBlock, Exit.then])
  refine bodyPost_ret (v := .agg #[.pointer (some ⟨c, 0, none⟩), .pointer (some ⟨c2, 0, none⟩), .int .i64 (kk + (k : Int))]) ?_ rfl ⟨_, _, rfl, sa3, sb3, B3, ge_sa, ge_sb⟩
  rw [results_cell1 rfl]
  go_simp

theorem raisedAt_b (p : Int) (w : World) : Calls Try.prog 72 #[.int .i64 p] w fun e w' => e = .returned (.bool (decide (0 ≤ p ∧ p ≤ 2000))) ∧ Below w.heap.size w w' :=
  (raisedAt p w).mono fun _ _ ⟨h1, h2⟩ => ⟨h1, h2 ▸ Below.refl _ _⟩
/-- What a spinning point comes to as a Spin. -/
def spinF (x y kk : Int) : Ph × Bool := if (fitW x).2 = true ∧ (fitW y).2 = true ∧ 0 ≤ kk ∧ kk ≤ 2000 then ((((fitW x).1, (fitW y).1), kk), true) else ((((false, []), (false, [])), 0), false)
theorem nilP (w : World) (base : Nat) : ownsP w base (.agg #[.bool false, .slice none 0 0, .bool false, .slice none 0 0, .int .i64 0]) (((false, []), (false, [])), 0) :=
  ⟨_, _, rfl, ⟨rfl, .inl ⟨rfl, rfl⟩⟩, ⟨rfl, .inl ⟨rfl, rfl⟩⟩, fun k hk => by simp [blkI, Value.ownBlock] at hk⟩
set_option maxRecDepth 20000 in
set_option maxHeartbeats 6400000 in
theorem spin_c (p q : Nat) (x y kk : Int) (w : World) (sp : SG w p x) (sq : SG w q y) :
    Calls Try.prog 45 #[.agg #[.pointer (some ⟨p, 0, none⟩), .pointer (some ⟨q, 0, none⟩), .int .i64 kk]] w fun e w' => ∃ v, e = .returned (.tuple #[v, .bool (spinF x y kk).2]) ∧ ownsP w' w.heap.size v (spinF x y kk).1 ∧ Below w.heap.size w w' := by
  have kP := fun W h => sWhole p x W h
  have kQ := fun W h => sWhole q y W h
  have kR := fun W => raisedAt_b kk W
  have HF : Hid (spinF x y kk = if (fitW x).2 = true ∧ (fitW y).2 = true ∧ 0 ≤ kk ∧ kk ≤ 2000 then ((((fitW x).1, (fitW y).1), kk), true) else ((((false, []), (false, [])), 0), false)) := rfl
  generalize spinF x y kk = rr at *
  generalize fitW x = f1 at *
  generalize fitW y = f2 at *
  obtain ⟨a1, b1⟩ := f1
  obtain ⟨a2, b2⟩ := f2
  by_cases c0 : b1 = true
  case neg =>
    rw [if_neg (fun h => c0 h.1)] at HF
    obtain rfl : b1 = false := by simpa using c0
    clear kR
    clear c0
    have B0_0 : Below w.heap.size w w := Below.refl _ _
    obtain ⟨ww1, hww1⟩ : ∃ v, v = w.alloc (.cells #[.pointer (some ⟨p, 0, none⟩), .pointer (some ⟨q, 0, none⟩), .int .i64 kk] 65) := ⟨_, rfl⟩
    have sz1 : ww1.heap.size = w.heap.size + 1 := by rw [hww1]; simp
    have bw1 : Below w.heap.size w ww1 := by rw [hww1]; exact below1 _ _
    have B0_1 := B0_0.trans (bw1.mono B0_0.size)
    have X0_1 : BoxL ww1 w.heap.size w.heap.size [.pointer (some ⟨p, 0, none⟩), .pointer (some ⟨q, 0, none⟩), .int .i64 kk] := by rw [hww1]; have h := BoxL.made w [.pointer (some ⟨p, 0, none⟩), .pointer (some ⟨q, 0, none⟩), .int .i64 kk] 65; exact h
    obtain ⟨ww2, hww2⟩ : ∃ v, v = ww1.alloc (.cells #[.bool false, .slice none 0 0, .bool false, .slice none 0 0, .int .i64 0] 34) := ⟨_, rfl⟩
    have sz2 : ww2.heap.size = w.heap.size + 1 + 1 := by rw [hww2]; simp [sz1]
    have bw2 : Below ww1.heap.size ww1 ww2 := by rw [hww2]; exact below1 _ _
    have B0_2 := B0_1.trans (bw2.mono B0_1.size)
    have X0_2 := X0_1.below bw2 (Nat.le_refl _)
    have R0_2 : BoxL ww2 (w.heap.size + 1) (w.heap.size + 1) [.bool false, .slice none 0 0, .bool false, .slice none 0 0, .int .i64 0] := by rw [hww2]; have h := BoxL.made ww1 [.bool false, .slice none 0 0, .bool false, .slice none 0 0, .int .i64 0] 34; rw [sz1] at h; exact h
    have X0 := X0_2
    have R0 := R0_2.mono (by omega : w.heap.size ≤ w.heap.size + 1)
    have B0 := B0_2
    have sp0 := sp.below B0 sp.lt
    have lt_sp := sp.lt
    have sq0 := sq.below B0 sq.lt
    have lt_sq := sq.lt
    clear B0_0 B0_1 B0_2 bw1 bw2 X0_1 X0_2 R0_2
    clear sp sq
    go_enter Try.func45, Try.ntmps45
    go_wp2_with fail
    have hvv : (w.alloc (.cells #[.pointer (some ⟨p, 0, none⟩), .pointer (some ⟨q, 0, none⟩), .int .i64 kk] 65)).alloc (.cells #[.bool false, .slice none 0 0, .bool false, .slice none 0 0, .int .i64 0] 34) = ww2 := by rw [hww2]; rw [hww1]
    rw [hvv]
    clear hvv hww1 hww2 sz1
    clear ww1
    have hz0 : w.heap.size + 2 ≤ ww2.heap.size := by omega
    clear sz2
    refine (kP _ sp0).mono ?_
    rintro e w1 ⟨v, rfl, oa, bb1⟩
    obtain ⟨h1, s1, t1, u1, rfl⟩ := oa.cell
    have ap_X_oa : Apart (blkW (.agg #[.bool h1, .slice s1 t1 u1])) [w.heap.size] := apart_one fun q hq => by have h1 := (ownsW.ltb oa q hq).1; have h2 := X0.hi; omega
    have ap_R_oa : Apart (blkW (.agg #[.bool h1, .slice s1 t1 u1])) [w.heap.size + 1] := apart_one fun q hq => by have h1 := (ownsW.ltb oa q hq).1; have h2 := R0.hi; omega
    replace oa := ownsW_mono oa B0.size
    have B1 := B0.trans (bb1.mono B0.size)
    have X1 := X0.below bb1 (Nat.le_refl _)
    have R1 := R0.below bb1 (Nat.le_refl _)
    have sp1 := sp0.below bb1 sp0.lt
    have sq1 := sq0.below bb1 sq0.lt
    clear B0 X0 R0 sp0 sq0 bb1
    have oa1 := oa
    clear oa
    obtain ⟨w2, hw2⟩ : ∃ v, Hid (v = w1.alloc (.cells #[.bool h1, .slice s1 t1 u1] 27)) := ⟨_, rfl⟩
    have bb2 : Below w1.heap.size w1 w2 := by rw [hw2.out]; exact below1 _ _
    obtain ⟨qb2, hq2⟩ : ∃ v, Hid (v = w1.heap.size) := ⟨_, rfl⟩
    have P2 : BoxL w2 w.heap.size qb2 [.bool h1, .slice s1 t1 u1] := by rw [hw2.out, hq2.out]; exact (BoxL.made w1 [.bool h1, .slice s1 t1 u1] 27).mono B1.size
    have sn2 : w2.heap.size = qb2 + 1 := by rw [hw2.out, hq2.out]; simp
    have B2 := B1.trans (bb2.mono B1.size)
    have X2 := X1.below bb2 (Nat.le_refl _)
    have R2 := R1.below bb2 (Nat.le_refl _)
    have sp2 := sp1.below bb2 sp1.lt
    have sq2 := sq1.below bb2 sq1.lt
    have oa2 := ownsW.below oa1 bb2 (Nat.le_refl _)
    have lt_X_P : w.heap.size < qb2 := by rw [hq2.out]; exact X1.hi
    have lt_R_P : w.heap.size + 1 < qb2 := by rw [hq2.out]; exact R1.hi
    have ne_P_sp : ¬ (p = qb2) := fun e => by rw [hq2.out] at e; have h1 := sp1.lt; omega
    have ne_P_sq : ¬ (q = qb2) := fun e => by rw [hq2.out] at e; have h1 := sq1.lt; omega
    have ap_P_oa : Apart (blkW (.agg #[.bool h1, .slice s1 t1 u1])) [qb2] := apart_one fun q hq => by rw [hq2.out]; have h1 := (ownsW.ltb oa1 q hq).2; omega
    clear B1 X1 R1 sp1 sq1 oa1 bb2
    have c_X_0 := X2.c 0 _ rfl
    have c_X_1 := X2.c 1 _ rfl
    have c_X_2 := X2.c 2 _ rfl
    rw [hw2.out] at c_X_0
    rw [hw2.out] at c_X_1
    rw [hw2.out] at c_X_2
    replace sn2 : Hid (w2.heap.size = qb2 + 1) := sn2
    go_wp2_with fail
    replace sn2 := sn2.out
    rw [← hw2.out]
    (try rw [← hq2.out])
    (try rw [← sn2])
    clear c_X_0 c_X_1 c_X_2
    clear hw2 hq2 sn2
    refine (kQ _ sq2).mono ?_
    rintro e w3 ⟨v, rfl, ob, bb3⟩
    obtain ⟨h2, s2, t2, u2, rfl⟩ := ob.cell
    have ap_X_ob : Apart (blkW (.agg #[.bool h2, .slice s2 t2 u2])) [w.heap.size] := apart_one fun q hq => by have h1 := (ownsW.ltb ob q hq).1; have h2 := X2.hi; omega
    have ap_R_ob : Apart (blkW (.agg #[.bool h2, .slice s2 t2 u2])) [w.heap.size + 1] := apart_one fun q hq => by have h1 := (ownsW.ltb ob q hq).1; have h2 := R2.hi; omega
    have ap_P_ob : Apart (blkW (.agg #[.bool h2, .slice s2 t2 u2])) [qb2] := apart_one fun q hq => by have h1 := (ownsW.ltb ob q hq).1; have h2 := P2.hi; omega
    have ap_oa_ob : Apart (blkW (.agg #[.bool h1, .slice s1 t1 u1])) (blkW (.agg #[.bool h2, .slice s2 t2 u2])) := apart_of (fun k hk => (ownsW.ltb oa2 k hk).2) (fun k hk => (ownsW.ltb ob k hk).1)
    replace ob := ownsW_mono ob B2.size
    have B3 := B2.trans (bb3.mono B2.size)
    have X3 := X2.below bb3 (Nat.le_refl _)
    have R3 := R2.below bb3 (Nat.le_refl _)
    have sp3 := sp2.below bb3 sp2.lt
    have sq3 := sq2.below bb3 sq2.lt
    have oa3 := ownsW.below oa2 bb3 (Nat.le_refl _)
    have P3 := P2.below bb3 (Nat.le_refl _)
    clear B2 X2 R2 sp2 sq2 oa2 P2 bb3
    have ob3 := ob
    clear ob
    clear kP kQ
    clear sp3 sq3
    clear oa3 ob3 X3 P3
    obtain ⟨y1, hy1⟩ : ∃ v, v = w3.alloc (.cells #[.bool h2, .slice s2 t2 u2] 27) := ⟨_, rfl⟩
    have by1 : Below w3.heap.size w3 y1 := by rw [hy1]; exact below1 _ _
    have Ry1 := R3.below by1 (Nat.le_refl _)
    have By1 := B3.trans (by1.mono B3.size)
    clear by1
    have hlt : w.heap.size + 1 < w3.heap.size := R3.hi
    have c_R_0 := Ry1.c 0 _ rfl
    have f_R_0 := Ry1.f 0 _ rfl
    have c_R_1 := Ry1.c 1 _ rfl
    have f_R_1 := Ry1.f 1 _ rfl
    have c_R_2 := Ry1.c 2 _ rfl
    have f_R_2 := Ry1.f 2 _ rfl
    have c_R_3 := Ry1.c 3 _ rfl
    have f_R_3 := Ry1.f 3 _ rfl
    have c_R_4 := Ry1.c 4 _ rfl
    have f_R_4 := Ry1.f 4 _ rfl
    have d_R_0 := R3.c 0 _ rfl
    have g_R_0 := R3.f 0 _ rfl
    have d_R_1 := R3.c 1 _ rfl
    have g_R_1 := R3.f 1 _ rfl
    have d_R_2 := R3.c 2 _ rfl
    have g_R_2 := R3.f 2 _ rfl
    have d_R_3 := R3.c 3 _ rfl
    have g_R_3 := R3.f 3 _ rfl
    have d_R_4 := R3.c 4 _ rfl
    have g_R_4 := R3.f 4 _ rfl
    have HB0 := (((((B3.setCell (p := ⟨w.heap.size + 1, 0, none⟩) (by show w.heap.size ≤ w.heap.size + 1; omega) (.bool false)).setCell (p := ⟨w.heap.size + 1, 1, none⟩) (by show w.heap.size ≤ w.heap.size + 1; omega) (.slice none 0 0)).setCell (p := ⟨w.heap.size + 1, 2, none⟩) (by show w.heap.size ≤ w.heap.size + 1; omega) (.bool false)).setCell (p := ⟨w.heap.size + 1, 3, none⟩) (by show w.heap.size ≤ w.heap.size + 1; omega) (.slice none 0 0)).setCell (p := ⟨w.heap.size + 1, 4, none⟩) (by show w.heap.size ≤ w.heap.size + 1; omega) (.int .i64 0))
    have HB : Hid (Below w.heap.size w _) := HB0.alloc HB0.size (.cells #[.bool h2, .slice s2 t2 u2] 27)
    clear HB0
    clear B3
    subst hy1
    clear By1 Ry1 R3
    go_wp2
    (try simp only [Exit.inBlock, Exit.then])
    refine bodyPost_ret (v := .tuple #[.agg #[.bool false, .slice none 0 0, .bool false, .slice none 0 0, .int .i64 0], .bool false]) ?_ rfl ⟨_, by rw [HF.out], by rw [HF.out]; exact nilP _ _, HB.out⟩
    rw [results_cell_tmp rfl]
    go_simp
  subst c0
  by_cases c1 : b2 = true
  case neg =>
    rw [if_neg (fun h => c1 h.2.1)] at HF
    obtain rfl : b2 = false := by simpa using c1
    clear kR
    clear c1
    have B0_0 : Below w.heap.size w w := Below.refl _ _
    obtain ⟨ww1, hww1⟩ : ∃ v, v = w.alloc (.cells #[.pointer (some ⟨p, 0, none⟩), .pointer (some ⟨q, 0, none⟩), .int .i64 kk] 65) := ⟨_, rfl⟩
    have sz1 : ww1.heap.size = w.heap.size + 1 := by rw [hww1]; simp
    have bw1 : Below w.heap.size w ww1 := by rw [hww1]; exact below1 _ _
    have B0_1 := B0_0.trans (bw1.mono B0_0.size)
    have X0_1 : BoxL ww1 w.heap.size w.heap.size [.pointer (some ⟨p, 0, none⟩), .pointer (some ⟨q, 0, none⟩), .int .i64 kk] := by rw [hww1]; have h := BoxL.made w [.pointer (some ⟨p, 0, none⟩), .pointer (some ⟨q, 0, none⟩), .int .i64 kk] 65; exact h
    obtain ⟨ww2, hww2⟩ : ∃ v, v = ww1.alloc (.cells #[.bool false, .slice none 0 0, .bool false, .slice none 0 0, .int .i64 0] 34) := ⟨_, rfl⟩
    have sz2 : ww2.heap.size = w.heap.size + 1 + 1 := by rw [hww2]; simp [sz1]
    have bw2 : Below ww1.heap.size ww1 ww2 := by rw [hww2]; exact below1 _ _
    have B0_2 := B0_1.trans (bw2.mono B0_1.size)
    have X0_2 := X0_1.below bw2 (Nat.le_refl _)
    have R0_2 : BoxL ww2 (w.heap.size + 1) (w.heap.size + 1) [.bool false, .slice none 0 0, .bool false, .slice none 0 0, .int .i64 0] := by rw [hww2]; have h := BoxL.made ww1 [.bool false, .slice none 0 0, .bool false, .slice none 0 0, .int .i64 0] 34; rw [sz1] at h; exact h
    have X0 := X0_2
    have R0 := R0_2.mono (by omega : w.heap.size ≤ w.heap.size + 1)
    have B0 := B0_2
    have sp0 := sp.below B0 sp.lt
    have lt_sp := sp.lt
    have sq0 := sq.below B0 sq.lt
    have lt_sq := sq.lt
    clear B0_0 B0_1 B0_2 bw1 bw2 X0_1 X0_2 R0_2
    clear sp sq
    go_enter Try.func45, Try.ntmps45
    go_wp2_with fail
    have hvv : (w.alloc (.cells #[.pointer (some ⟨p, 0, none⟩), .pointer (some ⟨q, 0, none⟩), .int .i64 kk] 65)).alloc (.cells #[.bool false, .slice none 0 0, .bool false, .slice none 0 0, .int .i64 0] 34) = ww2 := by rw [hww2]; rw [hww1]
    rw [hvv]
    clear hvv hww1 hww2 sz1
    clear ww1
    have hz0 : w.heap.size + 2 ≤ ww2.heap.size := by omega
    clear sz2
    refine (kP _ sp0).mono ?_
    rintro e w1 ⟨v, rfl, oa, bb1⟩
    obtain ⟨h1, s1, t1, u1, rfl⟩ := oa.cell
    have ap_X_oa : Apart (blkW (.agg #[.bool h1, .slice s1 t1 u1])) [w.heap.size] := apart_one fun q hq => by have h1 := (ownsW.ltb oa q hq).1; have h2 := X0.hi; omega
    have ap_R_oa : Apart (blkW (.agg #[.bool h1, .slice s1 t1 u1])) [w.heap.size + 1] := apart_one fun q hq => by have h1 := (ownsW.ltb oa q hq).1; have h2 := R0.hi; omega
    replace oa := ownsW_mono oa B0.size
    have B1 := B0.trans (bb1.mono B0.size)
    have X1 := X0.below bb1 (Nat.le_refl _)
    have R1 := R0.below bb1 (Nat.le_refl _)
    have sp1 := sp0.below bb1 sp0.lt
    have sq1 := sq0.below bb1 sq0.lt
    clear B0 X0 R0 sp0 sq0 bb1
    have oa1 := oa
    clear oa
    obtain ⟨w2, hw2⟩ : ∃ v, Hid (v = w1.alloc (.cells #[.bool h1, .slice s1 t1 u1] 27)) := ⟨_, rfl⟩
    have bb2 : Below w1.heap.size w1 w2 := by rw [hw2.out]; exact below1 _ _
    obtain ⟨qb2, hq2⟩ : ∃ v, Hid (v = w1.heap.size) := ⟨_, rfl⟩
    have P2 : BoxL w2 w.heap.size qb2 [.bool h1, .slice s1 t1 u1] := by rw [hw2.out, hq2.out]; exact (BoxL.made w1 [.bool h1, .slice s1 t1 u1] 27).mono B1.size
    have sn2 : w2.heap.size = qb2 + 1 := by rw [hw2.out, hq2.out]; simp
    have B2 := B1.trans (bb2.mono B1.size)
    have X2 := X1.below bb2 (Nat.le_refl _)
    have R2 := R1.below bb2 (Nat.le_refl _)
    have sp2 := sp1.below bb2 sp1.lt
    have sq2 := sq1.below bb2 sq1.lt
    have oa2 := ownsW.below oa1 bb2 (Nat.le_refl _)
    have lt_X_P : w.heap.size < qb2 := by rw [hq2.out]; exact X1.hi
    have lt_R_P : w.heap.size + 1 < qb2 := by rw [hq2.out]; exact R1.hi
    have ne_P_sp : ¬ (p = qb2) := fun e => by rw [hq2.out] at e; have h1 := sp1.lt; omega
    have ne_P_sq : ¬ (q = qb2) := fun e => by rw [hq2.out] at e; have h1 := sq1.lt; omega
    have ap_P_oa : Apart (blkW (.agg #[.bool h1, .slice s1 t1 u1])) [qb2] := apart_one fun q hq => by rw [hq2.out]; have h1 := (ownsW.ltb oa1 q hq).2; omega
    clear B1 X1 R1 sp1 sq1 oa1 bb2
    have c_X_0 := X2.c 0 _ rfl
    have c_X_1 := X2.c 1 _ rfl
    have c_X_2 := X2.c 2 _ rfl
    rw [hw2.out] at c_X_0
    rw [hw2.out] at c_X_1
    rw [hw2.out] at c_X_2
    replace sn2 : Hid (w2.heap.size = qb2 + 1) := sn2
    go_wp2_with fail
    replace sn2 := sn2.out
    rw [← hw2.out]
    (try rw [← hq2.out])
    (try rw [← sn2])
    clear c_X_0 c_X_1 c_X_2
    clear hw2 hq2 sn2
    refine (kQ _ sq2).mono ?_
    rintro e w3 ⟨v, rfl, ob, bb3⟩
    obtain ⟨h2, s2, t2, u2, rfl⟩ := ob.cell
    have ap_X_ob : Apart (blkW (.agg #[.bool h2, .slice s2 t2 u2])) [w.heap.size] := apart_one fun q hq => by have h1 := (ownsW.ltb ob q hq).1; have h2 := X2.hi; omega
    have ap_R_ob : Apart (blkW (.agg #[.bool h2, .slice s2 t2 u2])) [w.heap.size + 1] := apart_one fun q hq => by have h1 := (ownsW.ltb ob q hq).1; have h2 := R2.hi; omega
    have ap_P_ob : Apart (blkW (.agg #[.bool h2, .slice s2 t2 u2])) [qb2] := apart_one fun q hq => by have h1 := (ownsW.ltb ob q hq).1; have h2 := P2.hi; omega
    have ap_oa_ob : Apart (blkW (.agg #[.bool h1, .slice s1 t1 u1])) (blkW (.agg #[.bool h2, .slice s2 t2 u2])) := apart_of (fun k hk => (ownsW.ltb oa2 k hk).2) (fun k hk => (ownsW.ltb ob k hk).1)
    replace ob := ownsW_mono ob B2.size
    have B3 := B2.trans (bb3.mono B2.size)
    have X3 := X2.below bb3 (Nat.le_refl _)
    have R3 := R2.below bb3 (Nat.le_refl _)
    have sp3 := sp2.below bb3 sp2.lt
    have sq3 := sq2.below bb3 sq2.lt
    have oa3 := ownsW.below oa2 bb3 (Nat.le_refl _)
    have P3 := P2.below bb3 (Nat.le_refl _)
    clear B2 X2 R2 sp2 sq2 oa2 P2 bb3
    have ob3 := ob
    clear ob
    clear kP kQ
    clear sp3 sq3
    clear oa3 ob3 X3 P3
    obtain ⟨y1, hy1⟩ : ∃ v, v = w3.alloc (.cells #[.bool h2, .slice s2 t2 u2] 27) := ⟨_, rfl⟩
    have by1 : Below w3.heap.size w3 y1 := by rw [hy1]; exact below1 _ _
    have Ry1 := R3.below by1 (Nat.le_refl _)
    have By1 := B3.trans (by1.mono B3.size)
    clear by1
    have hlt : w.heap.size + 1 < w3.heap.size := R3.hi
    have c_R_0 := Ry1.c 0 _ rfl
    have f_R_0 := Ry1.f 0 _ rfl
    have c_R_1 := Ry1.c 1 _ rfl
    have f_R_1 := Ry1.f 1 _ rfl
    have c_R_2 := Ry1.c 2 _ rfl
    have f_R_2 := Ry1.f 2 _ rfl
    have c_R_3 := Ry1.c 3 _ rfl
    have f_R_3 := Ry1.f 3 _ rfl
    have c_R_4 := Ry1.c 4 _ rfl
    have f_R_4 := Ry1.f 4 _ rfl
    have d_R_0 := R3.c 0 _ rfl
    have g_R_0 := R3.f 0 _ rfl
    have d_R_1 := R3.c 1 _ rfl
    have g_R_1 := R3.f 1 _ rfl
    have d_R_2 := R3.c 2 _ rfl
    have g_R_2 := R3.f 2 _ rfl
    have d_R_3 := R3.c 3 _ rfl
    have g_R_3 := R3.f 3 _ rfl
    have d_R_4 := R3.c 4 _ rfl
    have g_R_4 := R3.f 4 _ rfl
    have HB0 := (((((B3.setCell (p := ⟨w.heap.size + 1, 0, none⟩) (by show w.heap.size ≤ w.heap.size + 1; omega) (.bool false)).setCell (p := ⟨w.heap.size + 1, 1, none⟩) (by show w.heap.size ≤ w.heap.size + 1; omega) (.slice none 0 0)).setCell (p := ⟨w.heap.size + 1, 2, none⟩) (by show w.heap.size ≤ w.heap.size + 1; omega) (.bool false)).setCell (p := ⟨w.heap.size + 1, 3, none⟩) (by show w.heap.size ≤ w.heap.size + 1; omega) (.slice none 0 0)).setCell (p := ⟨w.heap.size + 1, 4, none⟩) (by show w.heap.size ≤ w.heap.size + 1; omega) (.int .i64 0))
    have HB : Hid (Below w.heap.size w _) := HB0.alloc HB0.size (.cells #[.bool h2, .slice s2 t2 u2] 27)
    clear HB0
    clear B3
    subst hy1
    clear By1 Ry1 R3
    go_wp2
    (try simp only [Exit.inBlock, Exit.then])
    refine bodyPost_ret (v := .tuple #[.agg #[.bool false, .slice none 0 0, .bool false, .slice none 0 0, .int .i64 0], .bool false]) ?_ rfl ⟨_, by rw [HF.out], by rw [HF.out]; exact nilP _ _, HB.out⟩
    rw [results_cell_tmp rfl]
    go_simp
  subst c1
  by_cases c2 : 0 ≤ kk ∧ kk ≤ 2000
  case neg =>
    rw [if_neg (fun h => c2 h.2.2)] at HF
    rw [decide_eq_false c2] at kR
    clear c2
    have B0_0 : Below w.heap.size w w := Below.refl _ _
    obtain ⟨ww1, hww1⟩ : ∃ v, v = w.alloc (.cells #[.pointer (some ⟨p, 0, none⟩), .pointer (some ⟨q, 0, none⟩), .int .i64 kk] 65) := ⟨_, rfl⟩
    have sz1 : ww1.heap.size = w.heap.size + 1 := by rw [hww1]; simp
    have bw1 : Below w.heap.size w ww1 := by rw [hww1]; exact below1 _ _
    have B0_1 := B0_0.trans (bw1.mono B0_0.size)
    have X0_1 : BoxL ww1 w.heap.size w.heap.size [.pointer (some ⟨p, 0, none⟩), .pointer (some ⟨q, 0, none⟩), .int .i64 kk] := by rw [hww1]; have h := BoxL.made w [.pointer (some ⟨p, 0, none⟩), .pointer (some ⟨q, 0, none⟩), .int .i64 kk] 65; exact h
    obtain ⟨ww2, hww2⟩ : ∃ v, v = ww1.alloc (.cells #[.bool false, .slice none 0 0, .bool false, .slice none 0 0, .int .i64 0] 34) := ⟨_, rfl⟩
    have sz2 : ww2.heap.size = w.heap.size + 1 + 1 := by rw [hww2]; simp [sz1]
    have bw2 : Below ww1.heap.size ww1 ww2 := by rw [hww2]; exact below1 _ _
    have B0_2 := B0_1.trans (bw2.mono B0_1.size)
    have X0_2 := X0_1.below bw2 (Nat.le_refl _)
    have R0_2 : BoxL ww2 (w.heap.size + 1) (w.heap.size + 1) [.bool false, .slice none 0 0, .bool false, .slice none 0 0, .int .i64 0] := by rw [hww2]; have h := BoxL.made ww1 [.bool false, .slice none 0 0, .bool false, .slice none 0 0, .int .i64 0] 34; rw [sz1] at h; exact h
    have X0 := X0_2
    have R0 := R0_2.mono (by omega : w.heap.size ≤ w.heap.size + 1)
    have B0 := B0_2
    have sp0 := sp.below B0 sp.lt
    have lt_sp := sp.lt
    have sq0 := sq.below B0 sq.lt
    have lt_sq := sq.lt
    clear B0_0 B0_1 B0_2 bw1 bw2 X0_1 X0_2 R0_2
    clear sp sq
    go_enter Try.func45, Try.ntmps45
    go_wp2_with fail
    have hvv : (w.alloc (.cells #[.pointer (some ⟨p, 0, none⟩), .pointer (some ⟨q, 0, none⟩), .int .i64 kk] 65)).alloc (.cells #[.bool false, .slice none 0 0, .bool false, .slice none 0 0, .int .i64 0] 34) = ww2 := by rw [hww2]; rw [hww1]
    rw [hvv]
    clear hvv hww1 hww2 sz1
    clear ww1
    have hz0 : w.heap.size + 2 ≤ ww2.heap.size := by omega
    clear sz2
    refine (kP _ sp0).mono ?_
    rintro e w1 ⟨v, rfl, oa, bb1⟩
    obtain ⟨h1, s1, t1, u1, rfl⟩ := oa.cell
    have ap_X_oa : Apart (blkW (.agg #[.bool h1, .slice s1 t1 u1])) [w.heap.size] := apart_one fun q hq => by have h1 := (ownsW.ltb oa q hq).1; have h2 := X0.hi; omega
    have ap_R_oa : Apart (blkW (.agg #[.bool h1, .slice s1 t1 u1])) [w.heap.size + 1] := apart_one fun q hq => by have h1 := (ownsW.ltb oa q hq).1; have h2 := R0.hi; omega
    replace oa := ownsW_mono oa B0.size
    have B1 := B0.trans (bb1.mono B0.size)
    have X1 := X0.below bb1 (Nat.le_refl _)
    have R1 := R0.below bb1 (Nat.le_refl _)
    have sp1 := sp0.below bb1 sp0.lt
    have sq1 := sq0.below bb1 sq0.lt
    clear B0 X0 R0 sp0 sq0 bb1
    have oa1 := oa
    clear oa
    obtain ⟨w2, hw2⟩ : ∃ v, Hid (v = w1.alloc (.cells #[.bool h1, .slice s1 t1 u1] 27)) := ⟨_, rfl⟩
    have bb2 : Below w1.heap.size w1 w2 := by rw [hw2.out]; exact below1 _ _
    obtain ⟨qb2, hq2⟩ : ∃ v, Hid (v = w1.heap.size) := ⟨_, rfl⟩
    have P2 : BoxL w2 w.heap.size qb2 [.bool h1, .slice s1 t1 u1] := by rw [hw2.out, hq2.out]; exact (BoxL.made w1 [.bool h1, .slice s1 t1 u1] 27).mono B1.size
    have sn2 : w2.heap.size = qb2 + 1 := by rw [hw2.out, hq2.out]; simp
    have B2 := B1.trans (bb2.mono B1.size)
    have X2 := X1.below bb2 (Nat.le_refl _)
    have R2 := R1.below bb2 (Nat.le_refl _)
    have sp2 := sp1.below bb2 sp1.lt
    have sq2 := sq1.below bb2 sq1.lt
    have oa2 := ownsW.below oa1 bb2 (Nat.le_refl _)
    have lt_X_P : w.heap.size < qb2 := by rw [hq2.out]; exact X1.hi
    have lt_R_P : w.heap.size + 1 < qb2 := by rw [hq2.out]; exact R1.hi
    have ne_P_sp : ¬ (p = qb2) := fun e => by rw [hq2.out] at e; have h1 := sp1.lt; omega
    have ne_P_sq : ¬ (q = qb2) := fun e => by rw [hq2.out] at e; have h1 := sq1.lt; omega
    have ap_P_oa : Apart (blkW (.agg #[.bool h1, .slice s1 t1 u1])) [qb2] := apart_one fun q hq => by rw [hq2.out]; have h1 := (ownsW.ltb oa1 q hq).2; omega
    clear B1 X1 R1 sp1 sq1 oa1 bb2
    have c_X_0 := X2.c 0 _ rfl
    have c_X_1 := X2.c 1 _ rfl
    have c_X_2 := X2.c 2 _ rfl
    rw [hw2.out] at c_X_0
    rw [hw2.out] at c_X_1
    rw [hw2.out] at c_X_2
    replace sn2 : Hid (w2.heap.size = qb2 + 1) := sn2
    go_wp2_with fail
    replace sn2 := sn2.out
    rw [← hw2.out]
    (try rw [← hq2.out])
    (try rw [← sn2])
    clear c_X_0 c_X_1 c_X_2
    clear hw2 hq2 sn2
    refine (kQ _ sq2).mono ?_
    rintro e w3 ⟨v, rfl, ob, bb3⟩
    obtain ⟨h2, s2, t2, u2, rfl⟩ := ob.cell
    have ap_X_ob : Apart (blkW (.agg #[.bool h2, .slice s2 t2 u2])) [w.heap.size] := apart_one fun q hq => by have h1 := (ownsW.ltb ob q hq).1; have h2 := X2.hi; omega
    have ap_R_ob : Apart (blkW (.agg #[.bool h2, .slice s2 t2 u2])) [w.heap.size + 1] := apart_one fun q hq => by have h1 := (ownsW.ltb ob q hq).1; have h2 := R2.hi; omega
    have ap_P_ob : Apart (blkW (.agg #[.bool h2, .slice s2 t2 u2])) [qb2] := apart_one fun q hq => by have h1 := (ownsW.ltb ob q hq).1; have h2 := P2.hi; omega
    have ap_oa_ob : Apart (blkW (.agg #[.bool h1, .slice s1 t1 u1])) (blkW (.agg #[.bool h2, .slice s2 t2 u2])) := apart_of (fun k hk => (ownsW.ltb oa2 k hk).2) (fun k hk => (ownsW.ltb ob k hk).1)
    replace ob := ownsW_mono ob B2.size
    have B3 := B2.trans (bb3.mono B2.size)
    have X3 := X2.below bb3 (Nat.le_refl _)
    have R3 := R2.below bb3 (Nat.le_refl _)
    have sp3 := sp2.below bb3 sp2.lt
    have sq3 := sq2.below bb3 sq2.lt
    have oa3 := ownsW.below oa2 bb3 (Nat.le_refl _)
    have P3 := P2.below bb3 (Nat.le_refl _)
    clear B2 X2 R2 sp2 sq2 oa2 P2 bb3
    have ob3 := ob
    clear ob
    clear kP kQ
    clear sp3 sq3
    obtain ⟨w4, hw4⟩ : ∃ v, Hid (v = w3.alloc (.cells #[.bool h2, .slice s2 t2 u2] 27)) := ⟨_, rfl⟩
    have bb4 : Below w3.heap.size w3 w4 := by rw [hw4.out]; exact below1 _ _
    obtain ⟨qb4, hq4⟩ : ∃ v, Hid (v = w3.heap.size) := ⟨_, rfl⟩
    have Q4 : BoxL w4 w.heap.size qb4 [.bool h2, .slice s2 t2 u2] := by rw [hw4.out, hq4.out]; exact (BoxL.made w3 [.bool h2, .slice s2 t2 u2] 27).mono B3.size
    have sn4 : w4.heap.size = qb4 + 1 := by rw [hw4.out, hq4.out]; simp
    have B4 := B3.trans (bb4.mono B3.size)
    have X4 := X3.below bb4 (Nat.le_refl _)
    have R4 := R3.below bb4 (Nat.le_refl _)
    have oa4 := ownsW.below oa3 bb4 (Nat.le_refl _)
    have P4 := P3.below bb4 (Nat.le_refl _)
    have ob4 := ownsW.below ob3 bb4 (Nat.le_refl _)
    have lt_X_Q : w.heap.size < qb4 := by rw [hq4.out]; exact X3.hi
    have lt_R_Q : w.heap.size + 1 < qb4 := by rw [hq4.out]; exact R3.hi
    have ap_Q_oa : Apart (blkW (.agg #[.bool h1, .slice s1 t1 u1])) [qb4] := apart_one fun q hq => by rw [hq4.out]; have h1 := (ownsW.ltb oa3 q hq).2; omega
    have lt_P_Q : qb2 < qb4 := by rw [hq4.out]; exact P3.hi
    have ap_Q_ob : Apart (blkW (.agg #[.bool h2, .slice s2 t2 u2])) [qb4] := apart_one fun q hq => by rw [hq4.out]; have h1 := (ownsW.ltb ob3 q hq).2; omega
    clear B3 X3 R3 oa3 P3 ob3 bb4
    have c_X_0 := X4.c 0 _ rfl
    have c_X_1 := X4.c 1 _ rfl
    have c_X_2 := X4.c 2 _ rfl
    rw [hw4.out] at c_X_0
    rw [hw4.out] at c_X_1
    rw [hw4.out] at c_X_2
    replace sn4 : Hid (w4.heap.size = qb4 + 1) := sn4
    go_wp2_with fail
    replace sn4 := sn4.out
    rw [← hw4.out]
    (try rw [← hq4.out])
    (try rw [← sn4])
    clear c_X_0 c_X_1 c_X_2
    clear hw4 hq4 sn4
    clear oa4 ob4
    refine (kR _).mono ?_
    rintro e w5 ⟨rfl, bb5⟩
    have B5 := B4.trans (bb5.mono B4.size)
    have X5 := X4.below bb5 (Nat.le_refl _)
    have R5 := R4.below bb5 (Nat.le_refl _)
    have P5 := P4.below bb5 (Nat.le_refl _)
    have Q5 := Q4.below bb5 (Nat.le_refl _)
    clear B4 X4 R4 P4 Q4 bb5
    clear kR
    clear X5 P5 Q5
    have c_R_0 := R5.c 0 _ rfl
    have f_R_0 := R5.f 0 _ rfl
    have c_R_1 := R5.c 1 _ rfl
    have f_R_1 := R5.f 1 _ rfl
    have c_R_2 := R5.c 2 _ rfl
    have f_R_2 := R5.f 2 _ rfl
    have c_R_3 := R5.c 3 _ rfl
    have f_R_3 := R5.f 3 _ rfl
    have c_R_4 := R5.c 4 _ rfl
    have f_R_4 := R5.f 4 _ rfl
    obtain ⟨w6, hw6⟩ : ∃ v, v = ((((w5.setCell ⟨w.heap.size + 1, 0, none⟩ (.bool false)).setCell ⟨w.heap.size + 1, 1, none⟩ (.slice none 0 0)).setCell ⟨w.heap.size + 1, 2, none⟩ (.bool false)).setCell ⟨w.heap.size + 1, 3, none⟩ (.slice none 0 0)).setCell ⟨w.heap.size + 1, 4, none⟩ (.int .i64 0) := ⟨_, rfl⟩
    have tn6 : Tn [w.heap.size + 1] w5 w6 := by rw [hw6]; exact (((((tnL w5 (w.heap.size + 1) 0 (.bool false)).trans (tnL _ (w.heap.size + 1) 1 (.slice none 0 0))).trans (tnL _ (w.heap.size + 1) 2 (.bool false))).trans (tnL _ (w.heap.size + 1) 3 (.slice none 0 0))).trans (tnL _ (w.heap.size + 1) 4 (.int .i64 0)))
    have R6 : BoxL w6 w.heap.size (w.heap.size + 1) [.bool false, .slice none 0 0, .bool false, .slice none 0 0, .int .i64 0] := by rw [hw6]; exact (((((R5.set 0 (.bool false) (by simp)).set 1 (.slice none 0 0) (by simp)).set 2 (.bool false) (by simp)).set 3 (.slice none 0 0) (by simp)).set 4 (.int .i64 0) (by simp))
    have blo6 := R5.lo
    have B6 := tn6.below B5 B5.size (fun q hq => by simp at hq; omega)
    clear B5 R5 tn6 blo6
    subst hw6
    go_wp2
    (try simp only [Exit.inBlock, Exit.then])
    refine bodyPost_ret (v := .tuple #[.agg #[.bool false, .slice none 0 0, .bool false, .slice none 0 0, .int .i64 0], .bool false]) ?_ rfl ⟨_, by rw [HF.out], by rw [HF.out]; exact nilP _ _, B6⟩
    rw [results_cell_tmp rfl]
    go_simp
  rw [decide_eq_true c2] at kR
  rw [if_pos ⟨rfl, rfl, c2⟩] at HF
  clear c2
  have B0_0 : Below w.heap.size w w := Below.refl _ _
  obtain ⟨ww1, hww1⟩ : ∃ v, v = w.alloc (.cells #[.pointer (some ⟨p, 0, none⟩), .pointer (some ⟨q, 0, none⟩), .int .i64 kk] 65) := ⟨_, rfl⟩
  have sz1 : ww1.heap.size = w.heap.size + 1 := by rw [hww1]; simp
  have bw1 : Below w.heap.size w ww1 := by rw [hww1]; exact below1 _ _
  have B0_1 := B0_0.trans (bw1.mono B0_0.size)
  have X0_1 : BoxL ww1 w.heap.size w.heap.size [.pointer (some ⟨p, 0, none⟩), .pointer (some ⟨q, 0, none⟩), .int .i64 kk] := by rw [hww1]; have h := BoxL.made w [.pointer (some ⟨p, 0, none⟩), .pointer (some ⟨q, 0, none⟩), .int .i64 kk] 65; exact h
  obtain ⟨ww2, hww2⟩ : ∃ v, v = ww1.alloc (.cells #[.bool false, .slice none 0 0, .bool false, .slice none 0 0, .int .i64 0] 34) := ⟨_, rfl⟩
  have sz2 : ww2.heap.size = w.heap.size + 1 + 1 := by rw [hww2]; simp [sz1]
  have bw2 : Below ww1.heap.size ww1 ww2 := by rw [hww2]; exact below1 _ _
  have B0_2 := B0_1.trans (bw2.mono B0_1.size)
  have X0_2 := X0_1.below bw2 (Nat.le_refl _)
  have R0_2 : BoxL ww2 (w.heap.size + 1) (w.heap.size + 1) [.bool false, .slice none 0 0, .bool false, .slice none 0 0, .int .i64 0] := by rw [hww2]; have h := BoxL.made ww1 [.bool false, .slice none 0 0, .bool false, .slice none 0 0, .int .i64 0] 34; rw [sz1] at h; exact h
  have X0 := X0_2
  have R0 := R0_2.mono (by omega : w.heap.size ≤ w.heap.size + 1)
  have B0 := B0_2
  have sp0 := sp.below B0 sp.lt
  have lt_sp := sp.lt
  have sq0 := sq.below B0 sq.lt
  have lt_sq := sq.lt
  clear B0_0 B0_1 B0_2 bw1 bw2 X0_1 X0_2 R0_2
  clear sp sq
  go_enter Try.func45, Try.ntmps45
  go_wp2_with fail
  have hvv : (w.alloc (.cells #[.pointer (some ⟨p, 0, none⟩), .pointer (some ⟨q, 0, none⟩), .int .i64 kk] 65)).alloc (.cells #[.bool false, .slice none 0 0, .bool false, .slice none 0 0, .int .i64 0] 34) = ww2 := by rw [hww2]; rw [hww1]
  rw [hvv]
  clear hvv hww1 hww2 sz1
  clear ww1
  have hz0 : w.heap.size + 2 ≤ ww2.heap.size := by omega
  clear sz2
  refine (kP _ sp0).mono ?_
  rintro e w1 ⟨v, rfl, oa, bb1⟩
  obtain ⟨h1, s1, t1, u1, rfl⟩ := oa.cell
  have ap_X_oa : Apart (blkW (.agg #[.bool h1, .slice s1 t1 u1])) [w.heap.size] := apart_one fun q hq => by have h1 := (ownsW.ltb oa q hq).1; have h2 := X0.hi; omega
  have ap_R_oa : Apart (blkW (.agg #[.bool h1, .slice s1 t1 u1])) [w.heap.size + 1] := apart_one fun q hq => by have h1 := (ownsW.ltb oa q hq).1; have h2 := R0.hi; omega
  replace oa := ownsW_mono oa B0.size
  have B1 := B0.trans (bb1.mono B0.size)
  have X1 := X0.below bb1 (Nat.le_refl _)
  have R1 := R0.below bb1 (Nat.le_refl _)
  have sp1 := sp0.below bb1 sp0.lt
  have sq1 := sq0.below bb1 sq0.lt
  clear B0 X0 R0 sp0 sq0 bb1
  have oa1 := oa
  clear oa
  obtain ⟨w2, hw2⟩ : ∃ v, Hid (v = w1.alloc (.cells #[.bool h1, .slice s1 t1 u1] 27)) := ⟨_, rfl⟩
  have bb2 : Below w1.heap.size w1 w2 := by rw [hw2.out]; exact below1 _ _
  obtain ⟨qb2, hq2⟩ : ∃ v, Hid (v = w1.heap.size) := ⟨_, rfl⟩
  have P2 : BoxL w2 w.heap.size qb2 [.bool h1, .slice s1 t1 u1] := by rw [hw2.out, hq2.out]; exact (BoxL.made w1 [.bool h1, .slice s1 t1 u1] 27).mono B1.size
  have sn2 : w2.heap.size = qb2 + 1 := by rw [hw2.out, hq2.out]; simp
  have B2 := B1.trans (bb2.mono B1.size)
  have X2 := X1.below bb2 (Nat.le_refl _)
  have R2 := R1.below bb2 (Nat.le_refl _)
  have sp2 := sp1.below bb2 sp1.lt
  have sq2 := sq1.below bb2 sq1.lt
  have oa2 := ownsW.below oa1 bb2 (Nat.le_refl _)
  have lt_X_P : w.heap.size < qb2 := by rw [hq2.out]; exact X1.hi
  have lt_R_P : w.heap.size + 1 < qb2 := by rw [hq2.out]; exact R1.hi
  have ne_P_sp : ¬ (p = qb2) := fun e => by rw [hq2.out] at e; have h1 := sp1.lt; omega
  have ne_P_sq : ¬ (q = qb2) := fun e => by rw [hq2.out] at e; have h1 := sq1.lt; omega
  have ap_P_oa : Apart (blkW (.agg #[.bool h1, .slice s1 t1 u1])) [qb2] := apart_one fun q hq => by rw [hq2.out]; have h1 := (ownsW.ltb oa1 q hq).2; omega
  clear B1 X1 R1 sp1 sq1 oa1 bb2
  have c_X_0 := X2.c 0 _ rfl
  have c_X_1 := X2.c 1 _ rfl
  have c_X_2 := X2.c 2 _ rfl
  rw [hw2.out] at c_X_0
  rw [hw2.out] at c_X_1
  rw [hw2.out] at c_X_2
  replace sn2 : Hid (w2.heap.size = qb2 + 1) := sn2
  go_wp2_with fail
  replace sn2 := sn2.out
  rw [← hw2.out]
  (try rw [← hq2.out])
  (try rw [← sn2])
  clear c_X_0 c_X_1 c_X_2
  clear hw2 hq2 sn2
  refine (kQ _ sq2).mono ?_
  rintro e w3 ⟨v, rfl, ob, bb3⟩
  obtain ⟨h2, s2, t2, u2, rfl⟩ := ob.cell
  have ap_X_ob : Apart (blkW (.agg #[.bool h2, .slice s2 t2 u2])) [w.heap.size] := apart_one fun q hq => by have h1 := (ownsW.ltb ob q hq).1; have h2 := X2.hi; omega
  have ap_R_ob : Apart (blkW (.agg #[.bool h2, .slice s2 t2 u2])) [w.heap.size + 1] := apart_one fun q hq => by have h1 := (ownsW.ltb ob q hq).1; have h2 := R2.hi; omega
  have ap_P_ob : Apart (blkW (.agg #[.bool h2, .slice s2 t2 u2])) [qb2] := apart_one fun q hq => by have h1 := (ownsW.ltb ob q hq).1; have h2 := P2.hi; omega
  have ap_oa_ob : Apart (blkW (.agg #[.bool h1, .slice s1 t1 u1])) (blkW (.agg #[.bool h2, .slice s2 t2 u2])) := apart_of (fun k hk => (ownsW.ltb oa2 k hk).2) (fun k hk => (ownsW.ltb ob k hk).1)
  replace ob := ownsW_mono ob B2.size
  have B3 := B2.trans (bb3.mono B2.size)
  have X3 := X2.below bb3 (Nat.le_refl _)
  have R3 := R2.below bb3 (Nat.le_refl _)
  have sp3 := sp2.below bb3 sp2.lt
  have sq3 := sq2.below bb3 sq2.lt
  have oa3 := ownsW.below oa2 bb3 (Nat.le_refl _)
  have P3 := P2.below bb3 (Nat.le_refl _)
  clear B2 X2 R2 sp2 sq2 oa2 P2 bb3
  have ob3 := ob
  clear ob
  clear kP kQ
  clear sp3 sq3
  obtain ⟨w4, hw4⟩ : ∃ v, Hid (v = w3.alloc (.cells #[.bool h2, .slice s2 t2 u2] 27)) := ⟨_, rfl⟩
  have bb4 : Below w3.heap.size w3 w4 := by rw [hw4.out]; exact below1 _ _
  obtain ⟨qb4, hq4⟩ : ∃ v, Hid (v = w3.heap.size) := ⟨_, rfl⟩
  have Q4 : BoxL w4 w.heap.size qb4 [.bool h2, .slice s2 t2 u2] := by rw [hw4.out, hq4.out]; exact (BoxL.made w3 [.bool h2, .slice s2 t2 u2] 27).mono B3.size
  have sn4 : w4.heap.size = qb4 + 1 := by rw [hw4.out, hq4.out]; simp
  have B4 := B3.trans (bb4.mono B3.size)
  have X4 := X3.below bb4 (Nat.le_refl _)
  have R4 := R3.below bb4 (Nat.le_refl _)
  have oa4 := ownsW.below oa3 bb4 (Nat.le_refl _)
  have P4 := P3.below bb4 (Nat.le_refl _)
  have ob4 := ownsW.below ob3 bb4 (Nat.le_refl _)
  have lt_X_Q : w.heap.size < qb4 := by rw [hq4.out]; exact X3.hi
  have lt_R_Q : w.heap.size + 1 < qb4 := by rw [hq4.out]; exact R3.hi
  have ap_Q_oa : Apart (blkW (.agg #[.bool h1, .slice s1 t1 u1])) [qb4] := apart_one fun q hq => by rw [hq4.out]; have h1 := (ownsW.ltb oa3 q hq).2; omega
  have lt_P_Q : qb2 < qb4 := by rw [hq4.out]; exact P3.hi
  have ap_Q_ob : Apart (blkW (.agg #[.bool h2, .slice s2 t2 u2])) [qb4] := apart_one fun q hq => by rw [hq4.out]; have h1 := (ownsW.ltb ob3 q hq).2; omega
  clear B3 X3 R3 oa3 P3 ob3 bb4
  have c_X_0 := X4.c 0 _ rfl
  have c_X_1 := X4.c 1 _ rfl
  have c_X_2 := X4.c 2 _ rfl
  rw [hw4.out] at c_X_0
  rw [hw4.out] at c_X_1
  rw [hw4.out] at c_X_2
  replace sn4 : Hid (w4.heap.size = qb4 + 1) := sn4
  go_wp2_with fail
  replace sn4 := sn4.out
  rw [← hw4.out]
  (try rw [← hq4.out])
  (try rw [← sn4])
  clear c_X_0 c_X_1 c_X_2
  clear hw4 hq4 sn4
  refine (kR _).mono ?_
  rintro e w5 ⟨rfl, bb5⟩
  have B5 := B4.trans (bb5.mono B4.size)
  have X5 := X4.below bb5 (Nat.le_refl _)
  have R5 := R4.below bb5 (Nat.le_refl _)
  have oa5 := ownsW.below oa4 bb5 (Nat.le_refl _)
  have P5 := P4.below bb5 (Nat.le_refl _)
  have ob5 := ownsW.below ob4 bb5 (Nat.le_refl _)
  have Q5 := Q4.below bb5 (Nat.le_refl _)
  clear B4 X4 R4 oa4 P4 ob4 Q4 bb5
  clear kR
  have c_P_0 := P5.c 0 _ rfl
  have c_P_1 := P5.c 1 _ rfl
  have c_Q_0 := Q5.c 0 _ rfl
  have c_Q_1 := Q5.c 1 _ rfl
  have c_X_0 := X5.c 0 _ rfl
  have c_X_1 := X5.c 1 _ rfl
  have c_X_2 := X5.c 2 _ rfl
  have c_R_0 := R5.c 0 _ rfl
  have f_R_0 := R5.f 0 _ rfl
  have c_R_1 := R5.c 1 _ rfl
  have f_R_1 := R5.f 1 _ rfl
  have c_R_2 := R5.c 2 _ rfl
  have f_R_2 := R5.f 2 _ rfl
  have c_R_3 := R5.c 3 _ rfl
  have f_R_3 := R5.f 3 _ rfl
  have c_R_4 := R5.c 4 _ rfl
  have f_R_4 := R5.f 4 _ rfl
  obtain ⟨w6, hw6⟩ : ∃ v, v = ((((w5.setCell ⟨w.heap.size + 1, 0, none⟩ (.bool h1)).setCell ⟨w.heap.size + 1, 1, none⟩ (.slice s1 t1 u1)).setCell ⟨w.heap.size + 1, 2, none⟩ (.bool h2)).setCell ⟨w.heap.size + 1, 3, none⟩ (.slice s2 t2 u2)).setCell ⟨w.heap.size + 1, 4, none⟩ (.int .i64 kk) := ⟨_, rfl⟩
  have tn6 : Tn [w.heap.size + 1] w5 w6 := by rw [hw6]; exact (((((tnL w5 (w.heap.size + 1) 0 (.bool h1)).trans (tnL _ (w.heap.size + 1) 1 (.slice s1 t1 u1))).trans (tnL _ (w.heap.size + 1) 2 (.bool h2))).trans (tnL _ (w.heap.size + 1) 3 (.slice s2 t2 u2))).trans (tnL _ (w.heap.size + 1) 4 (.int .i64 kk)))
  have R6 : BoxL w6 w.heap.size (w.heap.size + 1) [.bool h1, .slice s1 t1 u1, .bool h2, .slice s2 t2 u2, .int .i64 kk] := by rw [hw6]; exact (((((R5.set 0 (.bool h1) (by simp)).set 1 (.slice s1 t1 u1) (by simp)).set 2 (.bool h2) (by simp)).set 3 (.slice s2 t2 u2) (by simp)).set 4 (.int .i64 kk) (by simp))
  have blo6 := R5.lo
  have B6 := tn6.below B5 B5.size (fun q hq => by simp at hq; omega)
  have X6 := X5.tn tn6 (not_one (by omega))
  have oa6 := ownsW.tn oa5 tn6 ap_R_oa
  have P6 := P5.tn tn6 (not_one (by omega))
  have ob6 := ownsW.tn ob5 tn6 ap_R_ob
  have Q6 := Q5.tn tn6 (not_one (by omega))
  clear B5 X5 R5 oa5 P5 ob5 Q5 tn6 blo6
  subst hw6
  go_wp2
  (try simp only [Exit.inBlock, Exit.then])
  refine bodyPost_ret (v := .tuple #[.agg #[.bool h1, .slice s1 t1 u1, .bool h2, .slice s2 t2 u2, .int .i64 kk], .bool true]) ?_ rfl ⟨_, by rw [HF.out], by rw [HF.out]; exact ownsP.mk oa6 ob6 ap_oa_ob, B6⟩
  rw [results_cell_tmp rfl]
  go_simp

end Go.Proofs.Ytlpfjpbnedankaa
