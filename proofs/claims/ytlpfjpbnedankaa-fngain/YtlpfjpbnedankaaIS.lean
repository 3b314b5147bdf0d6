/- Several small texts in one: SpTurn, ISpStep, ISpRun. -/
import Derived.Test.YtlpfjpbnedankaaSPB
import Derived.Test.YtlpfjpbnedankaaSgB
import Derived.Test.YtlpfjpbnedankaaPSB
import Derived.Test.YtlpfjpbnedankaaSWhole
import Derived.Test.YtlpfjpbnedankaaFB
import Derived.Test.YtlpfjpbnedankaaPCopy
/- A Spin's step inside, by its contract. -/
namespace Go.Proofs.Ytlpfjpbnedankaa
open Go.RowKit
set_option linter.unusedSimpArgs false
set_option linter.unusedVariables false

set_option maxRecDepth 20000 in
set_option maxHeartbeats 6400000 in
theorem pturned_c (p q : Nat) (x y : Int) (k : Nat) (d : Int) (w : World) (sp : SG w p x) (sq : SG w q y) (m1 : (limbs x.natAbs).length ≤ 48) (m2 : (limbs y.natAbs).length ≤ 48) (hk : k ≤ 30) (hd : d = 1 ∨ d = -1) :
    Calls Try.prog 80 #[.agg #[.pointer (some ⟨p, 0, none⟩), .pointer (some ⟨q, 0, none⟩)], .int .i64 k, .int .i64 d] w fun e w' => ∃ c c2 : Nat, e = .returned (.agg #[.pointer (some ⟨c, 0, none⟩), .pointer (some ⟨c2, 0, none⟩)]) ∧ SG w' c (stX x y k d) ∧ SG w' c2 (stY x y k d) ∧ Below w.heap.size w w' ∧ w.heap.size ≤ c ∧ w.heap.size ≤ c2 := by
  have e1 := up30_len x k m1 hk
  have e2 := up30_len y k m2 hk
  have e3 := one_len d hd
  have e4 := one_mul_len x d hd
  have e5 := one_mul_len y d hd
  have b1 : -9223372036854775808 ≤ d := by omega
  have b2 : d ≤ 9223372036854775807 := by omega
  have kO := fun W => sOf d W b1 b2
  have kU := fun W h => sgUp p x k W h (by omega) (by omega)
  have kV := fun W h => sgUp q y k W h (by omega) (by omega)
  have kM := fun m W h1 h2 => sgTimes q m y d W h1 h2 (by omega)
  have kN := fun m W h1 h2 => sgTimes p m x d W h1 h2 (by omega)
  have kS := fun u v W h1 h2 => sgMinus u v (x * 2 ^ k) (y * d) W h1 h2 (by omega) (by omega)
  have kT := fun u v W h1 h2 => sgPlus u v (y * 2 ^ k) (x * d) W h1 h2 (by omega) (by omega)
  unfold stX stY
  clear m1 m2 hk hd e1 e2 e3 e4 e5 b1 b2
  generalize x * 2 ^ k - y * d = X at *
  generalize y * 2 ^ k + x * d = Y at *
  generalize x * 2 ^ k = y0 at *
  generalize y * 2 ^ k = y1 at *
  generalize x * d = y2 at *
  generalize y * d = y3 at *
  have B0_0 : Below w.heap.size w w := Below.refl _ _
  obtain ⟨ww1, hww1⟩ : ∃ v, v = w.alloc (.cells #[.pointer (some ⟨p, 0, none⟩), .pointer (some ⟨q, 0, none⟩)] 63) := ⟨_, rfl⟩
  have sz1 : ww1.heap.size = w.heap.size + 1 := by rw [hww1]; simp
  have bw1 : Below w.heap.size w ww1 := by rw [hww1]; exact below1 _ _
  have B0_1 := B0_0.trans (bw1.mono B0_0.size)
  have X0_1 : BoxL ww1 w.heap.size w.heap.size [.pointer (some ⟨p, 0, none⟩), .pointer (some ⟨q, 0, none⟩)] := by rw [hww1]; have h := BoxL.made w [.pointer (some ⟨p, 0, none⟩), .pointer (some ⟨q, 0, none⟩)] 63; exact h
  obtain ⟨ww2, hww2⟩ : ∃ v, v = ww1.alloc (.cells #[.pointer none, .pointer none] 63) := ⟨_, rfl⟩
  have sz2 : ww2.heap.size = w.heap.size + 1 + 1 := by rw [hww2]; simp [sz1]
  have bw2 : Below ww1.heap.size ww1 ww2 := by rw [hww2]; exact below1 _ _
  have B0_2 := B0_1.trans (bw2.mono B0_1.size)
  have X0_2 := X0_1.below bw2 (Nat.le_refl _)
  have R0_2 : BoxL ww2 (w.heap.size + 1) (w.heap.size + 1) [.pointer none, .pointer none] := by rw [hww2]; have h := BoxL.made ww1 [.pointer none, .pointer none] 63; rw [sz1] at h; exact h
  have X0 := X0_2
  have R0 := R0_2.mono (by omega : w.heap.size ≤ w.heap.size + 1)
  have B0 := B0_2
  have sp0 := sp.below B0 sp.lt
  have lt_sp := sp.lt
  have sq0 := sq.below B0 sq.lt
  have lt_sq := sq.lt
  clear B0_0 B0_1 B0_2 bw1 bw2 X0_1 X0_2 R0_2
  clear sp sq
  go_enter Try.func80, Try.ntmps80
  go_wp2_with fail
  have hvv : (w.alloc (.cells #[.pointer (some ⟨p, 0, none⟩), .pointer (some ⟨q, 0, none⟩)] 63)).alloc (.cells #[.pointer none, .pointer none] 63) = ww2 := by rw [hww2]; rw [hww1]
  rw [hvv]
  clear hvv hww1 hww2 sz1
  clear ww1
  have hz0 : w.heap.size + 2 ≤ ww2.heap.size := by omega
  clear sz2
  refine (kO _).mono ?_
  rintro e w1 ⟨m, rfl, hc, sm, bb1⟩
  have ge_sm : w.heap.size ≤ m := Nat.le_trans B0.size hc
  have ne_X_sm : ¬ (m = w.heap.size) := fun e => by have h1 := X0.hi; omega
  have ne_R_sm : ¬ (m = w.heap.size + 1) := fun e => by have h1 := R0.hi; omega
  clear hc
  have B1 := B0.trans (bb1.mono B0.size)
  have X1 := X0.below bb1 (Nat.le_refl _)
  have R1 := R0.below bb1 (Nat.le_refl _)
  have sp1 := sp0.below bb1 sp0.lt
  have sq1 := sq0.below bb1 sq0.lt
  clear B0 X0 R0 sp0 sq0 bb1
  have sm1 := sm
  clear sm
  clear kO
  go_wp2_with fail
  obtain ⟨w2, hw2⟩ : ∃ v, Hid (v = w1.drew) := ⟨_, rfl⟩
  have bd : Below w1.heap.size w1 w2 := by rw [hw2.out]; exact (Below.refl w1.heap.size w1).drew
  have B2 := B1.trans (bd.mono B1.size)
  have X2 := X1.below bd (Nat.le_refl _)
  have R2 := R1.below bd (Nat.le_refl _)
  have sp2 := sp1.below bd sp1.lt
  have sq2 := sq1.below bd sq1.lt
  have sm2 := sm1.below bd sm1.lt
  clear B1 X1 R1 sp1 sq1 sm1 bd
  have hH : (fun W : World => W.cell? ⟨w.heap.size, 0, none⟩ = some (.pointer (some ⟨p, 0, none⟩)) ∧ W.cell? ⟨w.heap.size, 1, none⟩ = some (.pointer (some ⟨q, 0, none⟩))) w2 := ⟨X2.c 0 _ rfl, X2.c 1 _ rfl⟩
  refine wp_region_held_drew (S := fun W => W.cell? ⟨w.heap.size, 0, none⟩ = some (.pointer (some ⟨p, 0, none⟩)) ∧ W.cell? ⟨w.heap.size, 1, none⟩ = some (.pointer (some ⟨q, 0, none⟩))) (by kernel_rfl) (by rw [← hw2.out]; exact hH) ?_
  intro _
  rw [← hw2.out]
  clear hw2
  refine takeH 0 (some 10) (.pointer (some ⟨w.heap.size, 0, none⟩)) rfl rfl (by kernel_rfl) (by kernel_rfl) (by kernel_rfl) (fun _ _ _ h => h) (Or.inl ⟨rfl, fun W hW => by go_simp⟩) hH ?_
  simp only [Act.put, List.setIfInBounds_toArray, List.set_cons_zero, List.set_cons_succ]
  refine takeH 1 (some 11) (.pointer (some ⟨p, 0, none⟩)) rfl rfl (by kernel_rfl) (by kernel_rfl) (by kernel_rfl) (fun _ _ _ h => h) (Or.inl ⟨rfl, fun W hW => by obtain ⟨l0, l1⟩ := hW; go_simp⟩) hH ?_
  simp only [Act.put, List.setIfInBounds_toArray, List.set_cons_zero, List.set_cons_succ]
  refine takeH 2 (some 12) (.int .i64 k) rfl rfl (by kernel_rfl) (by kernel_rfl) (by kernel_rfl) (fun _ _ _ h => h) (Or.inl ⟨rfl, fun W hW => by go_simp⟩) hH ?_
  simp only [Act.put, List.setIfInBounds_toArray, List.set_cons_zero, List.set_cons_succ]
  refine takeH 4 (some 14) (.pointer (some ⟨w.heap.size, 1, none⟩)) rfl rfl (by kernel_rfl) (by kernel_rfl) (by kernel_rfl) (fun _ _ _ h => h) (Or.inl ⟨rfl, fun W hW => by go_simp⟩) hH ?_
  simp only [Act.put, List.setIfInBounds_toArray, List.set_cons_zero, List.set_cons_succ]
  refine takeH 5 (some 15) (.pointer (some ⟨q, 0, none⟩)) rfl rfl (by kernel_rfl) (by kernel_rfl) (by kernel_rfl) (fun _ _ _ h => h) (Or.inl ⟨rfl, fun W hW => by obtain ⟨l0, l1⟩ := hW; go_simp⟩) hH ?_
  simp only [Act.put, List.setIfInBounds_toArray, List.set_cons_zero, List.set_cons_succ]
  refine takeH 6 (some 16) (.pointer (some ⟨m, 0, none⟩)) rfl rfl (by kernel_rfl) (by kernel_rfl) (by kernel_rfl) (fun _ _ _ h => h) (Or.inl ⟨rfl, fun W hW => by go_simp⟩) hH ?_
  simp only [Act.put, List.setIfInBounds_toArray, List.set_cons_zero, List.set_cons_succ]
  refine takeH 9 (some 19) (.pointer (some ⟨w.heap.size, 1, none⟩)) rfl rfl (by kernel_rfl) (by kernel_rfl) (by kernel_rfl) (fun _ _ _ h => h) (Or.inl ⟨rfl, fun W hW => by go_simp⟩) hH ?_
  simp only [Act.put, List.setIfInBounds_toArray, List.set_cons_zero, List.set_cons_succ]
  refine takeH 10 (some 20) (.pointer (some ⟨q, 0, none⟩)) rfl rfl (by kernel_rfl) (by kernel_rfl) (by kernel_rfl) (fun _ _ _ h => h) (Or.inl ⟨rfl, fun W hW => by obtain ⟨l0, l1⟩ := hW; go_simp⟩) hH ?_
  simp only [Act.put, List.setIfInBounds_toArray, List.set_cons_zero, List.set_cons_succ]
  refine takeH 11 (some 21) (.int .i64 k) rfl rfl (by kernel_rfl) (by kernel_rfl) (by kernel_rfl) (fun _ _ _ h => h) (Or.inl ⟨rfl, fun W hW => by go_simp⟩) hH ?_
  simp only [Act.put, List.setIfInBounds_toArray, List.set_cons_zero, List.set_cons_succ]
  refine takeH 13 (some 23) (.pointer (some ⟨w.heap.size, 0, none⟩)) rfl rfl (by kernel_rfl) (by kernel_rfl) (by kernel_rfl) (fun _ _ _ h => h) (Or.inl ⟨rfl, fun W hW => by go_simp⟩) hH ?_
  simp only [Act.put, List.setIfInBounds_toArray, List.set_cons_zero, List.set_cons_succ]
  refine takeH 14 (some 24) (.pointer (some ⟨p, 0, none⟩)) rfl rfl (by kernel_rfl) (by kernel_rfl) (by kernel_rfl) (fun _ _ _ h => h) (Or.inl ⟨rfl, fun W hW => by obtain ⟨l0, l1⟩ := hW; go_simp⟩) hH ?_
  simp only [Act.put, List.setIfInBounds_toArray, List.set_cons_zero, List.set_cons_succ]
  refine takeH 15 (some 25) (.pointer (some ⟨m, 0, none⟩)) rfl rfl (by kernel_rfl) (by kernel_rfl) (by kernel_rfl) (fun _ _ _ h => h) (Or.inl ⟨rfl, fun W hW => by go_simp⟩) hH ?_
  simp only [Act.put, List.setIfInBounds_toArray, List.set_cons_zero, List.set_cons_succ]
  refine oneH 3 rfl (by kernel_rfl) (fun K' hK => ?_)
  go_simp
  refine (kU _ sp2).mono ?_
  rintro e w3 ⟨c1, rfl, hc, sa, bb3⟩
  have ge_sa : w.heap.size ≤ c1 := Nat.le_trans B2.size hc
  have ne_X_sa : ¬ (c1 = w.heap.size) := fun e => by have h1 := X2.hi; omega
  have ne_R_sa : ¬ (c1 = w.heap.size + 1) := fun e => by have h1 := R2.hi; omega
  clear hc
  have B3 := B2.trans (bb3.mono B2.size)
  have X3 := X2.below bb3 (Nat.le_refl _)
  have R3 := R2.below bb3 (Nat.le_refl _)
  have sp3 := sp2.below bb3 sp2.lt
  have sq3 := sq2.below bb3 sq2.lt
  have sm3 := sm2.below bb3 sm2.lt
  clear B2 X2 R2 sp2 sq2 sm2 bb3 hH
  have sa3 := sa
  clear sa
  have hH : (fun W : World => W.cell? ⟨w.heap.size, 0, none⟩ = some (.pointer (some ⟨p, 0, none⟩)) ∧ W.cell? ⟨w.heap.size, 1, none⟩ = some (.pointer (some ⟨q, 0, none⟩))) w3 := ⟨X3.c 0 _ rfl, X3.c 1 _ rfl⟩
  refine hK _ _ hH ?_
  clear hK
  refine oneH 7 rfl (by kernel_rfl) (fun K' hK => ?_)
  go_simp
  refine (kM _ _ sq3 sm3).mono ?_
  rintro e w4 ⟨c2, rfl, hc, sb, bb4⟩
  have ge_sb : w.heap.size ≤ c2 := Nat.le_trans B3.size hc
  have ne_X_sb : ¬ (c2 = w.heap.size) := fun e => by have h1 := X3.hi; omega
  have ne_R_sb : ¬ (c2 = w.heap.size + 1) := fun e => by have h1 := R3.hi; omega
  clear hc
  have B4 := B3.trans (bb4.mono B3.size)
  have X4 := X3.below bb4 (Nat.le_refl _)
  have R4 := R3.below bb4 (Nat.le_refl _)
  have sp4 := sp3.below bb4 sp3.lt
  have sq4 := sq3.below bb4 sq3.lt
  have sm4 := sm3.below bb4 sm3.lt
  have sa4 := sa3.below bb4 sa3.lt
  clear B3 X3 R3 sp3 sq3 sm3 sa3 bb4 hH
  have sb4 := sb
  clear sb
  have hH : (fun W : World => W.cell? ⟨w.heap.size, 0, none⟩ = some (.pointer (some ⟨p, 0, none⟩)) ∧ W.cell? ⟨w.heap.size, 1, none⟩ = some (.pointer (some ⟨q, 0, none⟩))) w4 := ⟨X4.c 0 _ rfl, X4.c 1 _ rfl⟩
  refine hK _ _ hH ?_
  clear hK
  refine oneH 8 rfl (by kernel_rfl) (fun K' hK => ?_)
  go_simp
  refine (kS _ _ _ sa4 sb4).mono ?_
  rintro e w5 ⟨c3, rfl, hc, sc, bb5⟩
  have ge_sc : w.heap.size ≤ c3 := Nat.le_trans B4.size hc
  have ne_X_sc : ¬ (c3 = w.heap.size) := fun e => by have h1 := X4.hi; omega
  have ne_R_sc : ¬ (c3 = w.heap.size + 1) := fun e => by have h1 := R4.hi; omega
  clear hc
  have B5 := B4.trans (bb5.mono B4.size)
  have X5 := X4.below bb5 (Nat.le_refl _)
  have R5 := R4.below bb5 (Nat.le_refl _)
  have sp5 := sp4.below bb5 sp4.lt
  have sq5 := sq4.below bb5 sq4.lt
  have sm5 := sm4.below bb5 sm4.lt
  have sa5 := sa4.below bb5 sa4.lt
  have sb5 := sb4.below bb5 sb4.lt
  clear B4 X4 R4 sp4 sq4 sm4 sa4 sb4 bb5 hH
  have sc5 := sc
  clear sc
  clear sa5 sb5
  have hH : (fun W : World => W.cell? ⟨w.heap.size, 0, none⟩ = some (.pointer (some ⟨p, 0, none⟩)) ∧ W.cell? ⟨w.heap.size, 1, none⟩ = some (.pointer (some ⟨q, 0, none⟩))) w5 := ⟨X5.c 0 _ rfl, X5.c 1 _ rfl⟩
  refine hK _ _ hH ?_
  clear hK
  refine oneH 12 rfl (by kernel_rfl) (fun K' hK => ?_)
  go_simp
  refine (kV _ sq5).mono ?_
  rintro e w6 ⟨c4, rfl, hc, sd, bb6⟩
  have ge_sd : w.heap.size ≤ c4 := Nat.le_trans B5.size hc
  have ne_X_sd : ¬ (c4 = w.heap.size) := fun e => by have h1 := X5.hi; omega
  have ne_R_sd : ¬ (c4 = w.heap.size + 1) := fun e => by have h1 := R5.hi; omega
  clear hc
  have B6 := B5.trans (bb6.mono B5.size)
  have X6 := X5.below bb6 (Nat.le_refl _)
  have R6 := R5.below bb6 (Nat.le_refl _)
  have sp6 := sp5.below bb6 sp5.lt
  have sq6 := sq5.below bb6 sq5.lt
  have sm6 := sm5.below bb6 sm5.lt
  have sc6 := sc5.below bb6 sc5.lt
  clear B5 X5 R5 sp5 sq5 sm5 sc5 bb6 hH
  have sd6 := sd
  clear sd
  have hH : (fun W : World => W.cell? ⟨w.heap.size, 0, none⟩ = some (.pointer (some ⟨p, 0, none⟩)) ∧ W.cell? ⟨w.heap.size, 1, none⟩ = some (.pointer (some ⟨q, 0, none⟩))) w6 := ⟨X6.c 0 _ rfl, X6.c 1 _ rfl⟩
  refine hK _ _ hH ?_
  clear hK
  refine oneH 16 rfl (by kernel_rfl) (fun K' hK => ?_)
  go_simp
  refine (kN _ _ sp6 sm6).mono ?_
  rintro e w7 ⟨c5, rfl, hc, se, bb7⟩
  have ge_se : w.heap.size ≤ c5 := Nat.le_trans B6.size hc
  have ne_X_se : ¬ (c5 = w.heap.size) := fun e => by have h1 := X6.hi; omega
  have ne_R_se : ¬ (c5 = w.heap.size + 1) := fun e => by have h1 := R6.hi; omega
  clear hc
  have B7 := B6.trans (bb7.mono B6.size)
  have X7 := X6.below bb7 (Nat.le_refl _)
  have R7 := R6.below bb7 (Nat.le_refl _)
  have sp7 := sp6.below bb7 sp6.lt
  have sq7 := sq6.below bb7 sq6.lt
  have sm7 := sm6.below bb7 sm6.lt
  have sc7 := sc6.below bb7 sc6.lt
  have sd7 := sd6.below bb7 sd6.lt
  clear B6 X6 R6 sp6 sq6 sm6 sc6 sd6 bb7 hH
  have se7 := se
  clear se
  have hH : (fun W : World => W.cell? ⟨w.heap.size, 0, none⟩ = some (.pointer (some ⟨p, 0, none⟩)) ∧ W.cell? ⟨w.heap.size, 1, none⟩ = some (.pointer (some ⟨q, 0, none⟩))) w7 := ⟨X7.c 0 _ rfl, X7.c 1 _ rfl⟩
  refine hK _ _ hH ?_
  clear hK
  refine oneH 17 rfl (by kernel_rfl) (fun K' hK => ?_)
  go_simp
  refine (kT _ _ _ sd7 se7).mono ?_
  rintro e w8 ⟨c6, rfl, hc, sf, bb8⟩
  have ge_sf : w.heap.size ≤ c6 := Nat.le_trans B7.size hc
  have ne_X_sf : ¬ (c6 = w.heap.size) := fun e => by have h1 := X7.hi; omega
  have ne_R_sf : ¬ (c6 = w.heap.size + 1) := fun e => by have h1 := R7.hi; omega
  clear hc
  have B8 := B7.trans (bb8.mono B7.size)
  have X8 := X7.below bb8 (Nat.le_refl _)
  have R8 := R7.below bb8 (Nat.le_refl _)
  have sp8 := sp7.below bb8 sp7.lt
  have sq8 := sq7.below bb8 sq7.lt
  have sm8 := sm7.below bb8 sm7.lt
  have sc8 := sc7.below bb8 sc7.lt
  have sd8 := sd7.below bb8 sd7.lt
  have se8 := se7.below bb8 se7.lt
  clear B7 X7 R7 sp7 sq7 sm7 sc7 sd7 se7 bb8 hH
  have sf8 := sf
  clear sf
  clear sd8 se8
  have hH : (fun W : World => W.cell? ⟨w.heap.size, 0, none⟩ = some (.pointer (some ⟨p, 0, none⟩)) ∧ W.cell? ⟨w.heap.size, 1, none⟩ = some (.pointer (some ⟨q, 0, none⟩))) w8 := ⟨X8.c 0 _ rfl, X8.c 1 _ rfl⟩
  refine hK _ _ hH ?_
  clear hK
  refine takeH 18 (some 28) (.agg #[.pointer (some ⟨c3, 0, none⟩), .pointer (some ⟨c6, 0, none⟩)]) rfl rfl (by kernel_rfl) (by kernel_rfl) (by kernel_rfl) (fun _ _ _ h => h) (Or.inl ⟨rfl, fun W hW => by go_simp⟩) hH ?_
  simp only [Act.put, List.setIfInBounds_toArray, List.set_cons_zero, List.set_cons_succ]
  have c_R_0 := R8.c 0 _ rfl
  have f_R_0 := R8.f 0 _ rfl
  have c_R_1 := R8.c 1 _ rfl
  have f_R_1 := R8.f 1 _ rfl
  refine oneH 19 rfl (by kernel_rfl) (fun K' hK => ?_)
  go_simp
  obtain ⟨w9, hw9⟩ : ∃ v, v = (w8.setCell ⟨w.heap.size + 1, 0, none⟩ (.pointer (some ⟨c3, 0, none⟩))).setCell ⟨w.heap.size + 1, 1, none⟩ (.pointer (some ⟨c6, 0, none⟩)) := ⟨_, rfl⟩
  have tn9 : Tn [w.heap.size + 1] w8 w9 := by rw [hw9]; exact ((tnL w8 (w.heap.size + 1) 0 (.pointer (some ⟨c3, 0, none⟩))).trans (tnL _ (w.heap.size + 1) 1 (.pointer (some ⟨c6, 0, none⟩))))
  have R9 : BoxL w9 w.heap.size (w.heap.size + 1) [.pointer (some ⟨c3, 0, none⟩), .pointer (some ⟨c6, 0, none⟩)] := by rw [hw9]; exact ((R8.set 0 (.pointer (some ⟨c3, 0, none⟩)) (by simp)).set 1 (.pointer (some ⟨c6, 0, none⟩)) (by simp))
  have blo9 := R8.lo
  rw [← hw9]
  clear hw9
  have B9 := tn9.below B8 B8.size (fun q hq => by simp at hq; omega)
  have X9 := X8.tn tn9 (not_one (by omega))
  have sp9 := sp8.tnL tn9 (not_one (by omega))
  have sq9 := sq8.tnL tn9 (not_one (by omega))
  have sm9 := sm8.tnL tn9 (not_one (by omega))
  have sc9 := sc8.tnL tn9 (not_one (by omega))
  have sf9 := sf8.tnL tn9 (not_one (by omega))
  clear B8 X8 R8 sp8 sq8 sm8 sc8 sf8 tn9 blo9
  clear c_R_0 f_R_0 c_R_1 f_R_1
  clear hH
  have hH : (fun W : World => W.cell? ⟨w.heap.size, 0, none⟩ = some (.pointer (some ⟨p, 0, none⟩)) ∧ W.cell? ⟨w.heap.size, 1, none⟩ = some (.pointer (some ⟨q, 0, none⟩))) w9 := ⟨X9.c 0 _ rfl, X9.c 1 _ rfl⟩
  refine hK _ _ hH ?_
  clear hK
  clear hH
  refine wpAnyH_done (by kernel_rfl) ?_ _
  clear kU kV kM kN kS kT
  have c_R_0 := R9.c 0 _ rfl
  have c_R_1 := R9.c 1 _ rfl
  go_wp2
  (try simp only [Exit.inBlock, Exit.then])
  refine bodyPost_ret (v := .agg #[.pointer (some ⟨c3, 0, none⟩), .pointer (some ⟨c6, 0, none⟩)]) ?_ rfl ⟨_, _, rfl, sc9, sf9, B9, ge_sc, ge_sf⟩
  rw [results_cell1 rfl]
  go_simp

set_option maxRecDepth 20000 in
set_option maxHeartbeats 6400000 in
theorem stepI_c (p q : Nat) (x y kk : Int) (k : Nat) (d : Int) (w : World) (sp : SG w p x) (sq : SG w q y) (m1 : (limbs x.natAbs).length ≤ 48) (m2 : (limbs y.natAbs).length ≤ 48) (hk : k ≤ 30) (hd : d = 1 ∨ d = -1) (h0 : 0 ≤ kk) (h1 : kk ≤ 2000) :
    Calls Try.prog 44 #[.agg #[.pointer (some ⟨p, 0, none⟩), .pointer (some ⟨q, 0, none⟩), .int .i64 kk], .int .i64 k, .int .i64 d] w fun e w' => ∃ c c2 : Nat, e = .returned (.agg #[.pointer (some ⟨c, 0, none⟩), .pointer (some ⟨c2, 0, none⟩), .int .i64 (kk + k)]) ∧ SG w' c (stX x y k d) ∧ SG w' c2 (stY x y k d) ∧ Below w.heap.size w w' ∧ w.heap.size ≤ c ∧ w.heap.size ≤ c2 := by
  have kT := fun W h1 h2 => pturned_c p q x y k d W h1 h2 m1 m2 hk hd
  have hs1 : 0 ≤ kk + (k : Int) := by omega
  have hs2 : kk + (k : Int) ≤ 2030 := by omega
  have hwk : IntKind.i64.wrap (kk + (k : Int)) = kk + (k : Int) := by rw [IntKind.wrap_i64]; omega
  clear m1 m2 hd hk hs1 hs2
  have B0_0 : Below w.heap.size w w := Below.refl _ _
  obtain ⟨ww1, hww1⟩ : ∃ v, v = w.alloc (.cells #[.pointer (some ⟨p, 0, none⟩), .pointer (some ⟨q, 0, none⟩), .int .i64 kk] 65) := ⟨_, rfl⟩
  have sz1 : ww1.heap.size = w.heap.size + 1 := by rw [hww1]; simp
  have bw1 : Below w.heap.size w ww1 := by rw [hww1]; exact below1 _ _
  have B0_1 := B0_0.trans (bw1.mono B0_0.size)
  have X0_1 : BoxL ww1 w.heap.size w.heap.size [.pointer (some ⟨p, 0, none⟩), .pointer (some ⟨q, 0, none⟩), .int .i64 kk] := by rw [hww1]; have h := BoxL.made w [.pointer (some ⟨p, 0, none⟩), .pointer (some ⟨q, 0, none⟩), .int .i64 kk] 65; exact h
  obtain ⟨ww2, hww2⟩ : ∃ v, v = ww1.alloc (.cells #[.pointer none, .pointer none, .int .i64 0] 65) := ⟨_, rfl⟩
  have sz2 : ww2.heap.size = w.heap.size + 1 + 1 := by rw [hww2]; simp [sz1]
  have bw2 : Below ww1.heap.size ww1 ww2 := by rw [hww2]; exact below1 _ _
  have B0_2 := B0_1.trans (bw2.mono B0_1.size)
  have X0_2 := X0_1.below bw2 (Nat.le_refl _)
  have R0_2 : BoxL ww2 (w.heap.size + 1) (w.heap.size + 1) [.pointer none, .pointer none, .int .i64 0] := by rw [hww2]; have h := BoxL.made ww1 [.pointer none, .pointer none, .int .i64 0] 65; rw [sz1] at h; exact h
  have X0 := X0_2
  have R0 := R0_2.mono (by omega : w.heap.size ≤ w.heap.size + 1)
  have B0 := B0_2
  have sp0 := sp.below B0 sp.lt
  have lt_sp := sp.lt
  have sq0 := sq.below B0 sq.lt
  have lt_sq := sq.lt
  clear B0_0 B0_1 B0_2 bw1 bw2 X0_1 X0_2 R0_2
  clear sp sq
  go_enter Try.func44, Try.ntmps44
  go_wp2_with fail
  have hvv : (w.alloc (.cells #[.pointer (some ⟨p, 0, none⟩), .pointer (some ⟨q, 0, none⟩), .int .i64 kk] 65)).alloc (.cells #[.pointer none, .pointer none, .int .i64 0] 65) = ww2 := by rw [hww2]; rw [hww1]
  rw [hvv]
  clear hvv hww1 hww2 sz1
  clear ww1
  have hz0 : w.heap.size + 2 ≤ ww2.heap.size := by omega
  clear sz2
  obtain ⟨w1, hw1⟩ : ∃ v, Hid (v = ww2.drew) := ⟨_, rfl⟩
  have bd : Below ww2.heap.size ww2 w1 := by rw [hw1.out]; exact (Below.refl ww2.heap.size ww2).drew
  have B1 := B0.trans (bd.mono B0.size)
  have X1 := X0.below bd (Nat.le_refl _)
  have R1 := R0.below bd (Nat.le_refl _)
  have sp1 := sp0.below bd sp0.lt
  have sq1 := sq0.below bd sq0.lt
  clear B0 X0 R0 sp0 sq0 bd
  have hH : (fun W : World => W.cell? ⟨w.heap.size, 0, none⟩ = some (.pointer (some ⟨p, 0, none⟩)) ∧ W.cell? ⟨w.heap.size, 1, none⟩ = some (.pointer (some ⟨q, 0, none⟩)) ∧ W.cell? ⟨w.heap.size, 2, none⟩ = some (.int .i64 kk)) w1 := ⟨X1.c 0 _ rfl, X1.c 1 _ rfl, X1.c 2 _ rfl⟩
  refine wp_region_held_drew (S := fun W => W.cell? ⟨w.heap.size, 0, none⟩ = some (.pointer (some ⟨p, 0, none⟩)) ∧ W.cell? ⟨w.heap.size, 1, none⟩ = some (.pointer (some ⟨q, 0, none⟩)) ∧ W.cell? ⟨w.heap.size, 2, none⟩ = some (.int .i64 kk)) (by kernel_rfl) (by rw [← hw1.out]; exact hH) ?_
  intro _
  rw [← hw1.out]
  clear hw1
  refine takeH 0 (some 7) (.pointer (some ⟨w.heap.size, 0, none⟩)) rfl rfl (by kernel_rfl) (by kernel_rfl) (by kernel_rfl) (fun _ _ _ h => h) (Or.inl ⟨rfl, fun W hW => by go_simp⟩) hH ?_
  simp only [Act.put, List.setIfInBounds_toArray, List.set_cons_zero, List.set_cons_succ]
  refine takeH 1 (some 8) (.agg #[.pointer (some ⟨p, 0, none⟩), .pointer (some ⟨q, 0, none⟩)]) rfl rfl (by kernel_rfl) (by kernel_rfl) (by kernel_rfl) (fun _ _ _ h => h) (Or.inl ⟨rfl, fun W hW => by obtain ⟨l0, l1, l2⟩ := hW; go_simp⟩) hH ?_
  simp only [Act.put, List.setIfInBounds_toArray, List.set_cons_zero, List.set_cons_succ]
  refine takeH 2 (some 9) (.int .i64 k) rfl rfl (by kernel_rfl) (by kernel_rfl) (by kernel_rfl) (fun _ _ _ h => h) (Or.inl ⟨rfl, fun W hW => by go_simp⟩) hH ?_
  simp only [Act.put, List.setIfInBounds_toArray, List.set_cons_zero, List.set_cons_succ]
  refine takeH 3 (some 10) (.int .i64 d) rfl rfl (by kernel_rfl) (by kernel_rfl) (by kernel_rfl) (fun _ _ _ h => h) (Or.inl ⟨rfl, fun W hW => by go_simp⟩) hH ?_
  simp only [Act.put, List.setIfInBounds_toArray, List.set_cons_zero, List.set_cons_succ]
  refine takeH 5 (some 12) (.pointer (some ⟨w.heap.size, 2, none⟩)) rfl rfl (by kernel_rfl) (by kernel_rfl) (by kernel_rfl) (fun _ _ _ h => h) (Or.inl ⟨rfl, fun W hW => by go_simp⟩) hH ?_
  simp only [Act.put, List.setIfInBounds_toArray, List.set_cons_zero, List.set_cons_succ]
  refine takeH 6 (some 13) (.int .i64 kk) rfl rfl (by kernel_rfl) (by kernel_rfl) (by kernel_rfl) (fun _ _ _ h => h) (Or.inl ⟨rfl, fun W hW => by obtain ⟨l0, l1, l2⟩ := hW; go_simp⟩) hH ?_
  simp only [Act.put, List.setIfInBounds_toArray, List.set_cons_zero, List.set_cons_succ]
  refine takeH 7 (some 14) (.int .i64 k) rfl rfl (by kernel_rfl) (by kernel_rfl) (by kernel_rfl) (fun _ _ _ h => h) (Or.inl ⟨rfl, fun W hW => by go_simp⟩) hH ?_
  simp only [Act.put, List.setIfInBounds_toArray, List.set_cons_zero, List.set_cons_succ]
  refine takeH 8 (some 15) (.int .i64 (kk + (k : Int))) rfl rfl (by kernel_rfl) (by kernel_rfl) (by kernel_rfl) (fun _ _ _ h => h) (Or.inl ⟨rfl, fun W hW => by go_simp⟩) hH ?_
  simp only [Act.put, List.setIfInBounds_toArray, List.set_cons_zero, List.set_cons_succ]
  refine oneH 4 rfl (by kernel_rfl) (fun K' hK => ?_)
  go_simp
  refine (kT _ sp1 sq1).mono ?_
  rintro e w2 ⟨c, c2, rfl, sa, sb, bb2, hc, hd⟩
  have ge_sa : w.heap.size ≤ c := Nat.le_trans B1.size hc
  have ne_X_sa : ¬ (c = w.heap.size) := fun e => by have h1 := X1.hi; omega
  have ne_R_sa : ¬ (c = w.heap.size + 1) := fun e => by have h1 := R1.hi; omega
  clear hc
  have ge_sb : w.heap.size ≤ c2 := Nat.le_trans B1.size hd
  have ne_X_sb : ¬ (c2 = w.heap.size) := fun e => by have h1 := X1.hi; omega
  have ne_R_sb : ¬ (c2 = w.heap.size + 1) := fun e => by have h1 := R1.hi; omega
  clear hd
  have B2 := B1.trans (bb2.mono B1.size)
  have X2 := X1.below bb2 (Nat.le_refl _)
  have R2 := R1.below bb2 (Nat.le_refl _)
  have sp2 := sp1.below bb2 sp1.lt
  have sq2 := sq1.below bb2 sq1.lt
  clear B1 X1 R1 sp1 sq1 bb2 hH
  have sa2 := sa
  clear sa
  have sb2 := sb
  clear sb
  have hH : (fun W : World => W.cell? ⟨w.heap.size, 0, none⟩ = some (.pointer (some ⟨p, 0, none⟩)) ∧ W.cell? ⟨w.heap.size, 1, none⟩ = some (.pointer (some ⟨q, 0, none⟩)) ∧ W.cell? ⟨w.heap.size, 2, none⟩ = some (.int .i64 kk)) w2 := ⟨X2.c 0 _ rfl, X2.c 1 _ rfl, X2.c 2 _ rfl⟩
  refine hK _ _ hH ?_
  clear hK
  refine takeH 9 (some 16) (.agg #[.pointer (some ⟨c, 0, none⟩), .pointer (some ⟨c2, 0, none⟩), .int .i64 (kk + (k : Int))]) rfl rfl (by kernel_rfl) (by kernel_rfl) (by kernel_rfl) (fun _ _ _ h => h) (Or.inl ⟨rfl, fun W hW => by go_simp⟩) hH ?_
  simp only [Act.put, List.setIfInBounds_toArray, List.set_cons_zero, List.set_cons_succ]
  have c_R_0 := R2.c 0 _ rfl
  have f_R_0 := R2.f 0 _ rfl
  have c_R_1 := R2.c 1 _ rfl
  have f_R_1 := R2.f 1 _ rfl
  have c_R_2 := R2.c 2 _ rfl
  have f_R_2 := R2.f 2 _ rfl
  refine oneH 10 rfl (by kernel_rfl) (fun K' hK => ?_)
  go_simp
  obtain ⟨w3, hw3⟩ : ∃ v, v = ((w2.setCell ⟨w.heap.size + 1, 0, none⟩ (.pointer (some ⟨c, 0, none⟩))).setCell ⟨w.heap.size + 1, 1, none⟩ (.pointer (some ⟨c2, 0, none⟩))).setCell ⟨w.heap.size + 1, 2, none⟩ (.int .i64 (kk + (k : Int))) := ⟨_, rfl⟩
  have tn3 : Tn [w.heap.size + 1] w2 w3 := by rw [hw3]; exact (((tnL w2 (w.heap.size + 1) 0 (.pointer (some ⟨c, 0, none⟩))).trans (tnL _ (w.heap.size + 1) 1 (.pointer (some ⟨c2, 0, none⟩)))).trans (tnL _ (w.heap.size + 1) 2 (.int .i64 (kk + (k : Int)))))
  have R3 : BoxL w3 w.heap.size (w.heap.size + 1) [.pointer (some ⟨c, 0, none⟩), .pointer (some ⟨c2, 0, none⟩), .int .i64 (kk + (k : Int))] := by rw [hw3]; exact (((R2.set 0 (.pointer (some ⟨c, 0, none⟩)) (by simp)).set 1 (.pointer (some ⟨c2, 0, none⟩)) (by simp)).set 2 (.int .i64 (kk + (k : Int))) (by simp))
  have blo3 := R2.lo
  rw [← hw3]
  clear hw3
  have B3 := tn3.below B2 B2.size (fun q hq => by simp at hq; omega)
  have X3 := X2.tn tn3 (not_one (by omega))
  have sp3 := sp2.tnL tn3 (not_one (by omega))
  have sq3 := sq2.tnL tn3 (not_one (by omega))
  have sa3 := sa2.tnL tn3 (not_one (by omega))
  have sb3 := sb2.tnL tn3 (not_one (by omega))
  clear B2 X2 R2 sp2 sq2 sa2 sb2 tn3 blo3
  clear c_R_0 f_R_0 c_R_1 f_R_1 c_R_2 f_R_2
  clear hH
  have hH : (fun W : World => W.cell? ⟨w.heap.size, 0, none⟩ = some (.pointer (some ⟨p, 0, none⟩)) ∧ W.cell? ⟨w.heap.size, 1, none⟩ = some (.pointer (some ⟨q, 0, none⟩)) ∧ W.cell? ⟨w.heap.size, 2, none⟩ = some (.int .i64 kk)) w3 := ⟨X3.c 0 _ rfl, X3.c 1 _ rfl, X3.c 2 _ rfl⟩
  refine hK _ _ hH ?_
  clear hK
  clear hH
  refine wpAnyH_done (by kernel_rfl) ?_ _
  clear kT
  have c_R_0 := R3.c 0 _ rfl
  have c_R_1 := R3.c 1 _ rfl
  have c_R_2 := R3.c 2 _ rfl
  go_wp2
  (try simp only [Exit.inBlock, Exit.then])
  refine bodyPost_ret (v := .agg #[.pointer (some ⟨c, 0, none⟩), .pointer (some ⟨c2, 0, none⟩), .int .i64 (kk + (k : Int))]) ?_ rfl ⟨_, _, rfl, sa3, sb3, B3, ge_sa, ge_sb⟩
  rw [results_cell1 rfl]
  go_simp

theorem raisedAt_b (p : Int) (w : World) : Calls Try.prog 72 #[.int .i64 p] w fun e w' => e = .returned (.bool (decide (0 ≤ p ∧ p ≤ 2000))) ∧ Below w.heap.size w w' :=
  (raisedAt p w).mono fun _ _ ⟨h1, h2⟩ => ⟨h1, h2 ▸ Below.refl _ _⟩
/-- What a spinning point comes to as a Spin. -/
def spinF (x y kk : Int) : Ph × Bool := if (fitW x).2 = true ∧ (fitW y).2 = true ∧ 0 ≤ kk ∧ kk ≤ 2000 then ((((fitW x).1, (fitW y).1), kk), true) else ((((false, []), (false, [])), 0), false)
theorem nilP (w : World) (base : Nat) : ownsP w base (.agg #[.bool false, .slice none 0 0, .bool false, .slice none 0 0, .int .i64 0]) (((false, []), (false, [])), 0) :=
  ⟨_, _, rfl, ⟨rfl, .inl ⟨rfl, rfl⟩⟩, ⟨rfl, .inl ⟨rfl, rfl⟩⟩, fun k hk => by simp [blkI, Value.ownBlock] at hk⟩
set_option maxRecDepth 20000 in
set_option maxHeartbeats 6400000 in
theorem spin_c (p q : Nat) (x y kk : Int) (w : World) (sp : SG w p x) (sq : SG w q y) :
    Calls Try.prog 45 #[.agg #[.pointer (some ⟨p, 0, none⟩), .pointer (some ⟨q, 0, none⟩), .int .i64 kk]] w fun e w' => ∃ v, e = .returned (.tuple #[v, .bool (spinF x y kk).2]) ∧ ownsP w' w.heap.size v (spinF x y kk).1 ∧ Below w.heap.size w w' := by
  have kP := fun W h => sWhole p x W h
  have kQ := fun W h => sWhole q y W h
  have kR := fun W => raisedAt_b kk W
  have HF : Hid (spinF x y kk = if (fitW x).2 = true ∧ (fitW y).2 = true ∧ 0 ≤ kk ∧ kk ≤ 2000 then ((((fitW x).1, (fitW y).1), kk), true) else ((((false, []), (false, [])), 0), false)) := rfl
  generalize spinF x y kk = rr at *
  generalize fitW x = f1 at *
  generalize fitW y = f2 at *
  obtain ⟨a1, b1⟩ := f1
  obtain ⟨a2, b2⟩ := f2
  by_cases c0 : b1 = true
  case neg =>
    rw [if_neg (fun h => c0 h.1)] at HF
    obtain rfl : b1 = false := by simpa using c0
    clear kR
    clear c0
    have B0_0 : Below w.heap.size w w := Below.refl _ _
    obtain ⟨ww1, hww1⟩ : ∃ v, v = w.alloc (.cells #[.pointer (some ⟨p, 0, none⟩), .pointer (some ⟨q, 0, none⟩), .int .i64 kk] 65) := ⟨_, rfl⟩
    have sz1 : ww1.heap.size = w.heap.size + 1 := by rw [hww1]; simp
    have bw1 : Below w.heap.size w ww1 := by rw [hww1]; exact below1 _ _
    have B0_1 := B0_0.trans (bw1.mono B0_0.size)
    have X0_1 : BoxL ww1 w.heap.size w.heap.size [.pointer (some ⟨p, 0, none⟩), .pointer (some ⟨q, 0, none⟩), .int .i64 kk] := by rw [hww1]; have h := BoxL.made w [.pointer (some ⟨p, 0, none⟩), .pointer (some ⟨q, 0, none⟩), .int .i64 kk] 65; exact h
    obtain ⟨ww2, hww2⟩ : ∃ v, v = ww1.alloc (.cells #[.bool false, .slice none 0 0, .bool false, .slice none 0 0, .int .i64 0] 34) := ⟨_, rfl⟩
    have sz2 : ww2.heap.size = w.heap.size + 1 + 1 := by rw [hww2]; simp [sz1]
    have bw2 : Below ww1.heap.size ww1 ww2 := by rw [hww2]; exact below1 _ _
    have B0_2 := B0_1.trans (bw2.mono B0_1.size)
    have X0_2 := X0_1.below bw2 (Nat.le_refl _)
    have R0_2 : BoxL ww2 (w.heap.size + 1) (w.heap.size + 1) [.bool false, .slice none 0 0, .bool false, .slice none 0 0, .int .i64 0] := by rw [hww2]; have h := BoxL.made ww1 [.bool false, .slice none 0 0, .bool false, .slice none 0 0, .int .i64 0] 34; rw [sz1] at h; exact h
    have X0 := X0_2
    have R0 := R0_2.mono (by omega : w.heap.size ≤ w.heap.size + 1)
    have B0 := B0_2
    have sp0 := sp.below B0 sp.lt
    have lt_sp := sp.lt
    have sq0 := sq.below B0 sq.lt
    have lt_sq := sq.lt
    clear B0_0 B0_1 B0_2 bw1 bw2 X0_1 X0_2 R0_2
    clear sp sq
    go_enter Try.func45, Try.ntmps45
    go_wp2_with fail
    have hvv : (w.alloc (.cells #[.pointer (some ⟨p, 0, none⟩), .pointer (some ⟨q, 0, none⟩), .int .i64 kk] 65)).alloc (.cells #[.bool false, .slice none 0 0, .bool false, .slice none 0 0, .int .i64 0] 34) = ww2 := by rw [hww2]; rw [hww1]
    rw [hvv]
    clear hvv hww1 hww2 sz1
    clear ww1
    have hz0 : w.heap.size + 2 ≤ ww2.heap.size := by omega
    clear sz2
    refine (kP _ sp0).mono ?_
    rintro e w1 ⟨v, rfl, oa, bb1⟩
    obtain ⟨h1, s1, t1, u1, rfl⟩ := oa.cell
    have ap_X_oa : Apart (blkW (.agg #[.bool h1, .slice s1 t1 u1])) [w.heap.size] := apart_one fun q hq => by have h1 := (ownsW.ltb oa q hq).1; have h2 := X0.hi; omega
    have ap_R_oa : Apart (blkW (.agg #[.bool h1, .slice s1 t1 u1])) [w.heap.size + 1] := apart_one fun q hq => by have h1 := (ownsW.ltb oa q hq).1; have h2 := R0.hi; omega
    replace oa := ownsW_mono oa B0.size
    have B1 := B0.trans (bb1.mono B0.size)
    have X1 := X0.below bb1 (Nat.le_refl _)
    have R1 := R0.below bb1 (Nat.le_refl _)
    have sp1 := sp0.below bb1 sp0.lt
    have sq1 := sq0.below bb1 sq0.lt
    clear B0 X0 R0 sp0 sq0 bb1
    have oa1 := oa
    clear oa
    obtain ⟨w2, hw2⟩ : ∃ v, Hid (v = w1.alloc (.cells #[.bool h1, .slice s1 t1 u1] 27)) := ⟨_, rfl⟩
    have bb2 : Below w1.heap.size w1 w2 := by rw [hw2.out]; exact below1 _ _
    obtain ⟨qb2, hq2⟩ : ∃ v, Hid (v = w1.heap.size) := ⟨_, rfl⟩
    have P2 : BoxL w2 w.heap.size qb2 [.bool h1, .slice s1 t1 u1] := by rw [hw2.out, hq2.out]; exact (BoxL.made w1 [.bool h1, .slice s1 t1 u1] 27).mono B1.size
    have sn2 : w2.heap.size = qb2 + 1 := by rw [hw2.out, hq2.out]; simp
    have B2 := B1.trans (bb2.mono B1.size)
    have X2 := X1.below bb2 (Nat.le_refl _)
    have R2 := R1.below bb2 (Nat.le_refl _)
    have sp2 := sp1.below bb2 sp1.lt
    have sq2 := sq1.below bb2 sq1.lt
    have oa2 := ownsW.below oa1 bb2 (Nat.le_refl _)
    have lt_X_P : w.heap.size < qb2 := by rw [hq2.out]; exact X1.hi
    have lt_R_P : w.heap.size + 1 < qb2 := by rw [hq2.out]; exact R1.hi
    have ne_P_sp : ¬ (p = qb2) := fun e => by rw [hq2.out] at e; have h1 := sp1.lt; omega
    have ne_P_sq : ¬ (q = qb2) := fun e => by rw [hq2.out] at e; have h1 := sq1.lt; omega
    have ap_P_oa : Apart (blkW (.agg #[.bool h1, .slice s1 t1 u1])) [qb2] := apart_one fun q hq => by rw [hq2.out]; have h1 := (ownsW.ltb oa1 q hq).2; omega
    clear B1 X1 R1 sp1 sq1 oa1 bb2
    have c_X_0 := X2.c 0 _ rfl
    have c_X_1 := X2.c 1 _ rfl
    have c_X_2 := X2.c 2 _ rfl
    rw [hw2.out] at c_X_0
    rw [hw2.out] at c_X_1
    rw [hw2.out] at c_X_2
    replace sn2 : Hid (w2.heap.size = qb2 + 1) := sn2
    go_wp2_with fail
    replace sn2 := sn2.out
    rw [← hw2.out]
    (try rw [← hq2.out])
    (try rw [← sn2])
    clear c_X_0 c_X_1 c_X_2
    clear hw2 hq2 sn2
    refine (kQ _ sq2).mono ?_
    rintro e w3 ⟨v, rfl, ob, bb3⟩
    obtain ⟨h2, s2, t2, u2, rfl⟩ := ob.cell
    have ap_X_ob : Apart (blkW (.agg #[.bool h2, .slice s2 t2 u2])) [w.heap.size] := apart_one fun q hq => by have h1 := (ownsW.ltb ob q hq).1; have h2 := X2.hi; omega
    have ap_R_ob : Apart (blkW (.agg #[.bool h2, .slice s2 t2 u2])) [w.heap.size + 1] := apart_one fun q hq => by have h1 := (ownsW.ltb ob q hq).1; have h2 := R2.hi; omega
    have ap_P_ob : Apart (blkW (.agg #[.bool h2, .slice s2 t2 u2])) [qb2] := apart_one fun q hq => by have h1 := (ownsW.ltb ob q hq).1; have h2 := P2.hi; omega
    have ap_oa_ob : Apart (blkW (.agg #[.bool h1, .slice s1 t1 u1])) (blkW (.agg #[.bool h2, .slice s2 t2 u2])) := apart_of (fun k hk => (ownsW.ltb oa2 k hk).2) (fun k hk => (ownsW.ltb ob k hk).1)
    replace ob := ownsW_mono ob B2.size
    have B3 := B2.trans (bb3.mono B2.size)
    have X3 := X2.below bb3 (Nat.le_refl _)
    have R3 := R2.below bb3 (Nat.le_refl _)
    have sp3 := sp2.below bb3 sp2.lt
    have sq3 := sq2.below bb3 sq2.lt
    have oa3 := ownsW.below oa2 bb3 (Nat.le_refl _)
    have P3 := P2.below bb3 (Nat.le_refl _)
    clear B2 X2 R2 sp2 sq2 oa2 P2 bb3
    have ob3 := ob
    clear ob
    clear kP kQ
    clear sp3 sq3
    clear oa3 ob3 X3 P3
    obtain ⟨y1, hy1⟩ : ∃ v, v = w3.alloc (.cells #[.bool h2, .slice s2 t2 u2] 27) := ⟨_, rfl⟩
    have by1 : Below w3.heap.size w3 y1 := by rw [hy1]; exact below1 _ _
    have Ry1 := R3.below by1 (Nat.le_refl _)
    have By1 := B3.trans (by1.mono B3.size)
    clear by1
    have hlt : w.heap.size + 1 < w3.heap.size := R3.hi
    have c_R_0 := Ry1.c 0 _ rfl
    have f_R_0 := Ry1.f 0 _ rfl
    have c_R_1 := Ry1.c 1 _ rfl
    have f_R_1 := Ry1.f 1 _ rfl
    have c_R_2 := Ry1.c 2 _ rfl
    have f_R_2 := Ry1.f 2 _ rfl
    have c_R_3 := Ry1.c 3 _ rfl
    have f_R_3 := Ry1.f 3 _ rfl
    have c_R_4 := Ry1.c 4 _ rfl
    have f_R_4 := Ry1.f 4 _ rfl
    have d_R_0 := R3.c 0 _ rfl
    have g_R_0 := R3.f 0 _ rfl
    have d_R_1 := R3.c 1 _ rfl
    have g_R_1 := R3.f 1 _ rfl
    have d_R_2 := R3.c 2 _ rfl
    have g_R_2 := R3.f 2 _ rfl
    have d_R_3 := R3.c 3 _ rfl
    have g_R_3 := R3.f 3 _ rfl
    have d_R_4 := R3.c 4 _ rfl
    have g_R_4 := R3.f 4 _ rfl
    have HB0 := (((((B3.setCell (p := ⟨w.heap.size + 1, 0, none⟩) (by show w.heap.size ≤ w.heap.size + 1; omega) (.bool false)).setCell (p := ⟨w.heap.size + 1, 1, none⟩) (by show w.heap.size ≤ w.heap.size + 1; omega) (.slice none 0 0)).setCell (p := ⟨w.heap.size + 1, 2, none⟩) (by show w.heap.size ≤ w.heap.size + 1; omega) (.bool false)).setCell (p := ⟨w.heap.size + 1, 3, none⟩) (by show w.heap.size ≤ w.heap.size + 1; omega) (.slice none 0 0)).setCell (p := ⟨w.heap.size + 1, 4, none⟩) (by show w.heap.size ≤ w.heap.size + 1; omega) (.int .i64 0))
    have HB : Hid (Below w.heap.size w _) := HB0.alloc HB0.size (.cells #[.bool h2, .slice s2 t2 u2] 27)
    clear HB0
    clear B3
    subst hy1
    clear By1 Ry1 R3
    go_wp2
    (try simp only [Exit.inBlock, Exit.then])
    refine bodyPost_ret (v := .tuple #[.agg #[.bool false, .slice none 0 0, .bool false, .slice none 0 0, .int .i64 0], .bool false]) ?_ rfl ⟨_, by rw [HF.out], by rw [HF.out]; exact nilP _ _, HB.out⟩
    rw [results_cell_tmp rfl]
    go_simp
  subst c0
  by_cases c1 : b2 = true
  case neg =>
    rw [if_neg (fun h => c1 h.2.1)] at HF
    obtain rfl : b2 = false := by simpa using c1
    clear kR
    clear c1
    have B0_0 : Below w.heap.size w w := Below.refl _ _
    obtain ⟨ww1, hww1⟩ : ∃ v, v = w.alloc (.cells #[.pointer (some ⟨p, 0, none⟩), .pointer (some ⟨q, 0, none⟩), .int .i64 kk] 65) := ⟨_, rfl⟩
    have sz1 : ww1.heap.size = w.heap.size + 1 := by rw [hww1]; simp
    have bw1 : Below w.heap.size w ww1 := by rw [hww1]; exact below1 _ _
    have B0_1 := B0_0.trans (bw1.mono B0_0.size)
    have X0_1 : BoxL ww1 w.heap.size w.heap.size [.pointer (some ⟨p, 0, none⟩), .pointer (some ⟨q, 0, none⟩), .int .i64 kk] := by rw [hww1]; have h := BoxL.made w [.pointer (some ⟨p, 0, none⟩), .pointer (some ⟨q, 0, none⟩), .int .i64 kk] 65; exact h
    obtain ⟨ww2, hww2⟩ : ∃ v, v = ww1.alloc (.cells #[.bool false, .slice none 0 0, .bool false, .slice none 0 0, .int .i64 0] 34) := ⟨_, rfl⟩
    have sz2 : ww2.heap.size = w.heap.size + 1 + 1 := by rw [hww2]; simp [sz1]
    have bw2 : Below ww1.heap.size ww1 ww2 := by rw [hww2]; exact below1 _ _
    have B0_2 := B0_1.trans (bw2.mono B0_1.size)
    have X0_2 := X0_1.below bw2 (Nat.le_refl _)
    have R0_2 : BoxL ww2 (w.heap.size + 1) (w.heap.size + 1) [.bool false, .slice none 0 0, .bool false, .slice none 0 0, .int .i64 0] := by rw [hww2]; have h := BoxL.made ww1 [.bool false, .slice none 0 0, .bool false, .slice none 0 0, .int .i64 0] 34; rw [sz1] at h; exact h
    have X0 := X0_2
    have R0 := R0_2.mono (by omega : w.heap.size ≤ w.heap.size + 1)
    have B0 := B0_2
    have sp0 := sp.below B0 sp.lt
    have lt_sp := sp.lt
    have sq0 := sq.below B0 sq.lt
    have lt_sq := sq.lt
    clear B0_0 B0_1 B0_2 bw1 bw2 X0_1 X0_2 R0_2
    clear sp sq
    go_enter Try.func45, Try.ntmps45
    go_wp2_with fail
    have hvv : (w.alloc (.cells #[.pointer (some ⟨p, 0, none⟩), .pointer (some ⟨q, 0, none⟩), .int .i64 kk] 65)).alloc (.cells #[.bool false, .slice none 0 0, .bool false, .slice none 0 0, .int .i64 0] 34) = ww2 := by rw [hww2]; rw [hww1]
    rw [hvv]
    clear hvv hww1 hww2 sz1
    clear ww1
    have hz0 : w.heap.size + 2 ≤ ww2.heap.size := by omega
    clear sz2
    refine (kP _ sp0).mono ?_
    rintro e w1 ⟨v, rfl, oa, bb1⟩
    obtain ⟨h1, s1, t1, u1, rfl⟩ := oa.cell
    have ap_X_oa : Apart (blkW (.agg #[.bool h1, .slice s1 t1 u1])) [w.heap.size] := apart_one fun q hq => by have h1 := (ownsW.ltb oa q hq).1; have h2 := X0.hi; omega
    have ap_R_oa : Apart (blkW (.agg #[.bool h1, .slice s1 t1 u1])) [w.heap.size + 1] := apart_one fun q hq => by have h1 := (ownsW.ltb oa q hq).1; have h2 := R0.hi; omega
    replace oa := ownsW_mono oa B0.size
    have B1 := B0.trans (bb1.mono B0.size)
    have X1 := X0.below bb1 (Nat.le_refl _)
    have R1 := R0.below bb1 (Nat.le_refl _)
    have sp1 := sp0.below bb1 sp0.lt
    have sq1 := sq0.below bb1 sq0.lt
    clear B0 X0 R0 sp0 sq0 bb1
    have oa1 := oa
    clear oa
    obtain ⟨w2, hw2⟩ : ∃ v, Hid (v = w1.alloc (.cells #[.bool h1, .slice s1 t1 u1] 27)) := ⟨_, rfl⟩
    have bb2 : Below w1.heap.size w1 w2 := by rw [hw2.out]; exact below1 _ _
    obtain ⟨qb2, hq2⟩ : ∃ v, Hid (v = w1.heap.size) := ⟨_, rfl⟩
    have P2 : BoxL w2 w.heap.size qb2 [.bool h1, .slice s1 t1 u1] := by rw [hw2.out, hq2.out]; exact (BoxL.made w1 [.bool h1, .slice s1 t1 u1] 27).mono B1.size
    have sn2 : w2.heap.size = qb2 + 1 := by rw [hw2.out, hq2.out]; simp
    have B2 := B1.trans (bb2.mono B1.size)
    have X2 := X1.below bb2 (Nat.le_refl _)
    have R2 := R1.below bb2 (Nat.le_refl _)
    have sp2 := sp1.below bb2 sp1.lt
    have sq2 := sq1.below bb2 sq1.lt
    have oa2 := ownsW.below oa1 bb2 (Nat.le_refl _)
    have lt_X_P : w.heap.size < qb2 := by rw [hq2.out]; exact X1.hi
    have lt_R_P : w.heap.size + 1 < qb2 := by rw [hq2.out]; exact R1.hi
    have ne_P_sp : ¬ (p = qb2) := fun e => by rw [hq2.out] at e; have h1 := sp1.lt; omega
    have ne_P_sq : ¬ (q = qb2) := fun e => by rw [hq2.out] at e; have h1 := sq1.lt; omega
    have ap_P_oa : Apart (blkW (.agg #[.bool h1, .slice s1 t1 u1])) [qb2] := apart_one fun q hq => by rw [hq2.out]; have h1 := (ownsW.ltb oa1 q hq).2; omega
    clear B1 X1 R1 sp1 sq1 oa1 bb2
    have c_X_0 := X2.c 0 _ rfl
    have c_X_1 := X2.c 1 _ rfl
    have c_X_2 := X2.c 2 _ rfl
    rw [hw2.out] at c_X_0
    rw [hw2.out] at c_X_1
    rw [hw2.out] at c_X_2
    replace sn2 : Hid (w2.heap.size = qb2 + 1) := sn2
    go_wp2_with fail
    replace sn2 := sn2.out
    rw [← hw2.out]
    (try rw [← hq2.out])
    (try rw [← sn2])
    clear c_X_0 c_X_1 c_X_2
    clear hw2 hq2 sn2
    refine (kQ _ sq2).mono ?_
    rintro e w3 ⟨v, rfl, ob, bb3⟩
    obtain ⟨h2, s2, t2, u2, rfl⟩ := ob.cell
    have ap_X_ob : Apart (blkW (.agg #[.bool h2, .slice s2 t2 u2])) [w.heap.size] := apart_one fun q hq => by have h1 := (ownsW.ltb ob q hq).1; have h2 := X2.hi; omega
    have ap_R_ob : Apart (blkW (.agg #[.bool h2, .slice s2 t2 u2])) [w.heap.size + 1] := apart_one fun q hq => by have h1 := (ownsW.ltb ob q hq).1; have h2 := R2.hi; omega
    have ap_P_ob : Apart (blkW (.agg #[.bool h2, .slice s2 t2 u2])) [qb2] := apart_one fun q hq => by have h1 := (ownsW.ltb ob q hq).1; have h2 := P2.hi; omega
    have ap_oa_ob : Apart (blkW (.agg #[.bool h1, .slice s1 t1 u1])) (blkW (.agg #[.bool h2, .slice s2 t2 u2])) := apart_of (fun k hk => (ownsW.ltb oa2 k hk).2) (fun k hk => (ownsW.ltb ob k hk).1)
    replace ob := ownsW_mono ob B2.size
    have B3 := B2.trans (bb3.mono B2.size)
    have X3 := X2.below bb3 (Nat.le_refl _)
    have R3 := R2.below bb3 (Nat.le_refl _)
    have sp3 := sp2.below bb3 sp2.lt
    have sq3 := sq2.below bb3 sq2.lt
    have oa3 := ownsW.below oa2 bb3 (Nat.le_refl _)
    have P3 := P2.below bb3 (Nat.le_refl _)
    clear B2 X2 R2 sp2 sq2 oa2 P2 bb3
    have ob3 := ob
    clear ob
    clear kP kQ
    clear sp3 sq3
    clear oa3 ob3 X3 P3
    obtain ⟨y1, hy1⟩ : ∃ v, v = w3.alloc (.cells #[.bool h2, .slice s2 t2 u2] 27) := ⟨_, rfl⟩
    have by1 : Below w3.heap.size w3 y1 := by rw [hy1]; exact below1 _ _
    have Ry1 := R3.below by1 (Nat.le_refl _)
    have By1 := B3.trans (by1.mono B3.size)
    clear by1
    have hlt : w.heap.size + 1 < w3.heap.size := R3.hi
    have c_R_0 := Ry1.c 0 _ rfl
    have f_R_0 := Ry1.f 0 _ rfl
    have c_R_1 := Ry1.c 1 _ rfl
    have f_R_1 := Ry1.f 1 _ rfl
    have c_R_2 := Ry1.c 2 _ rfl
    have f_R_2 := Ry1.f 2 _ rfl
    have c_R_3 := Ry1.c 3 _ rfl
    have f_R_3 := Ry1.f 3 _ rfl
    have c_R_4 := Ry1.c 4 _ rfl
    have f_R_4 := Ry1.f 4 _ rfl
    have d_R_0 := R3.c 0 _ rfl
    have g_R_0 := R3.f 0 _ rfl
    have d_R_1 := R3.c 1 _ rfl
    have g_R_1 := R3.f 1 _ rfl
    have d_R_2 := R3.c 2 _ rfl
    have g_R_2 := R3.f 2 _ rfl
    have d_R_3 := R3.c 3 _ rfl
    have g_R_3 := R3.f 3 _ rfl
    have d_R_4 := R3.c 4 _ rfl
    have g_R_4 := R3.f 4 _ rfl
    have HB0 := (((((B3.setCell (p := ⟨w.heap.size + 1, 0, none⟩) (by show w.heap.size ≤ w.heap.size + 1; omega) (.bool false)).setCell (p := ⟨w.heap.size + 1, 1, none⟩) (by show w.heap.size ≤ w.heap.size + 1; omega) (.slice none 0 0)).setCell (p := ⟨w.heap.size + 1, 2, none⟩) (by show w.heap.size ≤ w.heap.size + 1; omega) (.bool false)).setCell (p := ⟨w.heap.size + 1, 3, none⟩) (by show w.heap.size ≤ w.heap.size + 1; omega) (.slice none 0 0)).setCell (p := ⟨w.heap.size + 1, 4, none⟩) (by show w.heap.size ≤ w.heap.size + 1; omega) (.int .i64 0))
    have HB : Hid (Below w.heap.size w _) := HB0.alloc HB0.size (.cells #[.bool h2, .slice s2 t2 u2] 27)
    clear HB0
    clear B3
    subst hy1
    clear By1 Ry1 R3
    go_wp2
    (try simp only [Exit.inBlock, Exit.then])
    refine bodyPost_ret (v := .tuple #[.agg #[.bool false, .slice none 0 0, .bool false, .slice none 0 0, .int .i64 0], .bool false]) ?_ rfl ⟨_, by rw [HF.out], by rw [HF.out]; exact nilP _ _, HB.out⟩
    rw [results_cell_tmp rfl]
    go_simp
  subst c1
  by_cases c2 : 0 ≤ kk ∧ kk ≤ 2000
  case neg =>
    rw [if_neg (fun h => c2 h.2.2)] at HF
    rw [decide_eq_false c2] at kR
    clear c2
    have B0_0 : Below w.heap.size w w := Below.refl _ _
    obtain ⟨ww1, hww1⟩ : ∃ v, v = w.alloc (.cells #[.pointer (some ⟨p, 0, none⟩), .pointer (some ⟨q, 0, none⟩), .int .i64 kk] 65) := ⟨_, rfl⟩
    have sz1 : ww1.heap.size = w.heap.size + 1 := by rw [hww1]; simp
    have bw1 : Below w.heap.size w ww1 := by rw [hww1]; exact below1 _ _
    have B0_1 := B0_0.trans (bw1.mono B0_0.size)
    have X0_1 : BoxL ww1 w.heap.size w.heap.size [.pointer (some ⟨p, 0, none⟩), .pointer (some ⟨q, 0, none⟩), .int .i64 kk] := by rw [hww1]; have h := BoxL.made w [.pointer (some ⟨p, 0, none⟩), .pointer (some ⟨q, 0, none⟩), .int .i64 kk] 65; exact h
    obtain ⟨ww2, hww2⟩ : ∃ v, v = ww1.alloc (.cells #[.bool false, .slice none 0 0, .bool false, .slice none 0 0, .int .i64 0] 34) := ⟨_, rfl⟩
    have sz2 : ww2.heap.size = w.heap.size + 1 + 1 := by rw [hww2]; simp [sz1]
    have bw2 : Below ww1.heap.size ww1 ww2 := by rw [hww2]; exact below1 _ _
    have B0_2 := B0_1.trans (bw2.mono B0_1.size)
    have X0_2 := X0_1.below bw2 (Nat.le_refl _)
    have R0_2 : BoxL ww2 (w.heap.size + 1) (w.heap.size + 1) [.bool false, .slice none 0 0, .bool false, .slice none 0 0, .int .i64 0] := by rw [hww2]; have h := BoxL.made ww1 [.bool false, .slice none 0 0, .bool false, .slice none 0 0, .int .i64 0] 34; rw [sz1] at h; exact h
    have X0 := X0_2
    have R0 := R0_2.mono (by omega : w.heap.size ≤ w.heap.size + 1)
    have B0 := B0_2
    have sp0 := sp.below B0 sp.lt
    have lt_sp := sp.lt
    have sq0 := sq.below B0 sq.lt
    have lt_sq := sq.lt
    clear B0_0 B0_1 B0_2 bw1 bw2 X0_1 X0_2 R0_2
    clear sp sq
    go_enter Try.func45, Try.ntmps45
    go_wp2_with fail
    have hvv : (w.alloc (.cells #[.pointer (some ⟨p, 0, none⟩), .pointer (some ⟨q, 0, none⟩), .int .i64 kk] 65)).alloc (.cells #[.bool false, .slice none 0 0, .bool false, .slice none 0 0, .int .i64 0] 34) = ww2 := by rw [hww2]; rw [hww1]
    rw [hvv]
    clear hvv hww1 hww2 sz1
    clear ww1
    have hz0 : w.heap.size + 2 ≤ ww2.heap.size := by omega
    clear sz2
    refine (kP _ sp0).mono ?_
    rintro e w1 ⟨v, rfl, oa, bb1⟩
    obtain ⟨h1, s1, t1, u1, rfl⟩ := oa.cell
    have ap_X_oa : Apart (blkW (.agg #[.bool h1, .slice s1 t1 u1])) [w.heap.size] := apart_one fun q hq => by have h1 := (ownsW.ltb oa q hq).1; have h2 := X0.hi; omega
    have ap_R_oa : Apart (blkW (.agg #[.bool h1, .slice s1 t1 u1])) [w.heap.size + 1] := apart_one fun q hq => by have h1 := (ownsW.ltb oa q hq).1; have h2 := R0.hi; omega
    replace oa := ownsW_mono oa B0.size
    have B1 := B0.trans (bb1.mono B0.size)
    have X1 := X0.below bb1 (Nat.le_refl _)
    have R1 := R0.below bb1 (Nat.le_refl _)
    have sp1 := sp0.below bb1 sp0.lt
    have sq1 := sq0.below bb1 sq0.lt
    clear B0 X0 R0 sp0 sq0 bb1
    have oa1 := oa
    clear oa
    obtain ⟨w2, hw2⟩ : ∃ v, Hid (v = w1.alloc (.cells #[.bool h1, .slice s1 t1 u1] 27)) := ⟨_, rfl⟩
    have bb2 : Below w1.heap.size w1 w2 := by rw [hw2.out]; exact below1 _ _
    obtain ⟨qb2, hq2⟩ : ∃ v, Hid (v = w1.heap.size) := ⟨_, rfl⟩
    have P2 : BoxL w2 w.heap.size qb2 [.bool h1, .slice s1 t1 u1] := by rw [hw2.out, hq2.out]; exact (BoxL.made w1 [.bool h1, .slice s1 t1 u1] 27).mono B1.size
    have sn2 : w2.heap.size = qb2 + 1 := by rw [hw2.out, hq2.out]; simp
    have B2 := B1.trans (bb2.mono B1.size)
    have X2 := X1.below bb2 (Nat.le_refl _)
    have R2 := R1.below bb2 (Nat.le_refl _)
    have sp2 := sp1.below bb2 sp1.lt
    have sq2 := sq1.below bb2 sq1.lt
    have oa2 := ownsW.below oa1 bb2 (Nat.le_refl _)
    have lt_X_P : w.heap.size < qb2 := by rw [hq2.out]; exact X1.hi
    have lt_R_P : w.heap.size + 1 < qb2 := by rw [hq2.out]; exact R1.hi
    have ne_P_sp : ¬ (p = qb2) := fun e => by rw [hq2.out] at e; have h1 := sp1.lt; omega
    have ne_P_sq : ¬ (q = qb2) := fun e => by rw [hq2.out] at e; have h1 := sq1.lt; omega
    have ap_P_oa : Apart (blkW (.agg #[.bool h1, .slice s1 t1 u1])) [qb2] := apart_one fun q hq => by rw [hq2.out]; have h1 := (ownsW.ltb oa1 q hq).2; omega
    clear B1 X1 R1 sp1 sq1 oa1 bb2
    have c_X_0 := X2.c 0 _ rfl
    have c_X_1 := X2.c 1 _ rfl
    have c_X_2 := X2.c 2 _ rfl
    rw [hw2.out] at c_X_0
    rw [hw2.out] at c_X_1
    rw [hw2.out] at c_X_2
    replace sn2 : Hid (w2.heap.size = qb2 + 1) := sn2
    go_wp2_with fail
    replace sn2 := sn2.out
    rw [← hw2.out]
    (try rw [← hq2.out])
    (try rw [← sn2])
    clear c_X_0 c_X_1 c_X_2
    clear hw2 hq2 sn2
    refine (kQ _ sq2).mono ?_
    rintro e w3 ⟨v, rfl, ob, bb3⟩
    obtain ⟨h2, s2, t2, u2, rfl⟩ := ob.cell
    have ap_X_ob : Apart (blkW (.agg #[.bool h2, .slice s2 t2 u2])) [w.heap.size] := apart_one fun q hq => by have h1 := (ownsW.ltb ob q hq).1; have h2 := X2.hi; omega
    have ap_R_ob : Apart (blkW (.agg #[.bool h2, .slice s2 t2 u2])) [w.heap.size + 1] := apart_one fun q hq => by have h1 := (ownsW.ltb ob q hq).1; have h2 := R2.hi; omega
    have ap_P_ob : Apart (blkW (.agg #[.bool h2, .slice s2 t2 u2])) [qb2] := apart_one fun q hq => by have h1 := (ownsW.ltb ob q hq).1; have h2 := P2.hi; omega
    have ap_oa_ob : Apart (blkW (.agg #[.bool h1, .slice s1 t1 u1])) (blkW (.agg #[.bool h2, .slice s2 t2 u2])) := apart_of (fun k hk => (ownsW.ltb oa2 k hk).2) (fun k hk => (ownsW.ltb ob k hk).1)
    replace ob := ownsW_mono ob B2.size
    have B3 := B2.trans (bb3.mono B2.size)
    have X3 := X2.below bb3 (Nat.le_refl _)
    have R3 := R2.below bb3 (Nat.le_refl _)
    have sp3 := sp2.below bb3 sp2.lt
    have sq3 := sq2.below bb3 sq2.lt
    have oa3 := ownsW.below oa2 bb3 (Nat.le_refl _)
    have P3 := P2.below bb3 (Nat.le_refl _)
    clear B2 X2 R2 sp2 sq2 oa2 P2 bb3
    have ob3 := ob
    clear ob
    clear kP kQ
    clear sp3 sq3
    obtain ⟨w4, hw4⟩ : ∃ v, Hid (v = w3.alloc (.cells #[.bool h2, .slice s2 t2 u2] 27)) := ⟨_, rfl⟩
    have bb4 : Below w3.heap.size w3 w4 := by rw [hw4.out]; exact below1 _ _
    obtain ⟨qb4, hq4⟩ : ∃ v, Hid (v = w3.heap.size) := ⟨_, rfl⟩
    have Q4 : BoxL w4 w.heap.size qb4 [.bool h2, .slice s2 t2 u2] := by rw [hw4.out, hq4.out]; exact (BoxL.made w3 [.bool h2, .slice s2 t2 u2] 27).mono B3.size
    have sn4 : w4.heap.size = qb4 + 1 := by rw [hw4.out, hq4.out]; simp
    have B4 := B3.trans (bb4.mono B3.size)
    have X4 := X3.below bb4 (Nat.le_refl _)
    have R4 := R3.below bb4 (Nat.le_refl _)
    have oa4 := ownsW.below oa3 bb4 (Nat.le_refl _)
    have P4 := P3.below bb4 (Nat.le_refl _)
    have ob4 := ownsW.below ob3 bb4 (Nat.le_refl _)
    have lt_X_Q : w.heap.size < qb4 := by rw [hq4.out]; exact X3.hi
    have lt_R_Q : w.heap.size + 1 < qb4 := by rw [hq4.out]; exact R3.hi
    have ap_Q_oa : Apart (blkW (.agg #[.bool h1, .slice s1 t1 u1])) [qb4] := apart_one fun q hq => by rw [hq4.out]; have h1 := (ownsW.ltb oa3 q hq).2; omega
    have lt_P_Q : qb2 < qb4 := by rw [hq4.out]; exact P3.hi
    have ap_Q_ob : Apart (blkW (.agg #[.bool h2, .slice s2 t2 u2])) [qb4] := apart_one fun q hq => by rw [hq4.out]; have h1 := (ownsW.ltb ob3 q hq).2; omega
    clear B3 X3 R3 oa3 P3 ob3 bb4
    have c_X_0 := X4.c 0 _ rfl
    have c_X_1 := X4.c 1 _ rfl
    have c_X_2 := X4.c 2 _ rfl
    rw [hw4.out] at c_X_0
    rw [hw4.out] at c_X_1
    rw [hw4.out] at c_X_2
    replace sn4 : Hid (w4.heap.size = qb4 + 1) := sn4
    go_wp2_with fail
    replace sn4 := sn4.out
    rw [← hw4.out]
    (try rw [← hq4.out])
    (try rw [← sn4])
    clear c_X_0 c_X_1 c_X_2
    clear hw4 hq4 sn4
    clear oa4 ob4
    refine (kR _).mono ?_
    rintro e w5 ⟨rfl, bb5⟩
    have B5 := B4.trans (bb5.mono B4.size)
    have X5 := X4.below bb5 (Nat.le_refl _)
    have R5 := R4.below bb5 (Nat.le_refl _)
    have P5 := P4.below bb5 (Nat.le_refl _)
    have Q5 := Q4.below bb5 (Nat.le_refl _)
    clear B4 X4 R4 P4 Q4 bb5
    clear kR
    clear X5 P5 Q5
    have c_R_0 := R5.c 0 _ rfl
    have f_R_0 := R5.f 0 _ rfl
    have c_R_1 := R5.c 1 _ rfl
    have f_R_1 := R5.f 1 _ rfl
    have c_R_2 := R5.c 2 _ rfl
    have f_R_2 := R5.f 2 _ rfl
    have c_R_3 := R5.c 3 _ rfl
    have f_R_3 := R5.f 3 _ rfl
    have c_R_4 := R5.c 4 _ rfl
    have f_R_4 := R5.f 4 _ rfl
    obtain ⟨w6, hw6⟩ : ∃ v, v = ((((w5.setCell ⟨w.heap.size + 1, 0, none⟩ (.bool false)).setCell ⟨w.heap.size + 1, 1, none⟩ (.slice none 0 0)).setCell ⟨w.heap.size + 1, 2, none⟩ (.bool false)).setCell ⟨w.heap.size + 1, 3, none⟩ (.slice none 0 0)).setCell ⟨w.heap.size + 1, 4, none⟩ (.int .i64 0) := ⟨_, rfl⟩
    have tn6 : Tn [w.heap.size + 1] w5 w6 := by rw [hw6]; exact (((((tnL w5 (w.heap.size + 1) 0 (.bool false)).trans (tnL _ (w.heap.size + 1) 1 (.slice none 0 0))).trans (tnL _ (w.heap.size + 1) 2 (.bool false))).trans (tnL _ (w.heap.size + 1) 3 (.slice none 0 0))).trans (tnL _ (w.heap.size + 1) 4 (.int .i64 0)))
    have R6 : BoxL w6 w.heap.size (w.heap.size + 1) [.bool false, .slice none 0 0, .bool false, .slice none 0 0, .int .i64 0] := by rw [hw6]; exact (((((R5.set 0 (.bool false) (by simp)).set 1 (.slice none 0 0) (by simp)).set 2 (.bool false) (by simp)).set 3 (.slice none 0 0) (by simp)).set 4 (.int .i64 0) (by simp))
    have blo6 := R5.lo
    have B6 := tn6.below B5 B5.size (fun q hq => by simp at hq; omega)
    clear B5 R5 tn6 blo6
    subst hw6
    go_wp2
    (try simp only [Exit.inBlock, Exit.then])
    refine bodyPost_ret (v := .tuple #[.agg #[.bool false, .slice none 0 0, .bool false, .slice none 0 0, .int .i64 0], .bool false]) ?_ rfl ⟨_, by rw [HF.out], by rw [HF.out]; exact nilP _ _, B6⟩
    rw [results_cell_tmp rfl]
    go_simp
  rw [decide_eq_true c2] at kR
  rw [if_pos ⟨rfl, rfl, c2⟩] at HF
  clear c2
  have B0_0 : Below w.heap.size w w := Below.refl _ _
  obtain ⟨ww1, hww1⟩ : ∃ v, v = w.alloc (.cells #[.pointer (some ⟨p, 0, none⟩), .pointer (some ⟨q, 0, none⟩), .int .i64 kk] 65) := ⟨_, rfl⟩
  have sz1 : ww1.heap.size = w.heap.size + 1 := by rw [hww1]; simp
  have bw1 : Below w.heap.size w ww1 := by rw [hww1]; exact below1 _ _
  have B0_1 := B0_0.trans (bw1.mono B0_0.size)
  have X0_1 : BoxL ww1 w.heap.size w.heap.size [.pointer (some ⟨p, 0, none⟩), .pointer (some ⟨q, 0, none⟩), .int .i64 kk] := by rw [hww1]; have h := BoxL.made w [.pointer (some ⟨p, 0, none⟩), .pointer (some ⟨q, 0, none⟩), .int .i64 kk] 65; exact h
  obtain ⟨ww2, hww2⟩ : ∃ v, v = ww1.alloc (.cells #[.bool false, .slice none 0 0, .bool false, .slice none 0 0, .int .i64 0] 34) := ⟨_, rfl⟩
  have sz2 : ww2.heap.size = w.heap.size + 1 + 1 := by rw [hww2]; simp [sz1]
  have bw2 : Below ww1.heap.size ww1 ww2 := by rw [hww2]; exact below1 _ _
  have B0_2 := B0_1.trans (bw2.mono B0_1.size)
  have X0_2 := X0_1.below bw2 (Nat.le_refl _)
  have R0_2 : BoxL ww2 (w.heap.size + 1) (w.heap.size + 1) [.bool false, .slice none 0 0, .bool false, .slice none 0 0, .int .i64 0] := by rw [hww2]; have h := BoxL.made ww1 [.bool false, .slice none 0 0, .bool false, .slice none 0 0, .int .i64 0] 34; rw [sz1] at h; exact h
  have X0 := X0_2
  have R0 := R0_2.mono (by omega : w.heap.size ≤ w.heap.size + 1)
  have B0 := B0_2
  have sp0 := sp.below B0 sp.lt
  have lt_sp := sp.lt
  have sq0 := sq.below B0 sq.lt
  have lt_sq := sq.lt
  clear B0_0 B0_1 B0_2 bw1 bw2 X0_1 X0_2 R0_2
  clear sp sq
  go_enter Try.func45, Try.ntmps45
  go_wp2_with fail
  have hvv : (w.alloc (.cells #[.pointer (some ⟨p, 0, none⟩), .pointer (some ⟨q, 0, none⟩), .int .i64 kk] 65)).alloc (.cells #[.bool false, .slice none 0 0, .bool false, .slice none 0 0, .int .i64 0] 34) = ww2 := by rw [hww2]; rw [hww1]
  rw [hvv]
  clear hvv hww1 hww2 sz1
  clear ww1
  have hz0 : w.heap.size + 2 ≤ ww2.heap.size := by omega
  clear sz2
  refine (kP _ sp0).mono ?_
  rintro e w1 ⟨v, rfl, oa, bb1⟩
  obtain ⟨h1, s1, t1, u1, rfl⟩ := oa.cell
  have ap_X_oa : Apart (blkW (.agg #[.bool h1, .slice s1 t1 u1])) [w.heap.size] := apart_one fun q hq => by have h1 := (ownsW.ltb oa q hq).1; have h2 := X0.hi; omega
  have ap_R_oa : Apart (blkW (.agg #[.bool h1, .slice s1 t1 u1])) [w.heap.size + 1] := apart_one fun q hq => by have h1 := (ownsW.ltb oa q hq).1; have h2 := R0.hi; omega
  replace oa := ownsW_mono oa B0.size
  have B1 := B0.trans (bb1.mono B0.size)
  have X1 := X0.below bb1 (Nat.le_refl _)
  have R1 := R0.below bb1 (Nat.le_refl _)
  have sp1 := sp0.below bb1 sp0.lt
  have sq1 := sq0.below bb1 sq0.lt
  clear B0 X0 R0 sp0 sq0 bb1
  have oa1 := oa
  clear oa
  obtain ⟨w2, hw2⟩ : ∃ v, Hid (v = w1.alloc (.cells #[.bool h1, .slice s1 t1 u1] 27)) := ⟨_, rfl⟩
  have bb2 : Below w1.heap.size w1 w2 := by rw [hw2.out]; exact below1 _ _
  obtain ⟨qb2, hq2⟩ : ∃ v, Hid (v = w1.heap.size) := ⟨_, rfl⟩
  have P2 : BoxL w2 w.heap.size qb2 [.bool h1, .slice s1 t1 u1] := by rw [hw2.out, hq2.out]; exact (BoxL.made w1 [.bool h1, .slice s1 t1 u1] 27).mono B1.size
  have sn2 : w2.heap.size = qb2 + 1 := by rw [hw2.out, hq2.out]; simp
  have B2 := B1.trans (bb2.mono B1.size)
  have X2 := X1.below bb2 (Nat.le_refl _)
  have R2 := R1.below bb2 (Nat.le_refl _)
  have sp2 := sp1.below bb2 sp1.lt
  have sq2 := sq1.below bb2 sq1.lt
  have oa2 := ownsW.below oa1 bb2 (Nat.le_refl _)
  have lt_X_P : w.heap.size < qb2 := by rw [hq2.out]; exact X1.hi
  have lt_R_P : w.heap.size + 1 < qb2 := by rw [hq2.out]; exact R1.hi
  have ne_P_sp : ¬ (p = qb2) := fun e => by rw [hq2.out] at e; have h1 := sp1.lt; omega
  have ne_P_sq : ¬ (q = qb2) := fun e => by rw [hq2.out] at e; have h1 := sq1.lt; omega
  have ap_P_oa : Apart (blkW (.agg #[.bool h1, .slice s1 t1 u1])) [qb2] := apart_one fun q hq => by rw [hq2.out]; have h1 := (ownsW.ltb oa1 q hq).2; omega
  clear B1 X1 R1 sp1 sq1 oa1 bb2
  have c_X_0 := X2.c 0 _ rfl
  have c_X_1 := X2.c 1 _ rfl
  have c_X_2 := X2.c 2 _ rfl
  rw [hw2.out] at c_X_0
  rw [hw2.out] at c_X_1
  rw [hw2.out] at c_X_2
  replace sn2 : Hid (w2.heap.size = qb2 + 1) := sn2
  go_wp2_with fail
  replace sn2 := sn2.out
  rw [← hw2.out]
  (try rw [← hq2.out])
  (try rw [← sn2])
  clear c_X_0 c_X_1 c_X_2
  clear hw2 hq2 sn2
  refine (kQ _ sq2).mono ?_
  rintro e w3 ⟨v, rfl, ob, bb3⟩
  obtain ⟨h2, s2, t2, u2, rfl⟩ := ob.cell
  have ap_X_ob : Apart (blkW (.agg #[.bool h2, .slice s2 t2 u2])) [w.heap.size] := apart_one fun q hq => by have h1 := (ownsW.ltb ob q hq).1; have h2 := X2.hi; omega
  have ap_R_ob : Apart (blkW (.agg #[.bool h2, .slice s2 t2 u2])) [w.heap.size + 1] := apart_one fun q hq => by have h1 := (ownsW.ltb ob q hq).1; have h2 := R2.hi; omega
  have ap_P_ob : Apart (blkW (.agg #[.bool h2, .slice s2 t2 u2])) [qb2] := apart_one fun q hq => by have h1 := (ownsW.ltb ob q hq).1; have h2 := P2.hi; omega
  have ap_oa_ob : Apart (blkW (.agg #[.bool h1, .slice s1 t1 u1])) (blkW (.agg #[.bool h2, .slice s2 t2 u2])) := apart_of (fun k hk => (ownsW.ltb oa2 k hk).2) (fun k hk => (ownsW.ltb ob k hk).1)
  replace ob := ownsW_mono ob B2.size
  have B3 := B2.trans (bb3.mono B2.size)
  have X3 := X2.below bb3 (Nat.le_refl _)
  have R3 := R2.below bb3 (Nat.le_refl _)
  have sp3 := sp2.below bb3 sp2.lt
  have sq3 := sq2.below bb3 sq2.lt
  have oa3 := ownsW.below oa2 bb3 (Nat.le_refl _)
  have P3 := P2.below bb3 (Nat.le_refl _)
  clear B2 X2 R2 sp2 sq2 oa2 P2 bb3
  have ob3 := ob
  clear ob
  clear kP kQ
  clear sp3 sq3
  obtain ⟨w4, hw4⟩ : ∃ v, Hid (v = w3.alloc (.cells #[.bool h2, .slice s2 t2 u2] 27)) := ⟨_, rfl⟩
  have bb4 : Below w3.heap.size w3 w4 := by rw [hw4.out]; exact below1 _ _
  obtain ⟨qb4, hq4⟩ : ∃ v, Hid (v = w3.heap.size) := ⟨_, rfl⟩
  have Q4 : BoxL w4 w.heap.size qb4 [.bool h2, .slice s2 t2 u2] := by rw [hw4.out, hq4.out]; exact (BoxL.made w3 [.bool h2, .slice s2 t2 u2] 27).mono B3.size
  have sn4 : w4.heap.size = qb4 + 1 := by rw [hw4.out, hq4.out]; simp
  have B4 := B3.trans (bb4.mono B3.size)
  have X4 := X3.below bb4 (Nat.le_refl _)
  have R4 := R3.below bb4 (Nat.le_refl _)
  have oa4 := ownsW.below oa3 bb4 (Nat.le_refl _)
  have P4 := P3.below bb4 (Nat.le_refl _)
  have ob4 := ownsW.below ob3 bb4 (Nat.le_refl _)
  have lt_X_Q : w.heap.size < qb4 := by rw [hq4.out]; exact X3.hi
  have lt_R_Q : w.heap.size + 1 < qb4 := by rw [hq4.out]; exact R3.hi
  have ap_Q_oa : Apart (blkW (.agg #[.bool h1, .slice s1 t1 u1])) [qb4] := apart_one fun q hq => by rw [hq4.out]; have h1 := (ownsW.ltb oa3 q hq).2; omega
  have lt_P_Q : qb2 < qb4 := by rw [hq4.out]; exact P3.hi
  have ap_Q_ob : Apart (blkW (.agg #[.bool h2, .slice s2 t2 u2])) [qb4] := apart_one fun q hq => by rw [hq4.out]; have h1 := (ownsW.ltb ob3 q hq).2; omega
  clear B3 X3 R3 oa3 P3 ob3 bb4
  have c_X_0 := X4.c 0 _ rfl
  have c_X_1 := X4.c 1 _ rfl
  have c_X_2 := X4.c 2 _ rfl
  rw [hw4.out] at c_X_0
  rw [hw4.out] at c_X_1
  rw [hw4.out] at c_X_2
  replace sn4 : Hid (w4.heap.size = qb4 + 1) := sn4
  go_wp2_with fail
  replace sn4 := sn4.out
  rw [← hw4.out]
  (try rw [← hq4.out])
  (try rw [← sn4])
  clear c_X_0 c_X_1 c_X_2
  clear hw4 hq4 sn4
  refine (kR _).mono ?_
  rintro e w5 ⟨rfl, bb5⟩
  have B5 := B4.trans (bb5.mono B4.size)
  have X5 := X4.below bb5 (Nat.le_refl _)
  have R5 := R4.below bb5 (Nat.le_refl _)
  have oa5 := ownsW.below oa4 bb5 (Nat.le_refl _)
  have P5 := P4.below bb5 (Nat.le_refl _)
  have ob5 := ownsW.below ob4 bb5 (Nat.le_refl _)
  have Q5 := Q4.below bb5 (Nat.le_refl _)
  clear B4 X4 R4 oa4 P4 ob4 Q4 bb5
  clear kR
  have c_P_0 := P5.c 0 _ rfl
  have c_P_1 := P5.c 1 _ rfl
  have c_Q_0 := Q5.c 0 _ rfl
  have c_Q_1 := Q5.c 1 _ rfl
  have c_X_0 := X5.c 0 _ rfl
  have c_X_1 := X5.c 1 _ rfl
  have c_X_2 := X5.c 2 _ rfl
  have c_R_0 := R5.c 0 _ rfl
  have f_R_0 := R5.f 0 _ rfl
  have c_R_1 := R5.c 1 _ rfl
  have f_R_1 := R5.f 1 _ rfl
  have c_R_2 := R5.c 2 _ rfl
  have f_R_2 := R5.f 2 _ rfl
  have c_R_3 := R5.c 3 _ rfl
  have f_R_3 := R5.f 3 _ rfl
  have c_R_4 := R5.c 4 _ rfl
  have f_R_4 := R5.f 4 _ rfl
  obtain ⟨w6, hw6⟩ : ∃ v, v = ((((w5.setCell ⟨w.heap.size + 1, 0, none⟩ (.bool h1)).setCell ⟨w.heap.size + 1, 1, none⟩ (.slice s1 t1 u1)).setCell ⟨w.heap.size + 1, 2, none⟩ (.bool h2)).setCell ⟨w.heap.size + 1, 3, none⟩ (.slice s2 t2 u2)).setCell ⟨w.heap.size + 1, 4, none⟩ (.int .i64 kk) := ⟨_, rfl⟩
  have tn6 : Tn [w.heap.size + 1] w5 w6 := by rw [hw6]; exact (((((tnL w5 (w.heap.size + 1) 0 (.bool h1)).trans (tnL _ (w.heap.size + 1) 1 (.slice s1 t1 u1))).trans (tnL _ (w.heap.size + 1) 2 (.bool h2))).trans (tnL _ (w.heap.size + 1) 3 (.slice s2 t2 u2))).trans (tnL _ (w.heap.size + 1) 4 (.int .i64 kk)))
  have R6 : BoxL w6 w.heap.size (w.heap.size + 1) [.bool h1, .slice s1 t1 u1, .bool h2, .slice s2 t2 u2, .int .i64 kk] := by rw [hw6]; exact (((((R5.set 0 (.bool h1) (by simp)).set 1 (.slice s1 t1 u1) (by simp)).set 2 (.bool h2) (by simp)).set 3 (.slice s2 t2 u2) (by simp)).set 4 (.int .i64 kk) (by simp))
  have blo6 := R5.lo
  have B6 := tn6.below B5 B5.size (fun q hq => by simp at hq; omega)
  have X6 := X5.tn tn6 (not_one (by omega))
  have oa6 := ownsW.tn oa5 tn6 ap_R_oa
  have P6 := P5.tn tn6 (not_one (by omega))
  have ob6 := ownsW.tn ob5 tn6 ap_R_ob
  have Q6 := Q5.tn tn6 (not_one (by omega))
  clear B5 X5 R5 oa5 P5 ob5 Q5 tn6 blo6
  subst hw6
  go_wp2
  (try simp only [Exit.inBlock, Exit.then])
  refine bodyPost_ret (v := .tuple #[.agg #[.bool h1, .slice s1 t1 u1, .bool h2, .slice s2 t2 u2, .int .i64 kk], .bool true]) ?_ rfl ⟨_, by rw [HF.out], by rw [HF.out]; exact ownsP.mk oa6 ob6 ap_oa_ob, B6⟩
  rw [results_cell_tmp rfl]
  go_simp

end Go.Proofs.Ytlpfjpbnedankaa

/- SpinStep of the program, by its contract. -/
namespace Go.Proofs.Ytlpfjpbnedankaa
open Go.RowKit
set_option linter.unusedSimpArgs false
set_option linter.unusedVariables false

theorem okW_mkI (z : Int) : okW (mkW z) = (fitW z).2 := by
  unfold fitW
  by_cases h : (limbs z.natAbs).length ≤ 48
  · rw [if_pos h, okW_iff]
    refine ⟨okL_limbs h, fun hn => ?_⟩
    have hz : z < 0 := by simpa [mkW] using hn
    show 0 < (limbs z.natAbs).length
    rw [limbs_pos _ (by omega)]
    simp
  · rw [if_neg h]
    cases e : okW (mkW z)
    · rfl
    · exfalso
      have h2 : okB (mkW z).2 = true := by unfold okW at e; simp at e; exact e.1
      unfold okB at h2
      simp at h2
      exact h h2.1.1
theorem fitW_of {z : Int} (h : (fitW z).2 = true) : (fitW z).1 = mkW z := by
  unfold fitW at h ⊢
  split at h
  · rename_i q; rw [if_pos q]
  · cases h
/-- The program's answer is the specification's: what fits is right. -/
theorem spinF_ok (x y kk : Int) : (okP ((mkW x, mkW y), kk) = true ∧ spinF x y kk = (((mkW x, mkW y), kk), true)) ∨ (okP ((mkW x, mkW y), kk) = false ∧ (spinF x y kk).2 = false) := by
  unfold spinF
  by_cases h : (fitW x).2 = true ∧ (fitW y).2 = true ∧ 0 ≤ kk ∧ kk ≤ 2000
  · rw [if_pos h]
    obtain ⟨h1, h2, h3, h4⟩ := h
    refine .inl ⟨?_, ?_⟩
    · unfold okP
      rw [okW_mkI, okW_mkI, h1, h2]
      simp [h3, h4]
    · rw [fitW_of h1, fitW_of h2]
  · rw [if_neg h]
    refine .inr ⟨?_, rfl⟩
    unfold okP
    rw [okW_mkI, okW_mkI]
    cases h1 : (fitW x).2
    · simp
    · cases h2 : (fitW y).2
      · simp
      · have h3 : ¬ (0 ≤ kk ∧ kk ≤ 2000) := fun q => h ⟨h1, h2, q.1, q.2⟩
        simp
        omega
set_option maxRecDepth 20000 in
set_option maxHeartbeats 6400000 in
theorem iSpinStep (va : Value) (a : Ph) (i d : Int) (w : World) (ha : rowP w va a) (hl0 : a.1.1.2.length ≤ 1048576) (hl1 : a.1.2.2.length ≤ 1048576) :
    Calls Try.prog 18 #[va, .int .i64 i, .int .i64 d] w fun e w' => ∃ v, e = .returned (.tuple #[v, .bool (stepR a i d).2]) ∧ ownsP w' w.heap.size v (stepR a i d).1 ∧ Below w.heap.size w w' := by
  have kC := fun W (h : Below w.heap.size w W) => iCopyP va a W (ha.below h (Nat.le_refl _)) hl0 hl1
  have kA := fun W (h : Below w.heap.size w W) => spinFrom_b va a W (ha.below h (Nat.le_refl _)) hl0 hl1
  by_cases c0 : okP a = true
  case neg =>
    have HR : Hid (stepR a i d = (a, false)) := by show _ = _; unfold stepR; rw [if_neg (fun h => c0 h.1)]
    obtain ⟨rr, hrr⟩ : ∃ r, stepR a i d = r := ⟨_, rfl⟩
    rw [hrr] at HR
    rw [hrr]
    clear hrr
    have hf : okP a = false := by simpa using c0
    rw [hf] at kA
    clear hf c0
    obtain ⟨gx, ax, nx, cx, gy, ay, ny, cy, eq⟩ := ha.cell
    subst eq
    clear ha hl0 hl1
    have B0_0 : Below w.heap.size w w := Below.refl _ _
    obtain ⟨ww1, hww1⟩ : ∃ v, v = w.alloc (.cells #[.bool gx, .slice ax nx cx, .bool gy, .slice ay ny cy, .int .i64 a.2] 34) := ⟨_, rfl⟩
    have sz1 : ww1.heap.size = w.heap.size + 1 := by rw [hww1]; simp
    have bw1 : Below w.heap.size w ww1 := by rw [hww1]; exact below1 _ _
    have B0_1 := B0_0.trans (bw1.mono B0_0.size)
    have X0_1 : BoxL ww1 w.heap.size w.heap.size [.bool gx, .slice ax nx cx, .bool gy, .slice ay ny cy, .int .i64 a.2] := by rw [hww1]; have h := BoxL.made w [.bool gx, .slice ax nx cx, .bool gy, .slice ay ny cy, .int .i64 a.2] 34; exact h
    obtain ⟨ww2, hww2⟩ : ∃ v, v = ww1.alloc (.cells #[.bool false, .slice none 0 0, .bool false, .slice none 0 0, .int .i64 0] 34) := ⟨_, rfl⟩
    have sz2 : ww2.heap.size = w.heap.size + 1 + 1 := by rw [hww2]; simp [sz1]
    have bw2 : Below ww1.heap.size ww1 ww2 := by rw [hww2]; exact below1 _ _
    have B0_2 := B0_1.trans (bw2.mono B0_1.size)
    have X0_2 := X0_1.below bw2 (Nat.le_refl _)
    have R0_2 : BoxL ww2 (w.heap.size + 1) (w.heap.size + 1) [.bool false, .slice none 0 0, .bool false, .slice none 0 0, .int .i64 0] := by rw [hww2]; have h := BoxL.made ww1 [.bool false, .slice none 0 0, .bool false, .slice none 0 0, .int .i64 0] 34; rw [sz1] at h; exact h
    have X0 := X0_2
    have R0 := R0_2.mono (by omega : w.heap.size ≤ w.heap.size + 1)
    have B0 := B0_2
    clear B0_0 B0_1 B0_2 bw1 bw2 X0_1 X0_2 R0_2
    go_enter Try.func18, Try.ntmps18
    go_wp2_with fail
    have hvv : (w.alloc (.cells #[.bool gx, .slice ax nx cx, .bool gy, .slice ay ny cy, .int .i64 a.2] 34)).alloc (.cells #[.bool false, .slice none 0 0, .bool false, .slice none 0 0, .int .i64 0] 34) = ww2 := by rw [hww2]; rw [hww1]
    rw [hvv]
    clear hvv hww1 hww2 sz1
    clear ww1
    have hz0 : w.heap.size + 2 ≤ ww2.heap.size := by omega
    clear sz2
    refine (kA _ B0).mono ?_
    rintro e w1 ⟨ox, oy, rfl, bb1, hXY⟩
    have B1 := B0.trans (bb1.mono B0.size)
    have X1 := X0.below bb1 (Nat.le_refl _)
    have R1 := R0.below bb1 (Nat.le_refl _)
    clear B0 X0 R0 bb1
    clear hXY
    clear kA
    obtain ⟨w2, hw2⟩ : ∃ v, Hid (v = w1.alloc (.cells #[.pointer ox, .pointer oy, .int .i64 a.2] 65)) := ⟨_, rfl⟩
    have bb2 : Below w1.heap.size w1 w2 := by rw [hw2.out]; exact below1 _ _
    obtain ⟨qb2, hq2⟩ : ∃ v, Hid (v = w1.heap.size) := ⟨_, rfl⟩
    have F2 : BoxL w2 w.heap.size qb2 [.pointer ox, .pointer oy, .int .i64 a.2] := by rw [hw2.out, hq2.out]; exact (BoxL.made w1 [.pointer ox, .pointer oy, .int .i64 a.2] 65).mono B1.size
    have B2 := B1.trans (bb2.mono B1.size)
    have X2 := X1.below bb2 (Nat.le_refl _)
    have R2 := R1.below bb2 (Nat.le_refl _)
    have lt_X_F : w.heap.size < qb2 := by rw [hq2.out]; exact X1.hi
    have lt_R_F : w.heap.size + 1 < qb2 := by rw [hq2.out]; exact R1.hi
    clear B1 X1 R1 bb2
    have c_X_0 := X2.c 0 _ rfl
    have c_X_1 := X2.c 1 _ rfl
    have c_X_2 := X2.c 2 _ rfl
    have c_X_3 := X2.c 3 _ rfl
    have c_X_4 := X2.c 4 _ rfl
    rw [hw2.out] at c_X_0
    rw [hw2.out] at c_X_1
    rw [hw2.out] at c_X_2
    rw [hw2.out] at c_X_3
    rw [hw2.out] at c_X_4
    go_wp2_with fail
    rw [← hw2.out]
    (try rw [← hq2.out])
    clear c_X_0 c_X_1 c_X_2 c_X_3 c_X_4
    clear hw2 hq2
    refine (kC _ B2).mono ?_
    rintro e w3 ⟨v, rfl, oz, bb3⟩
    obtain ⟨h8, s8, t8, u8, h9, s9, t9, u9, eqz⟩ := oz.cell
    subst eqz
    generalize hkz : a.2 = kk9 at *
    replace hkz : Hid (a.2 = kk9) := hkz
    have ap_X_oz : Apart (blkP (.agg #[.bool h8, .slice s8 t8 u8, .bool h9, .slice s9 t9 u9, .int .i64 kk9])) [w.heap.size] := apart_one fun q hq => by have h1 := (ownsP.ltb oz q hq).1; have h2 := X2.hi; omega
    have ap_R_oz : Apart (blkP (.agg #[.bool h8, .slice s8 t8 u8, .bool h9, .slice s9 t9 u9, .int .i64 kk9])) [w.heap.size + 1] := apart_one fun q hq => by have h1 := (ownsP.ltb oz q hq).1; have h2 := R2.hi; omega
    have ap_F_oz : Apart (blkP (.agg #[.bool h8, .slice s8 t8 u8, .bool h9, .slice s9 t9 u9, .int .i64 kk9])) [qb2] := apart_one fun q hq => by have h1 := (ownsP.ltb oz q hq).1; have h2 := F2.hi; omega
    replace oz := ownsP_mono oz B2.size
    have B3 := B2.trans (bb3.mono B2.size)
    have X3 := X2.below bb3 (Nat.le_refl _)
    have R3 := R2.below bb3 (Nat.le_refl _)
    have F3 := F2.below bb3 (Nat.le_refl _)
    clear B2 X2 R2 F2 bb3
    have oz3 := oz
    clear oz
    clear kC
    clear X3
    have c_R_0 := R3.c 0 _ rfl
    have f_R_0 := R3.f 0 _ rfl
    have c_R_1 := R3.c 1 _ rfl
    have f_R_1 := R3.f 1 _ rfl
    have c_R_2 := R3.c 2 _ rfl
    have f_R_2 := R3.f 2 _ rfl
    have c_R_3 := R3.c 3 _ rfl
    have f_R_3 := R3.f 3 _ rfl
    have c_R_4 := R3.c 4 _ rfl
    have f_R_4 := R3.f 4 _ rfl
    obtain ⟨w4, hw4⟩ : ∃ v, v = ((((w3.setCell ⟨w.heap.size + 1, 0, none⟩ (.bool h8)).setCell ⟨w.heap.size + 1, 1, none⟩ (.slice s8 t8 u8)).setCell ⟨w.heap.size + 1, 2, none⟩ (.bool h9)).setCell ⟨w.heap.size + 1, 3, none⟩ (.slice s9 t9 u9)).setCell ⟨w.heap.size + 1, 4, none⟩ (.int .i64 kk9) := ⟨_, rfl⟩
    have tn4 : Tn [w.heap.size + 1] w3 w4 := by rw [hw4]; exact (((((tnL w3 (w.heap.size + 1) 0 (.bool h8)).trans (tnL _ (w.heap.size + 1) 1 (.slice s8 t8 u8))).trans (tnL _ (w.heap.size + 1) 2 (.bool h9))).trans (tnL _ (w.heap.size + 1) 3 (.slice s9 t9 u9))).trans (tnL _ (w.heap.size + 1) 4 (.int .i64 kk9)))
    have R4 : BoxL w4 w.heap.size (w.heap.size + 1) [.bool h8, .slice s8 t8 u8, .bool h9, .slice s9 t9 u9, .int .i64 kk9] := by rw [hw4]; exact (((((R3.set 0 (.bool h8) (by simp)).set 1 (.slice s8 t8 u8) (by simp)).set 2 (.bool h9) (by simp)).set 3 (.slice s9 t9 u9) (by simp)).set 4 (.int .i64 kk9) (by simp))
    have blo4 := R3.lo
    have B4 := tn4.below B3 B3.size (fun q hq => by simp at hq; omega)
    have F4 := F3.tn tn4 (not_one (by omega))
    have oz4 := ownsP.tn oz3 tn4 ap_R_oz
    clear B3 R3 F3 oz3 tn4 blo4
    subst hw4
    go_wp2
    (try simp only [Exit.inBlock, Exit.then])
    refine bodyPost_ret (v := .tuple #[.agg #[.bool h8, .slice s8 t8 u8, .bool h9, .slice s9 t9 u9, .int .i64 kk9], .bool false]) ?_ rfl ⟨_, by rw [HR.out], by rw [HR.out]; exact oz4, B4⟩
    rw [results_cell_tmp rfl]
    go_simp
  rw [c0] at kA
  by_cases c1 : 0 ≤ i ∧ i ≤ 30
  case neg =>
    have HR : Hid (stepR a i d = (a, false)) := by show _ = _; unfold stepR; rw [if_neg (fun h => c1 h.2.1)]
    obtain ⟨rr, hrr⟩ : ∃ r, stepR a i d = r := ⟨_, rfl⟩
    rw [hrr] at HR
    rw [hrr]
    clear hrr
    have nn : i < 0 ∨ (0 ≤ i ∧ 30 < i) := by omega
    obtain ⟨gx, ax, nx, cx, gy, ay, ny, cy, eq⟩ := ha.cell
    subst eq
    clear ha hl0 hl1 c0 c1
    rcases nn with nn | nn
    · skip
      have B0_0 : Below w.heap.size w w := Below.refl _ _
      obtain ⟨ww1, hww1⟩ : ∃ v, v = w.alloc (.cells #[.bool gx, .slice ax nx cx, .bool gy, .slice ay ny cy, .int .i64 a.2] 34) := ⟨_, rfl⟩
      have sz1 : ww1.heap.size = w.heap.size + 1 := by rw [hww1]; simp
      have bw1 : Below w.heap.size w ww1 := by rw [hww1]; exact below1 _ _
      have B0_1 := B0_0.trans (bw1.mono B0_0.size)
      have X0_1 : BoxL ww1 w.heap.size w.heap.size [.bool gx, .slice ax nx cx, .bool gy, .slice ay ny cy, .int .i64 a.2] := by rw [hww1]; have h := BoxL.made w [.bool gx, .slice ax nx cx, .bool gy, .slice ay ny cy, .int .i64 a.2] 34; exact h
      obtain ⟨ww2, hww2⟩ : ∃ v, v = ww1.alloc (.cells #[.bool false, .slice none 0 0, .bool false, .slice none 0 0, .int .i64 0] 34) := ⟨_, rfl⟩
      have sz2 : ww2.heap.size = w.heap.size + 1 + 1 := by rw [hww2]; simp [sz1]
      have bw2 : Below ww1.heap.size ww1 ww2 := by rw [hww2]; exact below1 _ _
      have B0_2 := B0_1.trans (bw2.mono B0_1.size)
      have X0_2 := X0_1.below bw2 (Nat.le_refl _)
      have R0_2 : BoxL ww2 (w.heap.size + 1) (w.heap.size + 1) [.bool false, .slice none 0 0, .bool false, .slice none 0 0, .int .i64 0] := by rw [hww2]; have h := BoxL.made ww1 [.bool false, .slice none 0 0, .bool false, .slice none 0 0, .int .i64 0] 34; rw [sz1] at h; exact h
      have X0 := X0_2
      have R0 := R0_2.mono (by omega : w.heap.size ≤ w.heap.size + 1)
      have B0 := B0_2
      clear B0_0 B0_1 B0_2 bw1 bw2 X0_1 X0_2 R0_2
      go_enter Try.func18, Try.ntmps18
      go_wp2_with fail
      have hvv : (w.alloc (.cells #[.bool gx, .slice ax nx cx, .bool gy, .slice ay ny cy, .int .i64 a.2] 34)).alloc (.cells #[.bool false, .slice none 0 0, .bool false, .slice none 0 0, .int .i64 0] 34) = ww2 := by rw [hww2]; rw [hww1]
      rw [hvv]
      clear hvv hww1 hww2 sz1
      clear ww1
      have hz0 : w.heap.size + 2 ≤ ww2.heap.size := by omega
      clear sz2
      refine (kA _ B0).mono ?_
      rintro e w1 ⟨ox, oy, rfl, bb1, hXY⟩
      obtain ⟨p1, q1, rfl, rfl, sp, sq⟩ := hXY (by first | exact trivial | rfl)
      have B1 := B0.trans (bb1.mono B0.size)
      have X1 := X0.below bb1 (Nat.le_refl _)
      have R1 := R0.below bb1 (Nat.le_refl _)
      clear B0 X0 R0 bb1
      have sp1 := sp
      clear sp
      have sq1 := sq
      clear sq
      clear kA
      obtain ⟨w2, hw2⟩ : ∃ v, Hid (v = w1.alloc (.cells #[.pointer (some ⟨p1, 0, none⟩), .pointer (some ⟨q1, 0, none⟩), .int .i64 a.2] 65)) := ⟨_, rfl⟩
      have bb2 : Below w1.heap.size w1 w2 := by rw [hw2.out]; exact below1 _ _
      obtain ⟨qb2, hq2⟩ : ∃ v, Hid (v = w1.heap.size) := ⟨_, rfl⟩
      have F2 : BoxL w2 w.heap.size qb2 [.pointer (some ⟨p1, 0, none⟩), .pointer (some ⟨q1, 0, none⟩), .int .i64 a.2] := by rw [hw2.out, hq2.out]; exact (BoxL.made w1 [.pointer (some ⟨p1, 0, none⟩), .pointer (some ⟨q1, 0, none⟩), .int .i64 a.2] 65).mono B1.size
      have B2 := B1.trans (bb2.mono B1.size)
      have X2 := X1.below bb2 (Nat.le_refl _)
      have R2 := R1.below bb2 (Nat.le_refl _)
      have sp2 := sp1.below bb2 sp1.lt
      have sq2 := sq1.below bb2 sq1.lt
      have lt_X_F : w.heap.size < qb2 := by rw [hq2.out]; exact X1.hi
      have lt_R_F : w.heap.size + 1 < qb2 := by rw [hq2.out]; exact R1.hi
      have ne_F_sp : ¬ (p1 = qb2) := fun e => by rw [hq2.out] at e; have h1 := sp1.lt; omega
      have ne_F_sq : ¬ (q1 = qb2) := fun e => by rw [hq2.out] at e; have h1 := sq1.lt; omega
      clear B1 X1 R1 sp1 sq1 bb2
      have c_X_0 := X2.c 0 _ rfl
      have c_X_1 := X2.c 1 _ rfl
      have c_X_2 := X2.c 2 _ rfl
      have c_X_3 := X2.c 3 _ rfl
      have c_X_4 := X2.c 4 _ rfl
      rw [hw2.out] at c_X_0
      rw [hw2.out] at c_X_1
      rw [hw2.out] at c_X_2
      rw [hw2.out] at c_X_3
      rw [hw2.out] at c_X_4
      go_wp2_with fail
      rw [← hw2.out]
      (try rw [← hq2.out])
      clear c_X_0 c_X_1 c_X_2 c_X_3 c_X_4
      clear hw2 hq2
      clear sp2 sq2
      refine (kC _ B2).mono ?_
      rintro e w3 ⟨v, rfl, oz, bb3⟩
      obtain ⟨h8, s8, t8, u8, h9, s9, t9, u9, eqz⟩ := oz.cell
      subst eqz
      generalize hkz : a.2 = kk9 at *
      replace hkz : Hid (a.2 = kk9) := hkz
      have ap_X_oz : Apart (blkP (.agg #[.bool h8, .slice s8 t8 u8, .bool h9, .slice s9 t9 u9, .int .i64 kk9])) [w.heap.size] := apart_one fun q hq => by have h1 := (ownsP.ltb oz q hq).1; have h2 := X2.hi; omega
      have ap_R_oz : Apart (blkP (.agg #[.bool h8, .slice s8 t8 u8, .bool h9, .slice s9 t9 u9, .int .i64 kk9])) [w.heap.size + 1] := apart_one fun q hq => by have h1 := (ownsP.ltb oz q hq).1; have h2 := R2.hi; omega
      have ap_F_oz : Apart (blkP (.agg #[.bool h8, .slice s8 t8 u8, .bool h9, .slice s9 t9 u9, .int .i64 kk9])) [qb2] := apart_one fun q hq => by have h1 := (ownsP.ltb oz q hq).1; have h2 := F2.hi; omega
      replace oz := ownsP_mono oz B2.size
      have B3 := B2.trans (bb3.mono B2.size)
      have X3 := X2.below bb3 (Nat.le_refl _)
      have R3 := R2.below bb3 (Nat.le_refl _)
      have F3 := F2.below bb3 (Nat.le_refl _)
      clear B2 X2 R2 F2 bb3
      have oz3 := oz
      clear oz
      clear kC
      clear X3
      have c_R_0 := R3.c 0 _ rfl
      have f_R_0 := R3.f 0 _ rfl
      have c_R_1 := R3.c 1 _ rfl
      have f_R_1 := R3.f 1 _ rfl
      have c_R_2 := R3.c 2 _ rfl
      have f_R_2 := R3.f 2 _ rfl
      have c_R_3 := R3.c 3 _ rfl
      have f_R_3 := R3.f 3 _ rfl
      have c_R_4 := R3.c 4 _ rfl
      have f_R_4 := R3.f 4 _ rfl
      obtain ⟨w4, hw4⟩ : ∃ v, v = ((((w3.setCell ⟨w.heap.size + 1, 0, none⟩ (.bool h8)).setCell ⟨w.heap.size + 1, 1, none⟩ (.slice s8 t8 u8)).setCell ⟨w.heap.size + 1, 2, none⟩ (.bool h9)).setCell ⟨w.heap.size + 1, 3, none⟩ (.slice s9 t9 u9)).setCell ⟨w.heap.size + 1, 4, none⟩ (.int .i64 kk9) := ⟨_, rfl⟩
      have tn4 : Tn [w.heap.size + 1] w3 w4 := by rw [hw4]; exact (((((tnL w3 (w.heap.size + 1) 0 (.bool h8)).trans (tnL _ (w.heap.size + 1) 1 (.slice s8 t8 u8))).trans (tnL _ (w.heap.size + 1) 2 (.bool h9))).trans (tnL _ (w.heap.size + 1) 3 (.slice s9 t9 u9))).trans (tnL _ (w.heap.size + 1) 4 (.int .i64 kk9)))
      have R4 : BoxL w4 w.heap.size (w.heap.size + 1) [.bool h8, .slice s8 t8 u8, .bool h9, .slice s9 t9 u9, .int .i64 kk9] := by rw [hw4]; exact (((((R3.set 0 (.bool h8) (by simp)).set 1 (.slice s8 t8 u8) (by simp)).set 2 (.bool h9) (by simp)).set 3 (.slice s9 t9 u9) (by simp)).set 4 (.int .i64 kk9) (by simp))
      have blo4 := R3.lo
      have B4 := tn4.below B3 B3.size (fun q hq => by simp at hq; omega)
      have F4 := F3.tn tn4 (not_one (by omega))
      have oz4 := ownsP.tn oz3 tn4 ap_R_oz
      clear B3 R3 F3 oz3 tn4 blo4
      subst hw4
      go_wp2
      (try simp only [Exit.inBlock, Exit.then])
      refine bodyPost_ret (v := .tuple #[.agg #[.bool h8, .slice s8 t8 u8, .bool h9, .slice s9 t9 u9, .int .i64 kk9], .bool false]) ?_ rfl ⟨_, by rw [HR.out], by rw [HR.out]; exact oz4, B4⟩
      rw [results_cell_tmp rfl]
      go_simp
    · obtain ⟨n0, nn⟩ := nn
      have n3 : ¬ i < 0 := by omega
      have B0_0 : Below w.heap.size w w := Below.refl _ _
      obtain ⟨ww1, hww1⟩ : ∃ v, v = w.alloc (.cells #[.bool gx, .slice ax nx cx, .bool gy, .slice ay ny cy, .int .i64 a.2] 34) := ⟨_, rfl⟩
      have sz1 : ww1.heap.size = w.heap.size + 1 := by rw [hww1]; simp
      have bw1 : Below w.heap.size w ww1 := by rw [hww1]; exact below1 _ _
      have B0_1 := B0_0.trans (bw1.mono B0_0.size)
      have X0_1 : BoxL ww1 w.heap.size w.heap.size [.bool gx, .slice ax nx cx, .bool gy, .slice ay ny cy, .int .i64 a.2] := by rw [hww1]; have h := BoxL.made w [.bool gx, .slice ax nx cx, .bool gy, .slice ay ny cy, .int .i64 a.2] 34; exact h
      obtain ⟨ww2, hww2⟩ : ∃ v, v = ww1.alloc (.cells #[.bool false, .slice none 0 0, .bool false, .slice none 0 0, .int .i64 0] 34) := ⟨_, rfl⟩
      have sz2 : ww2.heap.size = w.heap.size + 1 + 1 := by rw [hww2]; simp [sz1]
      have bw2 : Below ww1.heap.size ww1 ww2 := by rw [hww2]; exact below1 _ _
      have B0_2 := B0_1.trans (bw2.mono B0_1.size)
      have X0_2 := X0_1.below bw2 (Nat.le_refl _)
      have R0_2 : BoxL ww2 (w.heap.size + 1) (w.heap.size + 1) [.bool false, .slice none 0 0, .bool false, .slice none 0 0, .int .i64 0] := by rw [hww2]; have h := BoxL.made ww1 [.bool false, .slice none 0 0, .bool false, .slice none 0 0, .int .i64 0] 34; rw [sz1] at h; exact h
      have X0 := X0_2
      have R0 := R0_2.mono (by omega : w.heap.size ≤ w.heap.size + 1)
      have B0 := B0_2
      clear B0_0 B0_1 B0_2 bw1 bw2 X0_1 X0_2 R0_2
      go_enter Try.func18, Try.ntmps18
      go_wp2_with fail
      have hvv : (w.alloc (.cells #[.bool gx, .slice ax nx cx, .bool gy, .slice ay ny cy, .int .i64 a.2] 34)).alloc (.cells #[.bool false, .slice none 0 0, .bool false, .slice none 0 0, .int .i64 0] 34) = ww2 := by rw [hww2]; rw [hww1]
      rw [hvv]
      clear hvv hww1 hww2 sz1
      clear ww1
      have hz0 : w.heap.size + 2 ≤ ww2.heap.size := by omega
      clear sz2
      refine (kA _ B0).mono ?_
      rintro e w1 ⟨ox, oy, rfl, bb1, hXY⟩
      obtain ⟨p1, q1, rfl, rfl, sp, sq⟩ := hXY (by first | exact trivial | rfl)
      have B1 := B0.trans (bb1.mono B0.size)
      have X1 := X0.below bb1 (Nat.le_refl _)
      have R1 := R0.below bb1 (Nat.le_refl _)
      clear B0 X0 R0 bb1
      have sp1 := sp
      clear sp
      have sq1 := sq
      clear sq
      clear kA
      obtain ⟨w2, hw2⟩ : ∃ v, Hid (v = w1.alloc (.cells #[.pointer (some ⟨p1, 0, none⟩), .pointer (some ⟨q1, 0, none⟩), .int .i64 a.2] 65)) := ⟨_, rfl⟩
      have bb2 : Below w1.heap.size w1 w2 := by rw [hw2.out]; exact below1 _ _
      obtain ⟨qb2, hq2⟩ : ∃ v, Hid (v = w1.heap.size) := ⟨_, rfl⟩
      have F2 : BoxL w2 w.heap.size qb2 [.pointer (some ⟨p1, 0, none⟩), .pointer (some ⟨q1, 0, none⟩), .int .i64 a.2] := by rw [hw2.out, hq2.out]; exact (BoxL.made w1 [.pointer (some ⟨p1, 0, none⟩), .pointer (some ⟨q1, 0, none⟩), .int .i64 a.2] 65).mono B1.size
      have B2 := B1.trans (bb2.mono B1.size)
      have X2 := X1.below bb2 (Nat.le_refl _)
      have R2 := R1.below bb2 (Nat.le_refl _)
      have sp2 := sp1.below bb2 sp1.lt
      have sq2 := sq1.below bb2 sq1.lt
      have lt_X_F : w.heap.size < qb2 := by rw [hq2.out]; exact X1.hi
      have lt_R_F : w.heap.size + 1 < qb2 := by rw [hq2.out]; exact R1.hi
      have ne_F_sp : ¬ (p1 = qb2) := fun e => by rw [hq2.out] at e; have h1 := sp1.lt; omega
      have ne_F_sq : ¬ (q1 = qb2) := fun e => by rw [hq2.out] at e; have h1 := sq1.lt; omega
      clear B1 X1 R1 sp1 sq1 bb2
      have c_X_0 := X2.c 0 _ rfl
      have c_X_1 := X2.c 1 _ rfl
      have c_X_2 := X2.c 2 _ rfl
      have c_X_3 := X2.c 3 _ rfl
      have c_X_4 := X2.c 4 _ rfl
      rw [hw2.out] at c_X_0
      rw [hw2.out] at c_X_1
      rw [hw2.out] at c_X_2
      rw [hw2.out] at c_X_3
      rw [hw2.out] at c_X_4
      go_wp2_with fail
      rw [← hw2.out]
      (try rw [← hq2.out])
      clear c_X_0 c_X_1 c_X_2 c_X_3 c_X_4
      clear hw2 hq2
      clear sp2 sq2
      refine (kC _ B2).mono ?_
      rintro e w3 ⟨v, rfl, oz, bb3⟩
      obtain ⟨h8, s8, t8, u8, h9, s9, t9, u9, eqz⟩ := oz.cell
      subst eqz
      generalize hkz : a.2 = kk9 at *
      replace hkz : Hid (a.2 = kk9) := hkz
      have ap_X_oz : Apart (blkP (.agg #[.bool h8, .slice s8 t8 u8, .bool h9, .slice s9 t9 u9, .int .i64 kk9])) [w.heap.size] := apart_one fun q hq => by have h1 := (ownsP.ltb oz q hq).1; have h2 := X2.hi; omega
      have ap_R_oz : Apart (blkP (.agg #[.bool h8, .slice s8 t8 u8, .bool h9, .slice s9 t9 u9, .int .i64 kk9])) [w.heap.size + 1] := apart_one fun q hq => by have h1 := (ownsP.ltb oz q hq).1; have h2 := R2.hi; omega
      have ap_F_oz : Apart (blkP (.agg #[.bool h8, .slice s8 t8 u8, .bool h9, .slice s9 t9 u9, .int .i64 kk9])) [qb2] := apart_one fun q hq => by have h1 := (ownsP.ltb oz q hq).1; have h2 := F2.hi; omega
      replace oz := ownsP_mono oz B2.size
      have B3 := B2.trans (bb3.mono B2.size)
      have X3 := X2.below bb3 (Nat.le_refl _)
      have R3 := R2.below bb3 (Nat.le_refl _)
      have F3 := F2.below bb3 (Nat.le_refl _)
      clear B2 X2 R2 F2 bb3
      have oz3 := oz
      clear oz
      clear kC
      clear X3
      have c_R_0 := R3.c 0 _ rfl
      have f_R_0 := R3.f 0 _ rfl
      have c_R_1 := R3.c 1 _ rfl
      have f_R_1 := R3.f 1 _ rfl
      have c_R_2 := R3.c 2 _ rfl
      have f_R_2 := R3.f 2 _ rfl
      have c_R_3 := R3.c 3 _ rfl
      have f_R_3 := R3.f 3 _ rfl
      have c_R_4 := R3.c 4 _ rfl
      have f_R_4 := R3.f 4 _ rfl
      obtain ⟨w4, hw4⟩ : ∃ v, v = ((((w3.setCell ⟨w.heap.size + 1, 0, none⟩ (.bool h8)).setCell ⟨w.heap.size + 1, 1, none⟩ (.slice s8 t8 u8)).setCell ⟨w.heap.size + 1, 2, none⟩ (.bool h9)).setCell ⟨w.heap.size + 1, 3, none⟩ (.slice s9 t9 u9)).setCell ⟨w.heap.size + 1, 4, none⟩ (.int .i64 kk9) := ⟨_, rfl⟩
      have tn4 : Tn [w.heap.size + 1] w3 w4 := by rw [hw4]; exact (((((tnL w3 (w.heap.size + 1) 0 (.bool h8)).trans (tnL _ (w.heap.size + 1) 1 (.slice s8 t8 u8))).trans (tnL _ (w.heap.size + 1) 2 (.bool h9))).trans (tnL _ (w.heap.size + 1) 3 (.slice s9 t9 u9))).trans (tnL _ (w.heap.size + 1) 4 (.int .i64 kk9)))
      have R4 : BoxL w4 w.heap.size (w.heap.size + 1) [.bool h8, .slice s8 t8 u8, .bool h9, .slice s9 t9 u9, .int .i64 kk9] := by rw [hw4]; exact (((((R3.set 0 (.bool h8) (by simp)).set 1 (.slice s8 t8 u8) (by simp)).set 2 (.bool h9) (by simp)).set 3 (.slice s9 t9 u9) (by simp)).set 4 (.int .i64 kk9) (by simp))
      have blo4 := R3.lo
      have B4 := tn4.below B3 B3.size (fun q hq => by simp at hq; omega)
      have F4 := F3.tn tn4 (not_one (by omega))
      have oz4 := ownsP.tn oz3 tn4 ap_R_oz
      clear B3 R3 F3 oz3 tn4 blo4
      subst hw4
      go_wp2
      (try simp only [Exit.inBlock, Exit.then])
      refine bodyPost_ret (v := .tuple #[.agg #[.bool h8, .slice s8 t8 u8, .bool h9, .slice s9 t9 u9, .int .i64 kk9], .bool false]) ?_ rfl ⟨_, by rw [HR.out], by rw [HR.out]; exact oz4, B4⟩
      rw [results_cell_tmp rfl]
      go_simp
  by_cases c2 : d = 1 ∨ d = -1
  case neg =>
    have HR : Hid (stepR a i d = (a, false)) := by show _ = _; unfold stepR; rw [if_neg (fun h => c2 h.2.2.1)]
    obtain ⟨rr, hrr⟩ : ∃ r, stepR a i d = r := ⟨_, rfl⟩
    rw [hrr] at HR
    rw [hrr]
    clear hrr
    have n1 : ¬ d = 1 := by omega
    have n2 : ¬ d = -1 := by omega
    have d1 : (d != 1) = true := by simpa using n1
    have d2 : (d != -1) = true := by simpa using n2
    obtain ⟨gx, ax, nx, cx, gy, ay, ny, cy, eq⟩ := ha.cell
    subst eq
    have n3 : ¬ i < 0 := by omega
    have n4 : ¬ 30 < i := by omega
    clear ha hl0 hl1 c0 c1 c2
    have B0_0 : Below w.heap.size w w := Below.refl _ _
    obtain ⟨ww1, hww1⟩ : ∃ v, v = w.alloc (.cells #[.bool gx, .slice ax nx cx, .bool gy, .slice ay ny cy, .int .i64 a.2] 34) := ⟨_, rfl⟩
    have sz1 : ww1.heap.size = w.heap.size + 1 := by rw [hww1]; simp
    have bw1 : Below w.heap.size w ww1 := by rw [hww1]; exact below1 _ _
    have B0_1 := B0_0.trans (bw1.mono B0_0.size)
    have X0_1 : BoxL ww1 w.heap.size w.heap.size [.bool gx, .slice ax nx cx, .bool gy, .slice ay ny cy, .int .i64 a.2] := by rw [hww1]; have h := BoxL.made w [.bool gx, .slice ax nx cx, .bool gy, .slice ay ny cy, .int .i64 a.2] 34; exact h
    obtain ⟨ww2, hww2⟩ : ∃ v, v = ww1.alloc (.cells #[.bool false, .slice none 0 0, .bool false, .slice none 0 0, .int .i64 0] 34) := ⟨_, rfl⟩
    have sz2 : ww2.heap.size = w.heap.size + 1 + 1 := by rw [hww2]; simp [sz1]
    have bw2 : Below ww1.heap.size ww1 ww2 := by rw [hww2]; exact below1 _ _
    have B0_2 := B0_1.trans (bw2.mono B0_1.size)
    have X0_2 := X0_1.below bw2 (Nat.le_refl _)
    have R0_2 : BoxL ww2 (w.heap.size + 1) (w.heap.size + 1) [.bool false, .slice none 0 0, .bool false, .slice none 0 0, .int .i64 0] := by rw [hww2]; have h := BoxL.made ww1 [.bool false, .slice none 0 0, .bool false, .slice none 0 0, .int .i64 0] 34; rw [sz1] at h; exact h
    have X0 := X0_2
    have R0 := R0_2.mono (by omega : w.heap.size ≤ w.heap.size + 1)
    have B0 := B0_2
    clear B0_0 B0_1 B0_2 bw1 bw2 X0_1 X0_2 R0_2
    go_enter Try.func18, Try.ntmps18
    go_wp2_with fail
    have hvv : (w.alloc (.cells #[.bool gx, .slice ax nx cx, .bool gy, .slice ay ny cy, .int .i64 a.2] 34)).alloc (.cells #[.bool false, .slice none 0 0, .bool false, .slice none 0 0, .int .i64 0] 34) = ww2 := by rw [hww2]; rw [hww1]
    rw [hvv]
    clear hvv hww1 hww2 sz1
    clear ww1
    have hz0 : w.heap.size + 2 ≤ ww2.heap.size := by omega
    clear sz2
    refine (kA _ B0).mono ?_
    rintro e w1 ⟨ox, oy, rfl, bb1, hXY⟩
    obtain ⟨p1, q1, rfl, rfl, sp, sq⟩ := hXY (by first | exact trivial | rfl)
    have B1 := B0.trans (bb1.mono B0.size)
    have X1 := X0.below bb1 (Nat.le_refl _)
    have R1 := R0.below bb1 (Nat.le_refl _)
    clear B0 X0 R0 bb1
    have sp1 := sp
    clear sp
    have sq1 := sq
    clear sq
    clear kA
    obtain ⟨w2, hw2⟩ : ∃ v, Hid (v = w1.alloc (.cells #[.pointer (some ⟨p1, 0, none⟩), .pointer (some ⟨q1, 0, none⟩), .int .i64 a.2] 65)) := ⟨_, rfl⟩
    have bb2 : Below w1.heap.size w1 w2 := by rw [hw2.out]; exact below1 _ _
    obtain ⟨qb2, hq2⟩ : ∃ v, Hid (v = w1.heap.size) := ⟨_, rfl⟩
    have F2 : BoxL w2 w.heap.size qb2 [.pointer (some ⟨p1, 0, none⟩), .pointer (some ⟨q1, 0, none⟩), .int .i64 a.2] := by rw [hw2.out, hq2.out]; exact (BoxL.made w1 [.pointer (some ⟨p1, 0, none⟩), .pointer (some ⟨q1, 0, none⟩), .int .i64 a.2] 65).mono B1.size
    have B2 := B1.trans (bb2.mono B1.size)
    have X2 := X1.below bb2 (Nat.le_refl _)
    have R2 := R1.below bb2 (Nat.le_refl _)
    have sp2 := sp1.below bb2 sp1.lt
    have sq2 := sq1.below bb2 sq1.lt
    have lt_X_F : w.heap.size < qb2 := by rw [hq2.out]; exact X1.hi
    have lt_R_F : w.heap.size + 1 < qb2 := by rw [hq2.out]; exact R1.hi
    have ne_F_sp : ¬ (p1 = qb2) := fun e => by rw [hq2.out] at e; have h1 := sp1.lt; omega
    have ne_F_sq : ¬ (q1 = qb2) := fun e => by rw [hq2.out] at e; have h1 := sq1.lt; omega
    clear B1 X1 R1 sp1 sq1 bb2
    have c_X_0 := X2.c 0 _ rfl
    have c_X_1 := X2.c 1 _ rfl
    have c_X_2 := X2.c 2 _ rfl
    have c_X_3 := X2.c 3 _ rfl
    have c_X_4 := X2.c 4 _ rfl
    rw [hw2.out] at c_X_0
    rw [hw2.out] at c_X_1
    rw [hw2.out] at c_X_2
    rw [hw2.out] at c_X_3
    rw [hw2.out] at c_X_4
    go_wp2_with fail
    rw [← hw2.out]
    (try rw [← hq2.out])
    clear c_X_0 c_X_1 c_X_2 c_X_3 c_X_4
    clear hw2 hq2
    clear sp2 sq2
    refine (kC _ B2).mono ?_
    rintro e w3 ⟨v, rfl, oz, bb3⟩
    obtain ⟨h8, s8, t8, u8, h9, s9, t9, u9, eqz⟩ := oz.cell
    subst eqz
    generalize hkz : a.2 = kk9 at *
    replace hkz : Hid (a.2 = kk9) := hkz
    have ap_X_oz : Apart (blkP (.agg #[.bool h8, .slice s8 t8 u8, .bool h9, .slice s9 t9 u9, .int .i64 kk9])) [w.heap.size] := apart_one fun q hq => by have h1 := (ownsP.ltb oz q hq).1; have h2 := X2.hi; omega
    have ap_R_oz : Apart (blkP (.agg #[.bool h8, .slice s8 t8 u8, .bool h9, .slice s9 t9 u9, .int .i64 kk9])) [w.heap.size + 1] := apart_one fun q hq => by have h1 := (ownsP.ltb oz q hq).1; have h2 := R2.hi; omega
    have ap_F_oz : Apart (blkP (.agg #[.bool h8, .slice s8 t8 u8, .bool h9, .slice s9 t9 u9, .int .i64 kk9])) [qb2] := apart_one fun q hq => by have h1 := (ownsP.ltb oz q hq).1; have h2 := F2.hi; omega
    replace oz := ownsP_mono oz B2.size
    have B3 := B2.trans (bb3.mono B2.size)
    have X3 := X2.below bb3 (Nat.le_refl _)
    have R3 := R2.below bb3 (Nat.le_refl _)
    have F3 := F2.below bb3 (Nat.le_refl _)
    clear B2 X2 R2 F2 bb3
    have oz3 := oz
    clear oz
    clear kC
    clear X3
    have c_R_0 := R3.c 0 _ rfl
    have f_R_0 := R3.f 0 _ rfl
    have c_R_1 := R3.c 1 _ rfl
    have f_R_1 := R3.f 1 _ rfl
    have c_R_2 := R3.c 2 _ rfl
    have f_R_2 := R3.f 2 _ rfl
    have c_R_3 := R3.c 3 _ rfl
    have f_R_3 := R3.f 3 _ rfl
    have c_R_4 := R3.c 4 _ rfl
    have f_R_4 := R3.f 4 _ rfl
    obtain ⟨w4, hw4⟩ : ∃ v, v = ((((w3.setCell ⟨w.heap.size + 1, 0, none⟩ (.bool h8)).setCell ⟨w.heap.size + 1, 1, none⟩ (.slice s8 t8 u8)).setCell ⟨w.heap.size + 1, 2, none⟩ (.bool h9)).setCell ⟨w.heap.size + 1, 3, none⟩ (.slice s9 t9 u9)).setCell ⟨w.heap.size + 1, 4, none⟩ (.int .i64 kk9) := ⟨_, rfl⟩
    have tn4 : Tn [w.heap.size + 1] w3 w4 := by rw [hw4]; exact (((((tnL w3 (w.heap.size + 1) 0 (.bool h8)).trans (tnL _ (w.heap.size + 1) 1 (.slice s8 t8 u8))).trans (tnL _ (w.heap.size + 1) 2 (.bool h9))).trans (tnL _ (w.heap.size + 1) 3 (.slice s9 t9 u9))).trans (tnL _ (w.heap.size + 1) 4 (.int .i64 kk9)))
    have R4 : BoxL w4 w.heap.size (w.heap.size + 1) [.bool h8, .slice s8 t8 u8, .bool h9, .slice s9 t9 u9, .int .i64 kk9] := by rw [hw4]; exact (((((R3.set 0 (.bool h8) (by simp)).set 1 (.slice s8 t8 u8) (by simp)).set 2 (.bool h9) (by simp)).set 3 (.slice s9 t9 u9) (by simp)).set 4 (.int .i64 kk9) (by simp))
    have blo4 := R3.lo
    have B4 := tn4.below B3 B3.size (fun q hq => by simp at hq; omega)
    have F4 := F3.tn tn4 (not_one (by omega))
    have oz4 := ownsP.tn oz3 tn4 ap_R_oz
    clear B3 R3 F3 oz3 tn4 blo4
    subst hw4
    go_wp2
    (try simp only [Exit.inBlock, Exit.then])
    refine bodyPost_ret (v := .tuple #[.agg #[.bool h8, .slice s8 t8 u8, .bool h9, .slice s9 t9 u9, .int .i64 kk9], .bool false]) ?_ rfl ⟨_, by rw [HR.out], by rw [HR.out]; exact oz4, B4⟩
    rw [results_cell_tmp rfl]
    go_simp
  obtain ⟨k, rfl⟩ : ∃ k : Nat, i = (k : Int) := ⟨i.toNat, by omega⟩
  have z := okP_yes c0
  have m1 := okW_len48 z.1
  have m2 := okW_len48 z.2.1
  have z3 := z.2.2.1
  have z4 := z.2.2.2
  have hk30 : k ≤ 30 := by omega
  have HP : Hid (stepP a k d = ((mkW (stX (valW a.1.1) (valW a.1.2) k d), mkW (stY (valW a.1.1) (valW a.1.2) k d)), a.2 + k)) := by show _ = _; unfold stepP; rw [Int.toNat_natCast]
  have HQ : Hid (stepR a k d = if okP (stepP a k d) = true then (stepP a k d, true) else (a, false)) := by
    show _ = _
    unfold stepR
    by_cases h : okP (stepP a k d) = true
    · rw [if_pos ⟨c0, c1, c2, h⟩, if_pos h]
    · rw [if_neg (fun q => h q.2.2.2), if_neg h]
  rw [HP.out] at HQ
  clear HP
  have kS := fun p q W h1 h2 => stepI_c p q (valW a.1.1) (valW a.1.2) a.2 k d W h1 h2 m1 m2 hk30 c2 z3 z4
  have kF := fun p q W h1 h2 => spin_c p q (stX (valW a.1.1) (valW a.1.2) k d) (stY (valW a.1.1) (valW a.1.2) k d) (a.2 + k) W h1 h2
  have hs1 : 0 ≤ a.2 + (k : Int) := by omega
  have hO := spinF_ok (stX (valW a.1.1) (valW a.1.2) k d) (stY (valW a.1.1) (valW a.1.2) k d) (a.2 + k)
  obtain ⟨gx, ax, nx, cx, gy, ay, ny, cy, eq⟩ := ha.cell
  subst eq
  have gi0 : ¬ (k : Int) < 0 := by omega
  have gi1 : ¬ (30 : Int) < (k : Int) := by omega
  have gd : (d != 1 && d != -1) = false := by rcases c2 with rfl | rfl <;> rfl
  generalize stX (valW a.1.1) (valW a.1.2) k d = X at *
  generalize stY (valW a.1.1) (valW a.1.2) k d = Y at *
  generalize valW a.1.1 = x1 at *
  generalize valW a.1.2 = y1 at *
  generalize hff : spinF X Y (a.2 + (k : Int)) = ff at *
  rcases hO with ⟨hO, eO⟩ | ⟨hO, eO⟩
  · rw [if_pos hO] at HQ
    have HR := HQ
    clear HQ hO hff z m1 m2 c0 hk30 z3 z4
    subst eO
    rcases c2 with rfl | rfl
    · clear ha hl0 hl1
      have B0_0 : Below w.heap.size w w := Below.refl _ _
      obtain ⟨ww1, hww1⟩ : ∃ v, v = w.alloc (.cells #[.bool gx, .slice ax nx cx, .bool gy, .slice ay ny cy, .int .i64 a.2] 34) := ⟨_, rfl⟩
      have sz1 : ww1.heap.size = w.heap.size + 1 := by rw [hww1]; simp
      have bw1 : Below w.heap.size w ww1 := by rw [hww1]; exact below1 _ _
      have B0_1 := B0_0.trans (bw1.mono B0_0.size)
      have X0_1 : BoxL ww1 w.heap.size w.heap.size [.bool gx, .slice ax nx cx, .bool gy, .slice ay ny cy, .int .i64 a.2] := by rw [hww1]; have h := BoxL.made w [.bool gx, .slice ax nx cx, .bool gy, .slice ay ny cy, .int .i64 a.2] 34; exact h
      obtain ⟨ww2, hww2⟩ : ∃ v, v = ww1.alloc (.cells #[.bool false, .slice none 0 0, .bool false, .slice none 0 0, .int .i64 0] 34) := ⟨_, rfl⟩
      have sz2 : ww2.heap.size = w.heap.size + 1 + 1 := by rw [hww2]; simp [sz1]
      have bw2 : Below ww1.heap.size ww1 ww2 := by rw [hww2]; exact below1 _ _
      have B0_2 := B0_1.trans (bw2.mono B0_1.size)
      have X0_2 := X0_1.below bw2 (Nat.le_refl _)
      have R0_2 : BoxL ww2 (w.heap.size + 1) (w.heap.size + 1) [.bool false, .slice none 0 0, .bool false, .slice none 0 0, .int .i64 0] := by rw [hww2]; have h := BoxL.made ww1 [.bool false, .slice none 0 0, .bool false, .slice none 0 0, .int .i64 0] 34; rw [sz1] at h; exact h
      have X0 := X0_2
      have R0 := R0_2.mono (by omega : w.heap.size ≤ w.heap.size + 1)
      have B0 := B0_2
      clear B0_0 B0_1 B0_2 bw1 bw2 X0_1 X0_2 R0_2
      go_enter Try.func18, Try.ntmps18
      go_wp2_with fail
      have hvv : (w.alloc (.cells #[.bool gx, .slice ax nx cx, .bool gy, .slice ay ny cy, .int .i64 a.2] 34)).alloc (.cells #[.bool false, .slice none 0 0, .bool false, .slice none 0 0, .int .i64 0] 34) = ww2 := by rw [hww2]; rw [hww1]
      rw [hvv]
      clear hvv hww1 hww2 sz1
      clear ww1
      have hz0 : w.heap.size + 2 ≤ ww2.heap.size := by omega
      clear sz2
      refine (kA _ B0).mono ?_
      rintro e w1 ⟨ox, oy, rfl, bb1, hXY⟩
      obtain ⟨p1, q1, rfl, rfl, sp, sq⟩ := hXY (by first | exact trivial | rfl)
      have B1 := B0.trans (bb1.mono B0.size)
      have X1 := X0.below bb1 (Nat.le_refl _)
      have R1 := R0.below bb1 (Nat.le_refl _)
      clear B0 X0 R0 bb1
      have sp1 := sp
      clear sp
      have sq1 := sq
      clear sq
      clear kA
      obtain ⟨w2, hw2⟩ : ∃ v, Hid (v = w1.alloc (.cells #[.pointer (some ⟨p1, 0, none⟩), .pointer (some ⟨q1, 0, none⟩), .int .i64 a.2] 65)) := ⟨_, rfl⟩
      have bb2 : Below w1.heap.size w1 w2 := by rw [hw2.out]; exact below1 _ _
      obtain ⟨qb2, hq2⟩ : ∃ v, Hid (v = w1.heap.size) := ⟨_, rfl⟩
      have F2 : BoxL w2 w.heap.size qb2 [.pointer (some ⟨p1, 0, none⟩), .pointer (some ⟨q1, 0, none⟩), .int .i64 a.2] := by rw [hw2.out, hq2.out]; exact (BoxL.made w1 [.pointer (some ⟨p1, 0, none⟩), .pointer (some ⟨q1, 0, none⟩), .int .i64 a.2] 65).mono B1.size
      have B2 := B1.trans (bb2.mono B1.size)
      have X2 := X1.below bb2 (Nat.le_refl _)
      have R2 := R1.below bb2 (Nat.le_refl _)
      have sp2 := sp1.below bb2 sp1.lt
      have sq2 := sq1.below bb2 sq1.lt
      have lt_X_F : w.heap.size < qb2 := by rw [hq2.out]; exact X1.hi
      have lt_R_F : w.heap.size + 1 < qb2 := by rw [hq2.out]; exact R1.hi
      have ne_F_sp : ¬ (p1 = qb2) := fun e => by rw [hq2.out] at e; have h1 := sp1.lt; omega
      have ne_F_sq : ¬ (q1 = qb2) := fun e => by rw [hq2.out] at e; have h1 := sq1.lt; omega
      clear B1 X1 R1 sp1 sq1 bb2
      go_wp2_with fail
      rw [← hw2.out]
      (try rw [← hq2.out])
      clear hw2 hq2
      refine (kS _ _ _ sp2 sq2).mono ?_
      rintro e w3 ⟨c, cc, rfl, sx, sy, bb3, hc, hd⟩
      have B3 := B2.trans (bb3.mono B2.size)
      have X3 := X2.below bb3 (Nat.le_refl _)
      have R3 := R2.below bb3 (Nat.le_refl _)
      have sp3 := sp2.below bb3 sp2.lt
      have sq3 := sq2.below bb3 sq2.lt
      have F3 := F2.below bb3 (Nat.le_refl _)
      clear B2 X2 R2 sp2 sq2 F2 bb3
      have sx3 := sx
      clear sx
      have sy3 := sy
      clear sy
      clear kS hc hd
      clear sp3 sq3
      go_wp2_with fail
      refine (kF _ _ _ sx3 sy3).mono ?_
      rintro e w4 ⟨v, rfl, of, bb4⟩
      obtain ⟨h5, s5, t5, u5, h6, s6, t6, u6, eqf⟩ := of.cell
      skip
      obtain ⟨kk5, hk5⟩ : ∃ q, (a.2 + (k : Int)) = q := ⟨_, rfl⟩
      replace eqf : v = .agg #[.bool h5, .slice s5 t5 u5, .bool h6, .slice s6 t6 u6, .int .i64 (a.2 + (k : Int))] := eqf
      rw [hk5] at eqf
      subst eqf
      replace hk5 : Hid (_ = kk5) := hk5
      have ap_X_of : Apart (blkP (.agg #[.bool h5, .slice s5 t5 u5, .bool h6, .slice s6 t6 u6, .int .i64 kk5])) [w.heap.size] := apart_one fun q hq => by have h1 := (ownsP.ltb of q hq).1; have h2 := X3.hi; omega
      have ap_R_of : Apart (blkP (.agg #[.bool h5, .slice s5 t5 u5, .bool h6, .slice s6 t6 u6, .int .i64 kk5])) [w.heap.size + 1] := apart_one fun q hq => by have h1 := (ownsP.ltb of q hq).1; have h2 := R3.hi; omega
      have ap_F_of : Apart (blkP (.agg #[.bool h5, .slice s5 t5 u5, .bool h6, .slice s6 t6 u6, .int .i64 kk5])) [qb2] := apart_one fun q hq => by have h1 := (ownsP.ltb of q hq).1; have h2 := F3.hi; omega
      replace of := ownsP_mono of B3.size
      have B4 := B3.trans (bb4.mono B3.size)
      have X4 := X3.below bb4 (Nat.le_refl _)
      have R4 := R3.below bb4 (Nat.le_refl _)
      have F4 := F3.below bb4 (Nat.le_refl _)
      have sx4 := sx3.below bb4 sx3.lt
      have sy4 := sy3.below bb4 sy3.lt
      clear B3 X3 R3 F3 sx3 sy3 bb4
      have of4 := of
      clear of
      clear kF
      clear sx4 sy4 F4
      clear kC
      clear X4
      skip
      obtain ⟨wN, hwN⟩ : ∃ v, Hid (v = w4.alloc (.cells #[.bool h5, .slice s5 t5 u5, .bool h6, .slice s6 t6 u6, .int .i64 kk5] 34)) := ⟨_, rfl⟩
      have NN : BoxL wN w.heap.size w4.heap.size [.bool h5, .slice s5 t5 u5, .bool h6, .slice s6 t6 u6, .int .i64 kk5] := by rw [hwN.out]; exact (BoxL.made w4 [.bool h5, .slice s5 t5 u5, .bool h6, .slice s6 t6 u6, .int .i64 kk5] 34).mono B4.size
      have RN : BoxL wN w.heap.size (w.heap.size + 1) [.bool false, .slice none 0 0, .bool false, .slice none 0 0, .int .i64 0] := by rw [hwN.out]; exact R4.below (below1 _ _) (Nat.le_refl _)
      have hRlt := R4.hi
      have cN0 := NN.c 0 _ rfl
      have cR0 := RN.c 0 _ rfl
      have fR0 := RN.f 0 _ rfl
      have cN1 := NN.c 1 _ rfl
      have cR1 := RN.c 1 _ rfl
      have fR1 := RN.f 1 _ rfl
      have cN2 := NN.c 2 _ rfl
      have cR2 := RN.c 2 _ rfl
      have fR2 := RN.f 2 _ rfl
      have cN3 := NN.c 3 _ rfl
      have cR3 := RN.c 3 _ rfl
      have fR3 := RN.f 3 _ rfl
      have cN4 := NN.c 4 _ rfl
      have cR4 := RN.c 4 _ rfl
      have fR4 := RN.f 4 _ rfl
      rw [hwN.out] at cN0
      rw [hwN.out] at cR0
      rw [hwN.out] at fR0
      rw [hwN.out] at cN1
      rw [hwN.out] at cR1
      rw [hwN.out] at fR1
      rw [hwN.out] at cN2
      rw [hwN.out] at cR2
      rw [hwN.out] at fR2
      rw [hwN.out] at cN3
      rw [hwN.out] at cR3
      rw [hwN.out] at fR3
      rw [hwN.out] at cN4
      rw [hwN.out] at cR4
      rw [hwN.out] at fR4
      clear NN RN hwN wN
      have dR0 := R4.c 0 _ rfl
      have gR0 := R4.f 0 _ rfl
      have dR1 := R4.c 1 _ rfl
      have gR1 := R4.f 1 _ rfl
      have dR2 := R4.c 2 _ rfl
      have gR2 := R4.f 2 _ rfl
      have dR3 := R4.c 3 _ rfl
      have gR3 := R4.f 3 _ rfl
      have dR4 := R4.c 4 _ rfl
      have gR4 := R4.f 4 _ rfl
      have HB0 := (((((B4.setCell (p := ⟨w.heap.size + 1, 0, none⟩) (by show w.heap.size ≤ w.heap.size + 1; omega) (.bool h5)).setCell (p := ⟨w.heap.size + 1, 1, none⟩) (by show w.heap.size ≤ w.heap.size + 1; omega) (.slice s5 t5 u5)).setCell (p := ⟨w.heap.size + 1, 2, none⟩) (by show w.heap.size ≤ w.heap.size + 1; omega) (.bool h6)).setCell (p := ⟨w.heap.size + 1, 3, none⟩) (by show w.heap.size ≤ w.heap.size + 1; omega) (.slice s6 t6 u6)).setCell (p := ⟨w.heap.size + 1, 4, none⟩) (by show w.heap.size ≤ w.heap.size + 1; omega) (.int .i64 kk5))
      have HT := ownsP.tn of4 (((((tnL w4 (w.heap.size + 1) 0 (.bool h5)).trans (tnL _ (w.heap.size + 1) 1 (.slice s5 t5 u5))).trans (tnL _ (w.heap.size + 1) 2 (.bool h6))).trans (tnL _ (w.heap.size + 1) 3 (.slice s6 t6 u6))).trans (tnL _ (w.heap.size + 1) 4 (.int .i64 kk5))) ap_R_of
      have HF := And.intro (ownsP.below HT (below1 _ (.cells #[.bool h5, .slice s5 t5 u5, .bool h6, .slice s6 t6 u6, .int .i64 kk5] 34)) (Nat.le_refl _)) (HB0.alloc HB0.size (.cells #[.bool h5, .slice s5 t5 u5, .bool h6, .slice s6 t6 u6, .int .i64 kk5] 34))
      replace HF : Hid _ := HF
      clear HB0 HT B4 of4 R4
      go_wp2
      (try simp only [Exit.inBlock, Exit.then])
      refine bodyPost_ret (v := .tuple #[.agg #[.bool h5, .slice s5 t5 u5, .bool h6, .slice s6 t6 u6, .int .i64 kk5], .bool true]) ?_ rfl ⟨_, by rw [HR.out], by rw [HR.out]; exact HF.out.1, HF.out.2⟩
      rw [results_cell_tmp rfl]
      go_simp
    · clear ha hl0 hl1
      have B0_0 : Below w.heap.size w w := Below.refl _ _
      obtain ⟨ww1, hww1⟩ : ∃ v, v = w.alloc (.cells #[.bool gx, .slice ax nx cx, .bool gy, .slice ay ny cy, .int .i64 a.2] 34) := ⟨_, rfl⟩
      have sz1 : ww1.heap.size = w.heap.size + 1 := by rw [hww1]; simp
      have bw1 : Below w.heap.size w ww1 := by rw [hww1]; exact below1 _ _
      have B0_1 := B0_0.trans (bw1.mono B0_0.size)
      have X0_1 : BoxL ww1 w.heap.size w.heap.size [.bool gx, .slice ax nx cx, .bool gy, .slice ay ny cy, .int .i64 a.2] := by rw [hww1]; have h := BoxL.made w [.bool gx, .slice ax nx cx, .bool gy, .slice ay ny cy, .int .i64 a.2] 34; exact h
      obtain ⟨ww2, hww2⟩ : ∃ v, v = ww1.alloc (.cells #[.bool false, .slice none 0 0, .bool false, .slice none 0 0, .int .i64 0] 34) := ⟨_, rfl⟩
      have sz2 : ww2.heap.size = w.heap.size + 1 + 1 := by rw [hww2]; simp [sz1]
      have bw2 : Below ww1.heap.size ww1 ww2 := by rw [hww2]; exact below1 _ _
      have B0_2 := B0_1.trans (bw2.mono B0_1.size)
      have X0_2 := X0_1.below bw2 (Nat.le_refl _)
      have R0_2 : BoxL ww2 (w.heap.size + 1) (w.heap.size + 1) [.bool false, .slice none 0 0, .bool false, .slice none 0 0, .int .i64 0] := by rw [hww2]; have h := BoxL.made ww1 [.bool false, .slice none 0 0, .bool false, .slice none 0 0, .int .i64 0] 34; rw [sz1] at h; exact h
      have X0 := X0_2
      have R0 := R0_2.mono (by omega : w.heap.size ≤ w.heap.size + 1)
      have B0 := B0_2
      clear B0_0 B0_1 B0_2 bw1 bw2 X0_1 X0_2 R0_2
      go_enter Try.func18, Try.ntmps18
      go_wp2_with fail
      have hvv : (w.alloc (.cells #[.bool gx, .slice ax nx cx, .bool gy, .slice ay ny cy, .int .i64 a.2] 34)).alloc (.cells #[.bool false, .slice none 0 0, .bool false, .slice none 0 0, .int .i64 0] 34) = ww2 := by rw [hww2]; rw [hww1]
      rw [hvv]
      clear hvv hww1 hww2 sz1
      clear ww1
      have hz0 : w.heap.size + 2 ≤ ww2.heap.size := by omega
      clear sz2
      refine (kA _ B0).mono ?_
      rintro e w1 ⟨ox, oy, rfl, bb1, hXY⟩
      obtain ⟨p1, q1, rfl, rfl, sp, sq⟩ := hXY (by first | exact trivial | rfl)
      have B1 := B0.trans (bb1.mono B0.size)
      have X1 := X0.below bb1 (Nat.le_refl _)
      have R1 := R0.below bb1 (Nat.le_refl _)
      clear B0 X0 R0 bb1
      have sp1 := sp
      clear sp
      have sq1 := sq
      clear sq
      clear kA
      obtain ⟨w2, hw2⟩ : ∃ v, Hid (v = w1.alloc (.cells #[.pointer (some ⟨p1, 0, none⟩), .pointer (some ⟨q1, 0, none⟩), .int .i64 a.2] 65)) := ⟨_, rfl⟩
      have bb2 : Below w1.heap.size w1 w2 := by rw [hw2.out]; exact below1 _ _
      obtain ⟨qb2, hq2⟩ : ∃ v, Hid (v = w1.heap.size) := ⟨_, rfl⟩
      have F2 : BoxL w2 w.heap.size qb2 [.pointer (some ⟨p1, 0, none⟩), .pointer (some ⟨q1, 0, none⟩), .int .i64 a.2] := by rw [hw2.out, hq2.out]; exact (BoxL.made w1 [.pointer (some ⟨p1, 0, none⟩), .pointer (some ⟨q1, 0, none⟩), .int .i64 a.2] 65).mono B1.size
      have B2 := B1.trans (bb2.mono B1.size)
      have X2 := X1.below bb2 (Nat.le_refl _)
      have R2 := R1.below bb2 (Nat.le_refl _)
      have sp2 := sp1.below bb2 sp1.lt
      have sq2 := sq1.below bb2 sq1.lt
      have lt_X_F : w.heap.size < qb2 := by rw [hq2.out]; exact X1.hi
      have lt_R_F : w.heap.size + 1 < qb2 := by rw [hq2.out]; exact R1.hi
      have ne_F_sp : ¬ (p1 = qb2) := fun e => by rw [hq2.out] at e; have h1 := sp1.lt; omega
      have ne_F_sq : ¬ (q1 = qb2) := fun e => by rw [hq2.out] at e; have h1 := sq1.lt; omega
      clear B1 X1 R1 sp1 sq1 bb2
      go_wp2_with fail
      rw [← hw2.out]
      (try rw [← hq2.out])
      clear hw2 hq2
      refine (kS _ _ _ sp2 sq2).mono ?_
      rintro e w3 ⟨c, cc, rfl, sx, sy, bb3, hc, hd⟩
      have B3 := B2.trans (bb3.mono B2.size)
      have X3 := X2.below bb3 (Nat.le_refl _)
      have R3 := R2.below bb3 (Nat.le_refl _)
      have sp3 := sp2.below bb3 sp2.lt
      have sq3 := sq2.below bb3 sq2.lt
      have F3 := F2.below bb3 (Nat.le_refl _)
      clear B2 X2 R2 sp2 sq2 F2 bb3
      have sx3 := sx
      clear sx
      have sy3 := sy
      clear sy
      clear kS hc hd
      clear sp3 sq3
      go_wp2_with fail
      refine (kF _ _ _ sx3 sy3).mono ?_
      rintro e w4 ⟨v, rfl, of, bb4⟩
      obtain ⟨h5, s5, t5, u5, h6, s6, t6, u6, eqf⟩ := of.cell
      skip
      obtain ⟨kk5, hk5⟩ : ∃ q, (a.2 + (k : Int)) = q := ⟨_, rfl⟩
      replace eqf : v = .agg #[.bool h5, .slice s5 t5 u5, .bool h6, .slice s6 t6 u6, .int .i64 (a.2 + (k : Int))] := eqf
      rw [hk5] at eqf
      subst eqf
      replace hk5 : Hid (_ = kk5) := hk5
      have ap_X_of : Apart (blkP (.agg #[.bool h5, .slice s5 t5 u5, .bool h6, .slice s6 t6 u6, .int .i64 kk5])) [w.heap.size] := apart_one fun q hq => by have h1 := (ownsP.ltb of q hq).1; have h2 := X3.hi; omega
      have ap_R_of : Apart (blkP (.agg #[.bool h5, .slice s5 t5 u5, .bool h6, .slice s6 t6 u6, .int .i64 kk5])) [w.heap.size + 1] := apart_one fun q hq => by have h1 := (ownsP.ltb of q hq).1; have h2 := R3.hi; omega
      have ap_F_of : Apart (blkP (.agg #[.bool h5, .slice s5 t5 u5, .bool h6, .slice s6 t6 u6, .int .i64 kk5])) [qb2] := apart_one fun q hq => by have h1 := (ownsP.ltb of q hq).1; have h2 := F3.hi; omega
      replace of := ownsP_mono of B3.size
      have B4 := B3.trans (bb4.mono B3.size)
      have X4 := X3.below bb4 (Nat.le_refl _)
      have R4 := R3.below bb4 (Nat.le_refl _)
      have F4 := F3.below bb4 (Nat.le_refl _)
      have sx4 := sx3.below bb4 sx3.lt
      have sy4 := sy3.below bb4 sy3.lt
      clear B3 X3 R3 F3 sx3 sy3 bb4
      have of4 := of
      clear of
      clear kF
      clear sx4 sy4 F4
      clear kC
      clear X4
      skip
      obtain ⟨wN, hwN⟩ : ∃ v, Hid (v = w4.alloc (.cells #[.bool h5, .slice s5 t5 u5, .bool h6, .slice s6 t6 u6, .int .i64 kk5] 34)) := ⟨_, rfl⟩
      have NN : BoxL wN w.heap.size w4.heap.size [.bool h5, .slice s5 t5 u5, .bool h6, .slice s6 t6 u6, .int .i64 kk5] := by rw [hwN.out]; exact (BoxL.made w4 [.bool h5, .slice s5 t5 u5, .bool h6, .slice s6 t6 u6, .int .i64 kk5] 34).mono B4.size
      have RN : BoxL wN w.heap.size (w.heap.size + 1) [.bool false, .slice none 0 0, .bool false, .slice none 0 0, .int .i64 0] := by rw [hwN.out]; exact R4.below (below1 _ _) (Nat.le_refl _)
      have hRlt := R4.hi
      have cN0 := NN.c 0 _ rfl
      have cR0 := RN.c 0 _ rfl
      have fR0 := RN.f 0 _ rfl
      have cN1 := NN.c 1 _ rfl
      have cR1 := RN.c 1 _ rfl
      have fR1 := RN.f 1 _ rfl
      have cN2 := NN.c 2 _ rfl
      have cR2 := RN.c 2 _ rfl
      have fR2 := RN.f 2 _ rfl
      have cN3 := NN.c 3 _ rfl
      have cR3 := RN.c 3 _ rfl
      have fR3 := RN.f 3 _ rfl
      have cN4 := NN.c 4 _ rfl
      have cR4 := RN.c 4 _ rfl
      have fR4 := RN.f 4 _ rfl
      rw [hwN.out] at cN0
      rw [hwN.out] at cR0
      rw [hwN.out] at fR0
      rw [hwN.out] at cN1
      rw [hwN.out] at cR1
      rw [hwN.out] at fR1
      rw [hwN.out] at cN2
      rw [hwN.out] at cR2
      rw [hwN.out] at fR2
      rw [hwN.out] at cN3
      rw [hwN.out] at cR3
      rw [hwN.out] at fR3
      rw [hwN.out] at cN4
      rw [hwN.out] at cR4
      rw [hwN.out] at fR4
      clear NN RN hwN wN
      have dR0 := R4.c 0 _ rfl
      have gR0 := R4.f 0 _ rfl
      have dR1 := R4.c 1 _ rfl
      have gR1 := R4.f 1 _ rfl
      have dR2 := R4.c 2 _ rfl
      have gR2 := R4.f 2 _ rfl
      have dR3 := R4.c 3 _ rfl
      have gR3 := R4.f 3 _ rfl
      have dR4 := R4.c 4 _ rfl
      have gR4 := R4.f 4 _ rfl
      have HB0 := (((((B4.setCell (p := ⟨w.heap.size + 1, 0, none⟩) (by show w.heap.size ≤ w.heap.size + 1; omega) (.bool h5)).setCell (p := ⟨w.heap.size + 1, 1, none⟩) (by show w.heap.size ≤ w.heap.size + 1; omega) (.slice s5 t5 u5)).setCell (p := ⟨w.heap.size + 1, 2, none⟩) (by show w.heap.size ≤ w.heap.size + 1; omega) (.bool h6)).setCell (p := ⟨w.heap.size + 1, 3, none⟩) (by show w.heap.size ≤ w.heap.size + 1; omega) (.slice s6 t6 u6)).setCell (p := ⟨w.heap.size + 1, 4, none⟩) (by show w.heap.size ≤ w.heap.size + 1; omega) (.int .i64 kk5))
      have HT := ownsP.tn of4 (((((tnL w4 (w.heap.size + 1) 0 (.bool h5)).trans (tnL _ (w.heap.size + 1) 1 (.slice s5 t5 u5))).trans (tnL _ (w.heap.size + 1) 2 (.bool h6))).trans (tnL _ (w.heap.size + 1) 3 (.slice s6 t6 u6))).trans (tnL _ (w.heap.size + 1) 4 (.int .i64 kk5))) ap_R_of
      have HF := And.intro (ownsP.below HT (below1 _ (.cells #[.bool h5, .slice s5 t5 u5, .bool h6, .slice s6 t6 u6, .int .i64 kk5] 34)) (Nat.le_refl _)) (HB0.alloc HB0.size (.cells #[.bool h5, .slice s5 t5 u5, .bool h6, .slice s6 t6 u6, .int .i64 kk5] 34))
      replace HF : Hid _ := HF
      clear HB0 HT B4 of4 R4
      go_wp2
      (try simp only [Exit.inBlock, Exit.then])
      refine bodyPost_ret (v := .tuple #[.agg #[.bool h5, .slice s5 t5 u5, .bool h6, .slice s6 t6 u6, .int .i64 kk5], .bool true]) ?_ rfl ⟨_, by rw [HR.out], by rw [HR.out]; exact HF.out.1, HF.out.2⟩
      rw [results_cell_tmp rfl]
      go_simp
  · rw [if_neg (fun h => by rw [hO] at h; cases h)] at HQ
    have HR := HQ
    clear HQ hO hff z m1 m2 c0 hk30 z3 z4
    obtain ⟨f1, f2⟩ := ff
    obtain rfl : f2 = false := eO
    rcases c2 with rfl | rfl
    · clear ha hl0 hl1
      have B0_0 : Below w.heap.size w w := Below.refl _ _
      obtain ⟨ww1, hww1⟩ : ∃ v, v = w.alloc (.cells #[.bool gx, .slice ax nx cx, .bool gy, .slice ay ny cy, .int .i64 a.2] 34) := ⟨_, rfl⟩
      have sz1 : ww1.heap.size = w.heap.size + 1 := by rw [hww1]; simp
      have bw1 : Below w.heap.size w ww1 := by rw [hww1]; exact below1 _ _
      have B0_1 := B0_0.trans (bw1.mono B0_0.size)
      have X0_1 : BoxL ww1 w.heap.size w.heap.size [.bool gx, .slice ax nx cx, .bool gy, .slice ay ny cy, .int .i64 a.2] := by rw [hww1]; have h := BoxL.made w [.bool gx, .slice ax nx cx, .bool gy, .slice ay ny cy, .int .i64 a.2] 34; exact h
      obtain ⟨ww2, hww2⟩ : ∃ v, v = ww1.alloc (.cells #[.bool false, .slice none 0 0, .bool false, .slice none 0 0, .int .i64 0] 34) := ⟨_, rfl⟩
      have sz2 : ww2.heap.size = w.heap.size + 1 + 1 := by rw [hww2]; simp [sz1]
      have bw2 : Below ww1.heap.size ww1 ww2 := by rw [hww2]; exact below1 _ _
      have B0_2 := B0_1.trans (bw2.mono B0_1.size)
      have X0_2 := X0_1.below bw2 (Nat.le_refl _)
      have R0_2 : BoxL ww2 (w.heap.size + 1) (w.heap.size + 1) [.bool false, .slice none 0 0, .bool false, .slice none 0 0, .int .i64 0] := by rw [hww2]; have h := BoxL.made ww1 [.bool false, .slice none 0 0, .bool false, .slice none 0 0, .int .i64 0] 34; rw [sz1] at h; exact h
      have X0 := X0_2
      have R0 := R0_2.mono (by omega : w.heap.size ≤ w.heap.size + 1)
      have B0 := B0_2
      clear B0_0 B0_1 B0_2 bw1 bw2 X0_1 X0_2 R0_2
      go_enter Try.func18, Try.ntmps18
      go_wp2_with fail
      have hvv : (w.alloc (.cells #[.bool gx, .slice ax nx cx, .bool gy, .slice ay ny cy, .int .i64 a.2] 34)).alloc (.cells #[.bool false, .slice none 0 0, .bool false, .slice none 0 0, .int .i64 0] 34) = ww2 := by rw [hww2]; rw [hww1]
      rw [hvv]
      clear hvv hww1 hww2 sz1
      clear ww1
      have hz0 : w.heap.size + 2 ≤ ww2.heap.size := by omega
      clear sz2
      refine (kA _ B0).mono ?_
      rintro e w1 ⟨ox, oy, rfl, bb1, hXY⟩
      obtain ⟨p1, q1, rfl, rfl, sp, sq⟩ := hXY (by first | exact trivial | rfl)
      have B1 := B0.trans (bb1.mono B0.size)
      have X1 := X0.below bb1 (Nat.le_refl _)
      have R1 := R0.below bb1 (Nat.le_refl _)
      clear B0 X0 R0 bb1
      have sp1 := sp
      clear sp
      have sq1 := sq
      clear sq
      clear kA
      obtain ⟨w2, hw2⟩ : ∃ v, Hid (v = w1.alloc (.cells #[.pointer (some ⟨p1, 0, none⟩), .pointer (some ⟨q1, 0, none⟩), .int .i64 a.2] 65)) := ⟨_, rfl⟩
      have bb2 : Below w1.heap.size w1 w2 := by rw [hw2.out]; exact below1 _ _
      obtain ⟨qb2, hq2⟩ : ∃ v, Hid (v = w1.heap.size) := ⟨_, rfl⟩
      have F2 : BoxL w2 w.heap.size qb2 [.pointer (some ⟨p1, 0, none⟩), .pointer (some ⟨q1, 0, none⟩), .int .i64 a.2] := by rw [hw2.out, hq2.out]; exact (BoxL.made w1 [.pointer (some ⟨p1, 0, none⟩), .pointer (some ⟨q1, 0, none⟩), .int .i64 a.2] 65).mono B1.size
      have B2 := B1.trans (bb2.mono B1.size)
      have X2 := X1.below bb2 (Nat.le_refl _)
      have R2 := R1.below bb2 (Nat.le_refl _)
      have sp2 := sp1.below bb2 sp1.lt
      have sq2 := sq1.below bb2 sq1.lt
      have lt_X_F : w.heap.size < qb2 := by rw [hq2.out]; exact X1.hi
      have lt_R_F : w.heap.size + 1 < qb2 := by rw [hq2.out]; exact R1.hi
      have ne_F_sp : ¬ (p1 = qb2) := fun e => by rw [hq2.out] at e; have h1 := sp1.lt; omega
      have ne_F_sq : ¬ (q1 = qb2) := fun e => by rw [hq2.out] at e; have h1 := sq1.lt; omega
      clear B1 X1 R1 sp1 sq1 bb2
      go_wp2_with fail
      rw [← hw2.out]
      (try rw [← hq2.out])
      clear hw2 hq2
      refine (kS _ _ _ sp2 sq2).mono ?_
      rintro e w3 ⟨c, cc, rfl, sx, sy, bb3, hc, hd⟩
      have B3 := B2.trans (bb3.mono B2.size)
      have X3 := X2.below bb3 (Nat.le_refl _)
      have R3 := R2.below bb3 (Nat.le_refl _)
      have sp3 := sp2.below bb3 sp2.lt
      have sq3 := sq2.below bb3 sq2.lt
      have F3 := F2.below bb3 (Nat.le_refl _)
      clear B2 X2 R2 sp2 sq2 F2 bb3
      have sx3 := sx
      clear sx
      have sy3 := sy
      clear sy
      clear kS hc hd
      clear sp3 sq3
      go_wp2_with fail
      refine (kF _ _ _ sx3 sy3).mono ?_
      rintro e w4 ⟨v, rfl, of, bb4⟩
      obtain ⟨h5, s5, t5, u5, h6, s6, t6, u6, eqf⟩ := of.cell
      skip
      obtain ⟨kk5, hk5⟩ : ∃ q, f1.2 = q := ⟨_, rfl⟩
      skip
      rw [hk5] at eqf
      subst eqf
      replace hk5 : Hid (_ = kk5) := hk5
      have ap_X_of : Apart (blkP (.agg #[.bool h5, .slice s5 t5 u5, .bool h6, .slice s6 t6 u6, .int .i64 kk5])) [w.heap.size] := apart_one fun q hq => by have h1 := (ownsP.ltb of q hq).1; have h2 := X3.hi; omega
      have ap_R_of : Apart (blkP (.agg #[.bool h5, .slice s5 t5 u5, .bool h6, .slice s6 t6 u6, .int .i64 kk5])) [w.heap.size + 1] := apart_one fun q hq => by have h1 := (ownsP.ltb of q hq).1; have h2 := R3.hi; omega
      have ap_F_of : Apart (blkP (.agg #[.bool h5, .slice s5 t5 u5, .bool h6, .slice s6 t6 u6, .int .i64 kk5])) [qb2] := apart_one fun q hq => by have h1 := (ownsP.ltb of q hq).1; have h2 := F3.hi; omega
      replace of := ownsP_mono of B3.size
      have B4 := B3.trans (bb4.mono B3.size)
      have X4 := X3.below bb4 (Nat.le_refl _)
      have R4 := R3.below bb4 (Nat.le_refl _)
      have F4 := F3.below bb4 (Nat.le_refl _)
      have sx4 := sx3.below bb4 sx3.lt
      have sy4 := sy3.below bb4 sy3.lt
      clear B3 X3 R3 F3 sx3 sy3 bb4
      have of4 := of
      clear of
      clear kF
      clear sx4 sy4 F4
      clear of4
      obtain ⟨w5, hw5⟩ : ∃ v, Hid (v = w4.alloc (.cells #[.bool h5, .slice s5 t5 u5, .bool h6, .slice s6 t6 u6, .int .i64 kk5] 34)) := ⟨_, rfl⟩
      have bb5 : Below w4.heap.size w4 w5 := by rw [hw5.out]; exact below1 _ _
      obtain ⟨qb5, hq5⟩ : ∃ v, Hid (v = w4.heap.size) := ⟨_, rfl⟩
      have N5 : BoxL w5 w.heap.size qb5 [.bool h5, .slice s5 t5 u5, .bool h6, .slice s6 t6 u6, .int .i64 kk5] := by rw [hw5.out, hq5.out]; exact (BoxL.made w4 [.bool h5, .slice s5 t5 u5, .bool h6, .slice s6 t6 u6, .int .i64 kk5] 34).mono B4.size
      have B5 := B4.trans (bb5.mono B4.size)
      have X5 := X4.below bb5 (Nat.le_refl _)
      have R5 := R4.below bb5 (Nat.le_refl _)
      have lt_X_N : w.heap.size < qb5 := by rw [hq5.out]; exact X4.hi
      have lt_R_N : w.heap.size + 1 < qb5 := by rw [hq5.out]; exact R4.hi
      clear B4 X4 R4 bb5
      have c_X_0 := X5.c 0 _ rfl
      have c_X_1 := X5.c 1 _ rfl
      have c_X_2 := X5.c 2 _ rfl
      have c_X_3 := X5.c 3 _ rfl
      have c_X_4 := X5.c 4 _ rfl
      rw [hw5.out] at c_X_0
      rw [hw5.out] at c_X_1
      rw [hw5.out] at c_X_2
      rw [hw5.out] at c_X_3
      rw [hw5.out] at c_X_4
      go_wp2_with fail
      rw [← hw5.out]
      (try rw [← hq5.out])
      clear c_X_0 c_X_1 c_X_2 c_X_3 c_X_4
      clear hw5 hq5
      refine (kC _ B5).mono ?_
      rintro e w6 ⟨v, rfl, oz, bb6⟩
      obtain ⟨h8, s8, t8, u8, h9, s9, t9, u9, eqz⟩ := oz.cell
      subst eqz
      generalize hkz : a.2 = kk9 at *
      replace hkz : Hid (a.2 = kk9) := hkz
      have ap_X_oz : Apart (blkP (.agg #[.bool h8, .slice s8 t8 u8, .bool h9, .slice s9 t9 u9, .int .i64 kk9])) [w.heap.size] := apart_one fun q hq => by have h1 := (ownsP.ltb oz q hq).1; have h2 := X5.hi; omega
      have ap_R_oz : Apart (blkP (.agg #[.bool h8, .slice s8 t8 u8, .bool h9, .slice s9 t9 u9, .int .i64 kk9])) [w.heap.size + 1] := apart_one fun q hq => by have h1 := (ownsP.ltb oz q hq).1; have h2 := R5.hi; omega
      have ap_N_oz : Apart (blkP (.agg #[.bool h8, .slice s8 t8 u8, .bool h9, .slice s9 t9 u9, .int .i64 kk9])) [qb5] := apart_one fun q hq => by have h1 := (ownsP.ltb oz q hq).1; have h2 := N5.hi; omega
      replace oz := ownsP_mono oz B5.size
      have B6 := B5.trans (bb6.mono B5.size)
      have X6 := X5.below bb6 (Nat.le_refl _)
      have R6 := R5.below bb6 (Nat.le_refl _)
      have N6 := N5.below bb6 (Nat.le_refl _)
      clear B5 X5 R5 N5 bb6
      have oz6 := oz
      clear oz
      clear kC
      clear X6
      have c_R_0 := R6.c 0 _ rfl
      have f_R_0 := R6.f 0 _ rfl
      have c_R_1 := R6.c 1 _ rfl
      have f_R_1 := R6.f 1 _ rfl
      have c_R_2 := R6.c 2 _ rfl
      have f_R_2 := R6.f 2 _ rfl
      have c_R_3 := R6.c 3 _ rfl
      have f_R_3 := R6.f 3 _ rfl
      have c_R_4 := R6.c 4 _ rfl
      have f_R_4 := R6.f 4 _ rfl
      obtain ⟨w7, hw7⟩ : ∃ v, v = ((((w6.setCell ⟨w.heap.size + 1, 0, none⟩ (.bool h8)).setCell ⟨w.heap.size + 1, 1, none⟩ (.slice s8 t8 u8)).setCell ⟨w.heap.size + 1, 2, none⟩ (.bool h9)).setCell ⟨w.heap.size + 1, 3, none⟩ (.slice s9 t9 u9)).setCell ⟨w.heap.size + 1, 4, none⟩ (.int .i64 kk9) := ⟨_, rfl⟩
      have tn7 : Tn [w.heap.size + 1] w6 w7 := by rw [hw7]; exact (((((tnL w6 (w.heap.size + 1) 0 (.bool h8)).trans (tnL _ (w.heap.size + 1) 1 (.slice s8 t8 u8))).trans (tnL _ (w.heap.size + 1) 2 (.bool h9))).trans (tnL _ (w.heap.size + 1) 3 (.slice s9 t9 u9))).trans (tnL _ (w.heap.size + 1) 4 (.int .i64 kk9)))
      have R7 : BoxL w7 w.heap.size (w.heap.size + 1) [.bool h8, .slice s8 t8 u8, .bool h9, .slice s9 t9 u9, .int .i64 kk9] := by rw [hw7]; exact (((((R6.set 0 (.bool h8) (by simp)).set 1 (.slice s8 t8 u8) (by simp)).set 2 (.bool h9) (by simp)).set 3 (.slice s9 t9 u9) (by simp)).set 4 (.int .i64 kk9) (by simp))
      have blo7 := R6.lo
      have B7 := tn7.below B6 B6.size (fun q hq => by simp at hq; omega)
      have N7 := N6.tn tn7 (not_one (by omega))
      have oz7 := ownsP.tn oz6 tn7 ap_R_oz
      clear B6 R6 N6 oz6 tn7 blo7
      subst hw7
      go_wp2
      (try simp only [Exit.inBlock, Exit.then])
      refine bodyPost_ret (v := .tuple #[.agg #[.bool h8, .slice s8 t8 u8, .bool h9, .slice s9 t9 u9, .int .i64 kk9], .bool false]) ?_ rfl ⟨_, by rw [HR.out], by rw [HR.out]; exact oz7, B7⟩
      rw [results_cell_tmp rfl]
      go_simp
    · clear ha hl0 hl1
      have B0_0 : Below w.heap.size w w := Below.refl _ _
      obtain ⟨ww1, hww1⟩ : ∃ v, v = w.alloc (.cells #[.bool gx, .slice ax nx cx, .bool gy, .slice ay ny cy, .int .i64 a.2] 34) := ⟨_, rfl⟩
      have sz1 : ww1.heap.size = w.heap.size + 1 := by rw [hww1]; simp
      have bw1 : Below w.heap.size w ww1 := by rw [hww1]; exact below1 _ _
      have B0_1 := B0_0.trans (bw1.mono B0_0.size)
      have X0_1 : BoxL ww1 w.heap.size w.heap.size [.bool gx, .slice ax nx cx, .bool gy, .slice ay ny cy, .int .i64 a.2] := by rw [hww1]; have h := BoxL.made w [.bool gx, .slice ax nx cx, .bool gy, .slice ay ny cy, .int .i64 a.2] 34; exact h
      obtain ⟨ww2, hww2⟩ : ∃ v, v = ww1.alloc (.cells #[.bool false, .slice none 0 0, .bool false, .slice none 0 0, .int .i64 0] 34) := ⟨_, rfl⟩
      have sz2 : ww2.heap.size = w.heap.size + 1 + 1 := by rw [hww2]; simp [sz1]
      have bw2 : Below ww1.heap.size ww1 ww2 := by rw [hww2]; exact below1 _ _
      have B0_2 := B0_1.trans (bw2.mono B0_1.size)
      have X0_2 := X0_1.below bw2 (Nat.le_refl _)
      have R0_2 : BoxL ww2 (w.heap.size + 1) (w.heap.size + 1) [.bool false, .slice none 0 0, .bool false, .slice none 0 0, .int .i64 0] := by rw [hww2]; have h := BoxL.made ww1 [.bool false, .slice none 0 0, .bool false, .slice none 0 0, .int .i64 0] 34; rw [sz1] at h; exact h
      have X0 := X0_2
      have R0 := R0_2.mono (by omega : w.heap.size ≤ w.heap.size + 1)
      have B0 := B0_2
      clear B0_0 B0_1 B0_2 bw1 bw2 X0_1 X0_2 R0_2
      go_enter Try.func18, Try.ntmps18
      go_wp2_with fail
      have hvv : (w.alloc (.cells #[.bool gx, .slice ax nx cx, .bool gy, .slice ay ny cy, .int .i64 a.2] 34)).alloc (.cells #[.bool false, .slice none 0 0, .bool false, .slice none 0 0, .int .i64 0] 34) = ww2 := by rw [hww2]; rw [hww1]
      rw [hvv]
      clear hvv hww1 hww2 sz1
      clear ww1
      have hz0 : w.heap.size + 2 ≤ ww2.heap.size := by omega
      clear sz2
      refine (kA _ B0).mono ?_
      rintro e w1 ⟨ox, oy, rfl, bb1, hXY⟩
      obtain ⟨p1, q1, rfl, rfl, sp, sq⟩ := hXY (by first | exact trivial | rfl)
      have B1 := B0.trans (bb1.mono B0.size)
      have X1 := X0.below bb1 (Nat.le_refl _)
      have R1 := R0.below bb1 (Nat.le_refl _)
      clear B0 X0 R0 bb1
      have sp1 := sp
      clear sp
      have sq1 := sq
      clear sq
      clear kA
      obtain ⟨w2, hw2⟩ : ∃ v, Hid (v = w1.alloc (.cells #[.pointer (some ⟨p1, 0, none⟩), .pointer (some ⟨q1, 0, none⟩), .int .i64 a.2] 65)) := ⟨_, rfl⟩
      have bb2 : Below w1.heap.size w1 w2 := by rw [hw2.out]; exact below1 _ _
      obtain ⟨qb2, hq2⟩ : ∃ v, Hid (v = w1.heap.size) := ⟨_, rfl⟩
      have F2 : BoxL w2 w.heap.size qb2 [.pointer (some ⟨p1, 0, none⟩), .pointer (some ⟨q1, 0, none⟩), .int .i64 a.2] := by rw [hw2.out, hq2.out]; exact (BoxL.made w1 [.pointer (some ⟨p1, 0, none⟩), .pointer (some ⟨q1, 0, none⟩), .int .i64 a.2] 65).mono B1.size
      have B2 := B1.trans (bb2.mono B1.size)
      have X2 := X1.below bb2 (Nat.le_refl _)
      have R2 := R1.below bb2 (Nat.le_refl _)
      have sp2 := sp1.below bb2 sp1.lt
      have sq2 := sq1.below bb2 sq1.lt
      have lt_X_F : w.heap.size < qb2 := by rw [hq2.out]; exact X1.hi
      have lt_R_F : w.heap.size + 1 < qb2 := by rw [hq2.out]; exact R1.hi
      have ne_F_sp : ¬ (p1 = qb2) := fun e => by rw [hq2.out] at e; have h1 := sp1.lt; omega
      have ne_F_sq : ¬ (q1 = qb2) := fun e => by rw [hq2.out] at e; have h1 := sq1.lt; omega
      clear B1 X1 R1 sp1 sq1 bb2
      go_wp2_with fail
      rw [← hw2.out]
      (try rw [← hq2.out])
      clear hw2 hq2
      refine (kS _ _ _ sp2 sq2).mono ?_
      rintro e w3 ⟨c, cc, rfl, sx, sy, bb3, hc, hd⟩
      have B3 := B2.trans (bb3.mono B2.size)
      have X3 := X2.below bb3 (Nat.le_refl _)
      have R3 := R2.below bb3 (Nat.le_refl _)
      have sp3 := sp2.below bb3 sp2.lt
      have sq3 := sq2.below bb3 sq2.lt
      have F3 := F2.below bb3 (Nat.le_refl _)
      clear B2 X2 R2 sp2 sq2 F2 bb3
      have sx3 := sx
      clear sx
      have sy3 := sy
      clear sy
      clear kS hc hd
      clear sp3 sq3
      go_wp2_with fail
      refine (kF _ _ _ sx3 sy3).mono ?_
      rintro e w4 ⟨v, rfl, of, bb4⟩
      obtain ⟨h5, s5, t5, u5, h6, s6, t6, u6, eqf⟩ := of.cell
      skip
      obtain ⟨kk5, hk5⟩ : ∃ q, f1.2 = q := ⟨_, rfl⟩
      skip
      rw [hk5] at eqf
      subst eqf
      replace hk5 : Hid (_ = kk5) := hk5
      have ap_X_of : Apart (blkP (.agg #[.bool h5, .slice s5 t5 u5, .bool h6, .slice s6 t6 u6, .int .i64 kk5])) [w.heap.size] := apart_one fun q hq => by have h1 := (ownsP.ltb of q hq).1; have h2 := X3.hi; omega
      have ap_R_of : Apart (blkP (.agg #[.bool h5, .slice s5 t5 u5, .bool h6, .slice s6 t6 u6, .int .i64 kk5])) [w.heap.size + 1] := apart_one fun q hq => by have h1 := (ownsP.ltb of q hq).1; have h2 := R3.hi; omega
      have ap_F_of : Apart (blkP (.agg #[.bool h5, .slice s5 t5 u5, .bool h6, .slice s6 t6 u6, .int .i64 kk5])) [qb2] := apart_one fun q hq => by have h1 := (ownsP.ltb of q hq).1; have h2 := F3.hi; omega
      replace of := ownsP_mono of B3.size
      have B4 := B3.trans (bb4.mono B3.size)
      have X4 := X3.below bb4 (Nat.le_refl _)
      have R4 := R3.below bb4 (Nat.le_refl _)
      have F4 := F3.below bb4 (Nat.le_refl _)
      have sx4 := sx3.below bb4 sx3.lt
      have sy4 := sy3.below bb4 sy3.lt
      clear B3 X3 R3 F3 sx3 sy3 bb4
      have of4 := of
      clear of
      clear kF
      clear sx4 sy4 F4
      clear of4
      obtain ⟨w5, hw5⟩ : ∃ v, Hid (v = w4.alloc (.cells #[.bool h5, .slice s5 t5 u5, .bool h6, .slice s6 t6 u6, .int .i64 kk5] 34)) := ⟨_, rfl⟩
      have bb5 : Below w4.heap.size w4 w5 := by rw [hw5.out]; exact below1 _ _
      obtain ⟨qb5, hq5⟩ : ∃ v, Hid (v = w4.heap.size) := ⟨_, rfl⟩
      have N5 : BoxL w5 w.heap.size qb5 [.bool h5, .slice s5 t5 u5, .bool h6, .slice s6 t6 u6, .int .i64 kk5] := by rw [hw5.out, hq5.out]; exact (BoxL.made w4 [.bool h5, .slice s5 t5 u5, .bool h6, .slice s6 t6 u6, .int .i64 kk5] 34).mono B4.size
      have B5 := B4.trans (bb5.mono B4.size)
      have X5 := X4.below bb5 (Nat.le_refl _)
      have R5 := R4.below bb5 (Nat.le_refl _)
      have lt_X_N : w.heap.size < qb5 := by rw [hq5.out]; exact X4.hi
      have lt_R_N : w.heap.size + 1 < qb5 := by rw [hq5.out]; exact R4.hi
      clear B4 X4 R4 bb5
      have c_X_0 := X5.c 0 _ rfl
      have c_X_1 := X5.c 1 _ rfl
      have c_X_2 := X5.c 2 _ rfl
      have c_X_3 := X5.c 3 _ rfl
      have c_X_4 := X5.c 4 _ rfl
      rw [hw5.out] at c_X_0
      rw [hw5.out] at c_X_1
      rw [hw5.out] at c_X_2
      rw [hw5.out] at c_X_3
      rw [hw5.out] at c_X_4
      go_wp2_with fail
      rw [← hw5.out]
      (try rw [← hq5.out])
      clear c_X_0 c_X_1 c_X_2 c_X_3 c_X_4
      clear hw5 hq5
      refine (kC _ B5).mono ?_
      rintro e w6 ⟨v, rfl, oz, bb6⟩
      obtain ⟨h8, s8, t8, u8, h9, s9, t9, u9, eqz⟩ := oz.cell
      subst eqz
      generalize hkz : a.2 = kk9 at *
      replace hkz : Hid (a.2 = kk9) := hkz
      have ap_X_oz : Apart (blkP (.agg #[.bool h8, .slice s8 t8 u8, .bool h9, .slice s9 t9 u9, .int .i64 kk9])) [w.heap.size] := apart_one fun q hq => by have h1 := (ownsP.ltb oz q hq).1; have h2 := X5.hi; omega
      have ap_R_oz : Apart (blkP (.agg #[.bool h8, .slice s8 t8 u8, .bool h9, .slice s9 t9 u9, .int .i64 kk9])) [w.heap.size + 1] := apart_one fun q hq => by have h1 := (ownsP.ltb oz q hq).1; have h2 := R5.hi; omega
      have ap_N_oz : Apart (blkP (.agg #[.bool h8, .slice s8 t8 u8, .bool h9, .slice s9 t9 u9, .int .i64 kk9])) [qb5] := apart_one fun q hq => by have h1 := (ownsP.ltb oz q hq).1; have h2 := N5.hi; omega
      replace oz := ownsP_mono oz B5.size
      have B6 := B5.trans (bb6.mono B5.size)
      have X6 := X5.below bb6 (Nat.le_refl _)
      have R6 := R5.below bb6 (Nat.le_refl _)
      have N6 := N5.below bb6 (Nat.le_refl _)
      clear B5 X5 R5 N5 bb6
      have oz6 := oz
      clear oz
      clear kC
      clear X6
      have c_R_0 := R6.c 0 _ rfl
      have f_R_0 := R6.f 0 _ rfl
      have c_R_1 := R6.c 1 _ rfl
      have f_R_1 := R6.f 1 _ rfl
      have c_R_2 := R6.c 2 _ rfl
      have f_R_2 := R6.f 2 _ rfl
      have c_R_3 := R6.c 3 _ rfl
      have f_R_3 := R6.f 3 _ rfl
      have c_R_4 := R6.c 4 _ rfl
      have f_R_4 := R6.f 4 _ rfl
      obtain ⟨w7, hw7⟩ : ∃ v, v = ((((w6.setCell ⟨w.heap.size + 1, 0, none⟩ (.bool h8)).setCell ⟨w.heap.size + 1, 1, none⟩ (.slice s8 t8 u8)).setCell ⟨w.heap.size + 1, 2, none⟩ (.bool h9)).setCell ⟨w.heap.size + 1, 3, none⟩ (.slice s9 t9 u9)).setCell ⟨w.heap.size + 1, 4, none⟩ (.int .i64 kk9) := ⟨_, rfl⟩
      have tn7 : Tn [w.heap.size + 1] w6 w7 := by rw [hw7]; exact (((((tnL w6 (w.heap.size + 1) 0 (.bool h8)).trans (tnL _ (w.heap.size + 1) 1 (.slice s8 t8 u8))).trans (tnL _ (w.heap.size + 1) 2 (.bool h9))).trans (tnL _ (w.heap.size + 1) 3 (.slice s9 t9 u9))).trans (tnL _ (w.heap.size + 1) 4 (.int .i64 kk9)))
      have R7 : BoxL w7 w.heap.size (w.heap.size + 1) [.bool h8, .slice s8 t8 u8, .bool h9, .slice s9 t9 u9, .int .i64 kk9] := by rw [hw7]; exact (((((R6.set 0 (.bool h8) (by simp)).set 1 (.slice s8 t8 u8) (by simp)).set 2 (.bool h9) (by simp)).set 3 (.slice s9 t9 u9) (by simp)).set 4 (.int .i64 kk9) (by simp))
      have blo7 := R6.lo
      have B7 := tn7.below B6 B6.size (fun q hq => by simp at hq; omega)
      have N7 := N6.tn tn7 (not_one (by omega))
      have oz7 := ownsP.tn oz6 tn7 ap_R_oz
      clear B6 R6 N6 oz6 tn7 blo7
      subst hw7
      go_wp2
      (try simp only [Exit.inBlock, Exit.then])
      refine bodyPost_ret (v := .tuple #[.agg #[.bool h8, .slice s8 t8 u8, .bool h9, .slice s9 t9 u9, .int .i64 kk9], .bool false]) ?_ rfl ⟨_, by rw [HR.out], by rw [HR.out]; exact oz7, B7⟩
      rw [results_cell_tmp rfl]
      go_simp

end Go.Proofs.Ytlpfjpbnedankaa

/- SpinRun of the program, by its contract. -/
namespace Go.Proofs.Ytlpfjpbnedankaa
open Go.RowKit
set_option linter.unusedSimpArgs false
set_option linter.unusedVariables false

set_option maxRecDepth 20000 in
set_option maxHeartbeats 6400000 in
theorem iSpinRun (va vds : Value) (a : Ph) (ds : List Int) (w : World) (ha : rowP w va a) (hl0 : a.1.1.2.length ≤ 1048576) (hl1 : a.1.2.2.length ≤ 1048576) (hds : rowI w vds ds) (hln : ds.length ≤ 1048576) :
    Calls Try.prog 11 #[va, vds] w fun e w' => ∃ v, e = .returned (.tuple #[v, .bool (runR a ds).2]) ∧ ownsP w' w.heap.size v (runR a ds).1 ∧ Below w.heap.size w w' := by
  have kC := fun W (h : Below w.heap.size w W) => iCopyP va a W (ha.below h (Nat.le_refl _)) hl0 hl1
  obtain ⟨gx, ax, nx, cx, gy, ay, ny, cy, eq⟩ := ha.cell
  subst eq
  obtain ⟨kx, hkx⟩ : ∃ q, a.2 = q := ⟨_, rfl⟩
  simp only [hkx] at kC ⊢
  replace hkx : Hid (a.2 = kx) := hkx
  clear ha
  have hz := atRun.zero ds (⟨hl0, hl1⟩ : lenP a)
  obtain ⟨n, hn⟩ : ∃ n, ds.length = n := ⟨_, rfl⟩
  obtain ⟨ad, cap, rfl, h2, h3, h4, h5, h6⟩ := id hds
  rw [hn] at hln h6
  simp only [hn]
  replace hn : Hid (ds.length = n) := hn
  clear hl0 hl1 h2 h3 h4 h5
  have B0_0 : Below w.heap.size w w := Below.refl _ _
  obtain ⟨ww1, hww1⟩ : ∃ v, v = w.alloc (.cells #[.bool gx, .slice ax nx cx, .bool gy, .slice ay ny cy, .int .i64 kx] 34) := ⟨_, rfl⟩
  have sz1 : ww1.heap.size = w.heap.size + 1 := by rw [hww1]; simp
  have bw1 : Below w.heap.size w ww1 := by rw [hww1]; exact below1 _ _
  have B0_1 := B0_0.trans (bw1.mono B0_0.size)
  have X0_1 : BoxL ww1 w.heap.size w.heap.size [.bool gx, .slice ax nx cx, .bool gy, .slice ay ny cy, .int .i64 kx] := by rw [hww1]; have h := BoxL.made w [.bool gx, .slice ax nx cx, .bool gy, .slice ay ny cy, .int .i64 kx] 34; exact h
  obtain ⟨ww2, hww2⟩ : ∃ v, v = ww1.alloc (.cells #[.bool false, .slice none 0 0, .bool false, .slice none 0 0, .int .i64 0] 34) := ⟨_, rfl⟩
  have sz2 : ww2.heap.size = w.heap.size + 1 + 1 := by rw [hww2]; simp [sz1]
  have bw2 : Below ww1.heap.size ww1 ww2 := by rw [hww2]; exact below1 _ _
  have B0_2 := B0_1.trans (bw2.mono B0_1.size)
  have X0_2 := X0_1.below bw2 (Nat.le_refl _)
  have R0_2 : BoxL ww2 (w.heap.size + 1) (w.heap.size + 1) [.bool false, .slice none 0 0, .bool false, .slice none 0 0, .int .i64 0] := by rw [hww2]; have h := BoxL.made ww1 [.bool false, .slice none 0 0, .bool false, .slice none 0 0, .int .i64 0] 34; rw [sz1] at h; exact h
  have X0 := X0_2
  have R0 := R0_2.mono (by omega : w.heap.size ≤ w.heap.size + 1)
  have B0 := B0_2
  clear B0_0 B0_1 B0_2 bw1 bw2 X0_1 X0_2 R0_2
  go_enter Try.func11, Try.ntmps11
  go_wp2_with fail
  have hvv : (w.alloc (.cells #[.bool gx, .slice ax nx cx, .bool gy, .slice ay ny cy, .int .i64 kx] 34)).alloc (.cells #[.bool false, .slice none 0 0, .bool false, .slice none 0 0, .int .i64 0] 34) = ww2 := by rw [hww2]; rw [hww1]
  rw [hvv]
  clear hvv hww1 hww2 sz1
  clear ww1
  have hz0 : w.heap.size + 2 ≤ ww2.heap.size := by omega
  clear sz2
  refine (kC _ B0).mono ?_
  rintro e w1 ⟨v, rfl, oa, bb1⟩
  obtain ⟨h1, s1, t1, u1, m1, p1, q1, r1, eq1⟩ := oa.cell
  obtain ⟨k1, hk1⟩ : ∃ q, a.2 = q := ⟨_, rfl⟩
  rw [hk1] at eq1
  subst eq1
  replace hk1 : Hid (a.2 = k1) := hk1
  have ap_X_oa : Apart (blkP (.agg #[.bool h1, .slice s1 t1 u1, .bool m1, .slice p1 q1 r1, .int .i64 k1])) [w.heap.size] := apart_one fun q hq => by have h1 := (ownsP.ltb oa q hq).1; have h2 := X0.hi; omega
  have ap_R_oa : Apart (blkP (.agg #[.bool h1, .slice s1 t1 u1, .bool m1, .slice p1 q1 r1, .int .i64 k1])) [w.heap.size + 1] := apart_one fun q hq => by have h1 := (ownsP.ltb oa q hq).1; have h2 := R0.hi; omega
  replace oa := ownsP_mono oa B0.size
  have B1 := B0.trans (bb1.mono B0.size)
  have X1 := X0.below bb1 (Nat.le_refl _)
  have R1 := R0.below bb1 (Nat.le_refl _)
  clear B0 X0 R0 bb1
  have oa1 := oa
  clear oa
  obtain ⟨w2, hw2⟩ : ∃ v, Hid (v = w1.alloc (.cells #[.bool h1, .slice s1 t1 u1, .bool m1, .slice p1 q1 r1, .int .i64 k1] 34)) := ⟨_, rfl⟩
  have bb2 : Below w1.heap.size w1 w2 := by rw [hw2.out]; exact below1 _ _
  obtain ⟨qb2, hq2⟩ : ∃ v, Hid (v = w1.heap.size) := ⟨_, rfl⟩
  have O2 : BoxL w2 w.heap.size qb2 [.bool h1, .slice s1 t1 u1, .bool m1, .slice p1 q1 r1, .int .i64 k1] := by rw [hw2.out, hq2.out]; exact (BoxL.made w1 [.bool h1, .slice s1 t1 u1, .bool m1, .slice p1 q1 r1, .int .i64 k1] 34).mono B1.size
  have sn2 : w2.heap.size = qb2 + 1 := by rw [hw2.out, hq2.out]; simp
  have B2 := B1.trans (bb2.mono B1.size)
  have X2 := X1.below bb2 (Nat.le_refl _)
  have R2 := R1.below bb2 (Nat.le_refl _)
  have oa2 := ownsP.below oa1 bb2 (Nat.le_refl _)
  have lt_X_O : w.heap.size < qb2 := by rw [hq2.out]; exact X1.hi
  have lt_R_O : w.heap.size + 1 < qb2 := by rw [hq2.out]; exact R1.hi
  have ap_O_oa : Apart (blkP (.agg #[.bool h1, .slice s1 t1 u1, .bool m1, .slice p1 q1 r1, .int .i64 k1])) [qb2] := apart_one fun q hq => by rw [hq2.out]; have h1 := (ownsP.ltb oa1 q hq).2; omega
  clear B1 X1 R1 oa1 bb2
  replace sn2 : Hid (w2.heap.size = qb2 + 1) := sn2
  go_wp2_with fail
  replace sn2 := sn2.out
  rw [← hw2.out]
  (try rw [← hq2.out])
  (try rw [← sn2])
  clear hw2 hq2 sn2
  go_loopw [15] (fun x0 wr => ∃ (k : Nat) (b : Ph) (h2 : Bool) (s2 : Option Addr) (t2 : Nat) (u2 : Nat) (m2 : Bool) (p2 : Option Addr) (q2 : Nat) (r2 : Nat) (k2 : Int), k ≤ n ∧ atRun a ds k b ∧ Hid (b.2 = k2) ∧ x0 = .int .i64 (k : Int) ∧ BoxL wr w.heap.size qb2 [.bool h2, .slice s2 t2 u2, .bool m2, .slice p2 q2 r2, .int .i64 k2] ∧ BoxL wr w.heap.size (w.heap.size + 1) [.bool false, .slice none 0 0, .bool false, .slice none 0 0, .int .i64 0] ∧ BoxL wr w.heap.size w.heap.size [.bool gx, .slice ax nx cx, .bool gy, .slice ay ny cy, .int .i64 kx] ∧ ownsP wr w.heap.size (.agg #[.bool h2, .slice s2 t2 u2, .bool m2, .slice p2 q2 r2, .int .i64 k2]) b ∧ Apart (blkP (.agg #[.bool h2, .slice s2 t2 u2, .bool m2, .slice p2 q2 r2, .int .i64 k2])) [w.heap.size] ∧ Apart (blkP (.agg #[.bool h2, .slice s2 t2 u2, .bool m2, .slice p2 q2 r2, .int .i64 k2])) [w.heap.size + 1] ∧ Apart (blkP (.agg #[.bool h2, .slice s2 t2 u2, .bool m2, .slice p2 q2 r2, .int .i64 k2])) [qb2] ∧ Below w.heap.size w wr) (fun x0 _ => n - (intOf x0).toNat)
  case atStart => exact ⟨0, a, h1, s1, t1, u1, m1, p1, q1, r1, k1, Nat.zero_le _, hz, hk1, rfl, O2, R2, X2, oa2, ap_X_oa, ap_R_oa, ap_O_oa, B2⟩
  case round =>
    clear X2 R2 oa2 O2 B2 ap_O_oa ap_R_oa ap_X_oa
    obtain ⟨k, b, h2, s2, t2, u2, m2, p2, q2, r2, k2, hk, hr, hb, rfl, O3, R3, X3, oa3, ap_X_oa, ap_R_oa, ap_O_oa, B3⟩ := hrel
    clear hz
    by_cases hlt : k < n
    case neg =>
      obtain rfl : k = n := by omega
      have hlt2 : ¬ (k : Int) < (k : Int) := by omega
      have HR : Hid (runR a ds = (b, true)) := by show _ = _; rw [← hn.out] at hr; exact hr.done
      clear hr hlt kC h6
      clear X3
      have c_O_0 := O3.c 0 _ rfl
      have c_O_1 := O3.c 1 _ rfl
      have c_O_2 := O3.c 2 _ rfl
      have c_O_3 := O3.c 3 _ rfl
      have c_O_4 := O3.c 4 _ rfl
      have c_R_0 := R3.c 0 _ rfl
      have f_R_0 := R3.f 0 _ rfl
      have c_R_1 := R3.c 1 _ rfl
      have f_R_1 := R3.f 1 _ rfl
      have c_R_2 := R3.c 2 _ rfl
      have f_R_2 := R3.f 2 _ rfl
      have c_R_3 := R3.c 3 _ rfl
      have f_R_3 := R3.f 3 _ rfl
      have c_R_4 := R3.c 4 _ rfl
      have f_R_4 := R3.f 4 _ rfl
      obtain ⟨w4, hw4⟩ : ∃ v, v = ((((wr.setCell ⟨w.heap.size + 1, 0, none⟩ (.bool h2)).setCell ⟨w.heap.size + 1, 1, none⟩ (.slice s2 t2 u2)).setCell ⟨w.heap.size + 1, 2, none⟩ (.bool m2)).setCell ⟨w.heap.size + 1, 3, none⟩ (.slice p2 q2 r2)).setCell ⟨w.heap.size + 1, 4, none⟩ (.int .i64 k2) := ⟨_, rfl⟩
      have tn4 : Tn [w.heap.size + 1] wr w4 := by rw [hw4]; exact (((((tnL wr (w.heap.size + 1) 0 (.bool h2)).trans (tnL _ (w.heap.size + 1) 1 (.slice s2 t2 u2))).trans (tnL _ (w.heap.size + 1) 2 (.bool m2))).trans (tnL _ (w.heap.size + 1) 3 (.slice p2 q2 r2))).trans (tnL _ (w.heap.size + 1) 4 (.int .i64 k2)))
      have R4 : BoxL w4 w.heap.size (w.heap.size + 1) [.bool h2, .slice s2 t2 u2, .bool m2, .slice p2 q2 r2, .int .i64 k2] := by rw [hw4]; exact (((((R3.set 0 (.bool h2) (by simp)).set 1 (.slice s2 t2 u2) (by simp)).set 2 (.bool m2) (by simp)).set 3 (.slice p2 q2 r2) (by simp)).set 4 (.int .i64 k2) (by simp))
      have blo4 := R3.lo
      have B4 := tn4.below B3 B3.size (fun q hq => by simp at hq; omega)
      have O4 := O3.tn tn4 (not_one (by omega))
      have oa4 := ownsP.tn oa3 tn4 ap_R_oa
      clear B3 R3 O3 oa3 tn4 blo4
      subst hw4
      go_wp2
      (try simp only [Exit.inBlock, Exit.then])
      refine bodyPost_ret (v := .tuple #[.agg #[.bool h2, .slice s2 t2 u2, .bool m2, .slice p2 q2 r2, .int .i64 k2], .bool true]) ?_ rfl ⟨_, by rw [HR.out], by rw [HR.out]; exact oa4, B4⟩
      rw [results_cell_tmp rfl]
      go_simp
    have hlt2 : (k : Int) < (n : Int) := by omega
    obtain ⟨g0, o0, hg0, hgl, hgc⟩ := h6 k (by omega)
    obtain ⟨d, hd⟩ : ∃ d, ds.getD k 0 = d := ⟨_, rfl⟩
    rw [hd] at hgc
    subst hg0
    obtain ⟨⟨c, ok⟩, hc⟩ : ∃ q, stepR b k d = q := ⟨_, rfl⟩
    have hl2 := hr.2
    have kS := fun v W (q : rowP W v b) => iSpinStep v b k d W q hl2.1 hl2.2
    simp only [hc] at kS
    clear hl2
    have hkn : ¬ (k : Int) < 0 := by omega
    cases ok
    · have HR : Hid (runR a ds = (a, false)) := hr.no (by rw [hn.out]; exact hlt) hd hc
      clear hr hc hd
      clear hlt
      have hcell := fun W (h : Below w.heap.size w W) => (h.cell (p := ⟨g0, o0 + k, none⟩) hgl).trans hgc
      have hcl := hcell _ B3
      have c_O_0 := O3.c 0 _ rfl
      have c_O_1 := O3.c 1 _ rfl
      have c_O_2 := O3.c 2 _ rfl
      have c_O_3 := O3.c 3 _ rfl
      have c_O_4 := O3.c 4 _ rfl
      go_wp2_with fail
      clear hcl
      refine (kS _ _ oa3.row).mono ?_
      rintro e w4 ⟨v, rfl, oc, bb4⟩
      clear c_O_0 c_O_1 c_O_2 c_O_3 c_O_4
      obtain ⟨h3, s3, t3, u3, m3, p3, q3, r3, eq3⟩ := oc.cell
      obtain ⟨k3, hk3⟩ : ∃ q, c.2 = q := ⟨_, rfl⟩
      rw [hk3] at eq3
      subst eq3
      replace hk3 : Hid (c.2 = k3) := hk3
      have ap_X_oc : Apart (blkP (.agg #[.bool h3, .slice s3 t3 u3, .bool m3, .slice p3 q3 r3, .int .i64 k3])) [w.heap.size] := apart_one fun q hq => by have h1 := (ownsP.ltb oc q hq).1; have h2 := X3.hi; omega
      have ap_R_oc : Apart (blkP (.agg #[.bool h3, .slice s3 t3 u3, .bool m3, .slice p3 q3 r3, .int .i64 k3])) [w.heap.size + 1] := apart_one fun q hq => by have h1 := (ownsP.ltb oc q hq).1; have h2 := R3.hi; omega
      have ap_O_oc : Apart (blkP (.agg #[.bool h3, .slice s3 t3 u3, .bool m3, .slice p3 q3 r3, .int .i64 k3])) [qb2] := apart_one fun q hq => by have h1 := (ownsP.ltb oc q hq).1; have h2 := O3.hi; omega
      have ap_oa_oc : Apart (blkP (.agg #[.bool h2, .slice s2 t2 u2, .bool m2, .slice p2 q2 r2, .int .i64 k2])) (blkP (.agg #[.bool h3, .slice s3 t3 u3, .bool m3, .slice p3 q3 r3, .int .i64 k3])) := apart_of (fun k hk => (ownsP.ltb oa3 k hk).2) (fun k hk => (ownsP.ltb oc k hk).1)
      replace oc := ownsP_mono oc B3.size
      have B4 := B3.trans (bb4.mono B3.size)
      have X4 := X3.below bb4 (Nat.le_refl _)
      have R4 := R3.below bb4 (Nat.le_refl _)
      have O4 := O3.below bb4 (Nat.le_refl _)
      have oa4 := ownsP.below oa3 bb4 (Nat.le_refl _)
      clear B3 X3 R3 O3 oa3 bb4
      have oc4 := oc
      clear oc
      clear kS
      obtain ⟨w5, hw5⟩ : ∃ v, Hid (v = w4.alloc (.cells #[.bool h3, .slice s3 t3 u3, .bool m3, .slice p3 q3 r3, .int .i64 k3] 34)) := ⟨_, rfl⟩
      have bb5 : Below w4.heap.size w4 w5 := by rw [hw5.out]; exact below1 _ _
      obtain ⟨qb5, hq5⟩ : ∃ v, Hid (v = w4.heap.size) := ⟨_, rfl⟩
      have N5 : BoxL w5 w.heap.size qb5 [.bool h3, .slice s3 t3 u3, .bool m3, .slice p3 q3 r3, .int .i64 k3] := by rw [hw5.out, hq5.out]; exact (BoxL.made w4 [.bool h3, .slice s3 t3 u3, .bool m3, .slice p3 q3 r3, .int .i64 k3] 34).mono B4.size
      have sn5 : w5.heap.size = qb5 + 1 := by rw [hw5.out, hq5.out]; simp
      have B5 := B4.trans (bb5.mono B4.size)
      have X5 := X4.below bb5 (Nat.le_refl _)
      have R5 := R4.below bb5 (Nat.le_refl _)
      have O5 := O4.below bb5 (Nat.le_refl _)
      have oa5 := ownsP.below oa4 bb5 (Nat.le_refl _)
      have oc5 := ownsP.below oc4 bb5 (Nat.le_refl _)
      have lt_X_N : w.heap.size < qb5 := by rw [hq5.out]; exact X4.hi
      have lt_R_N : w.heap.size + 1 < qb5 := by rw [hq5.out]; exact R4.hi
      have lt_O_N : qb2 < qb5 := by rw [hq5.out]; exact O4.hi
      have ap_N_oa : Apart (blkP (.agg #[.bool h2, .slice s2 t2 u2, .bool m2, .slice p2 q2 r2, .int .i64 k2])) [qb5] := apart_one fun q hq => by rw [hq5.out]; have h1 := (ownsP.ltb oa4 q hq).2; omega
      have ap_N_oc : Apart (blkP (.agg #[.bool h3, .slice s3 t3 u3, .bool m3, .slice p3 q3 r3, .int .i64 k3])) [qb5] := apart_one fun q hq => by rw [hq5.out]; have h1 := (ownsP.ltb oc4 q hq).2; omega
      clear B4 X4 R4 O4 oa4 oc4 bb5
      have c_X_0 := X5.c 0 _ rfl
      have c_X_1 := X5.c 1 _ rfl
      have c_X_2 := X5.c 2 _ rfl
      have c_X_3 := X5.c 3 _ rfl
      have c_X_4 := X5.c 4 _ rfl
      have c_O_0 := O5.c 0 _ rfl
      have c_O_1 := O5.c 1 _ rfl
      have c_O_2 := O5.c 2 _ rfl
      have c_O_3 := O5.c 3 _ rfl
      have c_O_4 := O5.c 4 _ rfl
      rw [hw5.out] at c_X_0
      rw [hw5.out] at c_X_1
      rw [hw5.out] at c_X_2
      rw [hw5.out] at c_X_3
      rw [hw5.out] at c_X_4
      rw [hw5.out] at c_O_0
      rw [hw5.out] at c_O_1
      rw [hw5.out] at c_O_2
      rw [hw5.out] at c_O_3
      rw [hw5.out] at c_O_4
      replace sn5 : Hid (w5.heap.size = qb5 + 1) := sn5
      go_wp2_with fail
      replace sn5 := sn5.out
      rw [← hw5.out]
      (try rw [← hq5.out])
      (try rw [← sn5])
      clear c_X_0 c_X_1 c_X_2 c_X_3 c_X_4 c_O_0 c_O_1 c_O_2 c_O_3 c_O_4
      clear hw5 hq5 sn5
      clear oa5 oc5 O5 N5
      refine (kC _ B5).mono ?_
      rintro e w6 ⟨v, rfl, oz, bb6⟩
      obtain ⟨h4, s4, t4, u4, m4, p4, q4, r4, eq4⟩ := oz.cell
      obtain ⟨k4, hk4⟩ : ∃ q, a.2 = q := ⟨_, rfl⟩
      rw [hk4] at eq4
      subst eq4
      replace hk4 : Hid (a.2 = k4) := hk4
      have ap_X_oz : Apart (blkP (.agg #[.bool h4, .slice s4 t4 u4, .bool m4, .slice p4 q4 r4, .int .i64 k4])) [w.heap.size] := apart_one fun q hq => by have h1 := (ownsP.ltb oz q hq).1; have h2 := X5.hi; omega
      have ap_R_oz : Apart (blkP (.agg #[.bool h4, .slice s4 t4 u4, .bool m4, .slice p4 q4 r4, .int .i64 k4])) [w.heap.size + 1] := apart_one fun q hq => by have h1 := (ownsP.ltb oz q hq).1; have h2 := R5.hi; omega
      replace oz := ownsP_mono oz B5.size
      have B6 := B5.trans (bb6.mono B5.size)
      have X6 := X5.below bb6 (Nat.le_refl _)
      have R6 := R5.below bb6 (Nat.le_refl _)
      clear B5 X5 R5 bb6
      have oz6 := oz
      clear oz
      clear kC
      clear X6
      have c_R_0 := R6.c 0 _ rfl
      have f_R_0 := R6.f 0 _ rfl
      have c_R_1 := R6.c 1 _ rfl
      have f_R_1 := R6.f 1 _ rfl
      have c_R_2 := R6.c 2 _ rfl
      have f_R_2 := R6.f 2 _ rfl
      have c_R_3 := R6.c 3 _ rfl
      have f_R_3 := R6.f 3 _ rfl
      have c_R_4 := R6.c 4 _ rfl
      have f_R_4 := R6.f 4 _ rfl
      obtain ⟨w7, hw7⟩ : ∃ v, v = ((((w6.setCell ⟨w.heap.size + 1, 0, none⟩ (.bool h4)).setCell ⟨w.heap.size + 1, 1, none⟩ (.slice s4 t4 u4)).setCell ⟨w.heap.size + 1, 2, none⟩ (.bool m4)).setCell ⟨w.heap.size + 1, 3, none⟩ (.slice p4 q4 r4)).setCell ⟨w.heap.size + 1, 4, none⟩ (.int .i64 k4) := ⟨_, rfl⟩
      have tn7 : Tn [w.heap.size + 1] w6 w7 := by rw [hw7]; exact (((((tnL w6 (w.heap.size + 1) 0 (.bool h4)).trans (tnL _ (w.heap.size + 1) 1 (.slice s4 t4 u4))).trans (tnL _ (w.heap.size + 1) 2 (.bool m4))).trans (tnL _ (w.heap.size + 1) 3 (.slice p4 q4 r4))).trans (tnL _ (w.heap.size + 1) 4 (.int .i64 k4)))
      have R7 : BoxL w7 w.heap.size (w.heap.size + 1) [.bool h4, .slice s4 t4 u4, .bool m4, .slice p4 q4 r4, .int .i64 k4] := by rw [hw7]; exact (((((R6.set 0 (.bool h4) (by simp)).set 1 (.slice s4 t4 u4) (by simp)).set 2 (.bool m4) (by simp)).set 3 (.slice p4 q4 r4) (by simp)).set 4 (.int .i64 k4) (by simp))
      have blo7 := R6.lo
      have B7 := tn7.below B6 B6.size (fun q hq => by simp at hq; omega)
      have oz7 := ownsP.tn oz6 tn7 ap_R_oz
      clear B6 R6 oz6 tn7 blo7
      subst hw7
      go_wp2
      (try simp only [Exit.inBlock, Exit.then])
      refine bodyPost_ret (v := .tuple #[.agg #[.bool h4, .slice s4 t4 u4, .bool m4, .slice p4 q4 r4, .int .i64 k4], .bool false]) ?_ rfl ⟨_, by rw [HR.out], by rw [HR.out]; exact oz7, B7⟩
      rw [results_cell_tmp rfl]
      go_simp
    · have hr2 := hr.next (by rw [hn.out]; exact hlt) hd hc
      clear hr hc hd
      clear hlt
      have hcell := fun W (h : Below w.heap.size w W) => (h.cell (p := ⟨g0, o0 + k, none⟩) hgl).trans hgc
      have hcl := hcell _ B3
      have c_O_0 := O3.c 0 _ rfl
      have c_O_1 := O3.c 1 _ rfl
      have c_O_2 := O3.c 2 _ rfl
      have c_O_3 := O3.c 3 _ rfl
      have c_O_4 := O3.c 4 _ rfl
      go_wp2_with fail
      clear hcl
      refine (kS _ _ oa3.row).mono ?_
      rintro e w4 ⟨v, rfl, oc, bb4⟩
      clear c_O_0 c_O_1 c_O_2 c_O_3 c_O_4
      obtain ⟨h3, s3, t3, u3, m3, p3, q3, r3, eq3⟩ := oc.cell
      obtain ⟨k3, hk3⟩ : ∃ q, c.2 = q := ⟨_, rfl⟩
      rw [hk3] at eq3
      subst eq3
      replace hk3 : Hid (c.2 = k3) := hk3
      have ap_X_oc : Apart (blkP (.agg #[.bool h3, .slice s3 t3 u3, .bool m3, .slice p3 q3 r3, .int .i64 k3])) [w.heap.size] := apart_one fun q hq => by have h1 := (ownsP.ltb oc q hq).1; have h2 := X3.hi; omega
      have ap_R_oc : Apart (blkP (.agg #[.bool h3, .slice s3 t3 u3, .bool m3, .slice p3 q3 r3, .int .i64 k3])) [w.heap.size + 1] := apart_one fun q hq => by have h1 := (ownsP.ltb oc q hq).1; have h2 := R3.hi; omega
      have ap_O_oc : Apart (blkP (.agg #[.bool h3, .slice s3 t3 u3, .bool m3, .slice p3 q3 r3, .int .i64 k3])) [qb2] := apart_one fun q hq => by have h1 := (ownsP.ltb oc q hq).1; have h2 := O3.hi; omega
      have ap_oa_oc : Apart (blkP (.agg #[.bool h2, .slice s2 t2 u2, .bool m2, .slice p2 q2 r2, .int .i64 k2])) (blkP (.agg #[.bool h3, .slice s3 t3 u3, .bool m3, .slice p3 q3 r3, .int .i64 k3])) := apart_of (fun k hk => (ownsP.ltb oa3 k hk).2) (fun k hk => (ownsP.ltb oc k hk).1)
      replace oc := ownsP_mono oc B3.size
      have B4 := B3.trans (bb4.mono B3.size)
      have X4 := X3.below bb4 (Nat.le_refl _)
      have R4 := R3.below bb4 (Nat.le_refl _)
      have O4 := O3.below bb4 (Nat.le_refl _)
      have oa4 := ownsP.below oa3 bb4 (Nat.le_refl _)
      clear B3 X3 R3 O3 oa3 bb4
      have oc4 := oc
      clear oc
      clear kS
      clear oa4
      obtain ⟨wN, hwN⟩ : ∃ v, Hid (v = w4.alloc (.cells #[.bool h3, .slice s3 t3 u3, .bool m3, .slice p3 q3 r3, .int .i64 k3] 34)) := ⟨_, rfl⟩
      have NN : BoxL wN w.heap.size w4.heap.size [.bool h3, .slice s3 t3 u3, .bool m3, .slice p3 q3 r3, .int .i64 k3] := by rw [hwN.out]; exact (BoxL.made w4 [.bool h3, .slice s3 t3 u3, .bool m3, .slice p3 q3 r3, .int .i64 k3] 34).mono B4.size
      have hOl := O4.hi
      have hOo := O4.lo
      have ON : BoxL wN w.heap.size qb2 [.bool h2, .slice s2 t2 u2, .bool m2, .slice p2 q2 r2, .int .i64 k2] := by rw [hwN.out]; exact O4.below (below1 _ _) (Nat.le_refl _)
      have cN0 := NN.c 0 _ rfl
      have dO0 := ON.c 0 _ rfl
      have gO0 := ON.f 0 _ rfl
      have cN1 := NN.c 1 _ rfl
      have dO1 := ON.c 1 _ rfl
      have gO1 := ON.f 1 _ rfl
      have cN2 := NN.c 2 _ rfl
      have dO2 := ON.c 2 _ rfl
      have gO2 := ON.f 2 _ rfl
      have cN3 := NN.c 3 _ rfl
      have dO3 := ON.c 3 _ rfl
      have gO3 := ON.f 3 _ rfl
      have cN4 := NN.c 4 _ rfl
      have dO4 := ON.c 4 _ rfl
      have gO4 := ON.f 4 _ rfl
      rw [hwN.out] at cN0
      rw [hwN.out] at dO0
      rw [hwN.out] at gO0
      rw [hwN.out] at cN1
      rw [hwN.out] at dO1
      rw [hwN.out] at gO1
      rw [hwN.out] at cN2
      rw [hwN.out] at dO2
      rw [hwN.out] at gO2
      rw [hwN.out] at cN3
      rw [hwN.out] at dO3
      rw [hwN.out] at gO3
      rw [hwN.out] at cN4
      rw [hwN.out] at dO4
      rw [hwN.out] at gO4
      clear NN ON hwN wN
      have c_O_0 := O4.c 0 _ rfl
      have f_O_0 := O4.f 0 _ rfl
      have c_O_1 := O4.c 1 _ rfl
      have f_O_1 := O4.f 1 _ rfl
      have c_O_2 := O4.c 2 _ rfl
      have f_O_2 := O4.f 2 _ rfl
      have c_O_3 := O4.c 3 _ rfl
      have f_O_3 := O4.f 3 _ rfl
      have c_O_4 := O4.c 4 _ rfl
      have f_O_4 := O4.f 4 _ rfl
      obtain ⟨w5, hw5⟩ : ∃ v, v = ((((w4.setCell ⟨qb2, 0, none⟩ (.bool h3)).setCell ⟨qb2, 1, none⟩ (.slice s3 t3 u3)).setCell ⟨qb2, 2, none⟩ (.bool m3)).setCell ⟨qb2, 3, none⟩ (.slice p3 q3 r3)).setCell ⟨qb2, 4, none⟩ (.int .i64 k3) := ⟨_, rfl⟩
      have tn5 : Tn [qb2] w4 w5 := by rw [hw5]; exact (((((tnL w4 qb2 0 (.bool h3)).trans (tnL _ qb2 1 (.slice s3 t3 u3))).trans (tnL _ qb2 2 (.bool m3))).trans (tnL _ qb2 3 (.slice p3 q3 r3))).trans (tnL _ qb2 4 (.int .i64 k3)))
      have O5 : BoxL w5 w.heap.size qb2 [.bool h3, .slice s3 t3 u3, .bool m3, .slice p3 q3 r3, .int .i64 k3] := by rw [hw5]; exact (((((O4.set 0 (.bool h3) (by simp)).set 1 (.slice s3 t3 u3) (by simp)).set 2 (.bool m3) (by simp)).set 3 (.slice p3 q3 r3) (by simp)).set 4 (.int .i64 k3) (by simp))
      have blo5 := O4.lo
      have B5 := tn5.below B4 B4.size (fun q hq => by simp at hq; omega)
      have X5 := X4.tn tn5 (not_one (by omega))
      have R5 := R4.tn tn5 (not_one (by omega))
      have oc5 := ownsP.tn oc4 tn5 ap_O_oc
      clear B4 X4 R4 O4 oc4 tn5 blo5
      have bbZ := below1 w5 (.cells #[.bool h3, .slice s3 t3 u3, .bool m3, .slice p3 q3 r3, .int .i64 k3] 34)
      have B6 := B5.trans (bbZ.mono B5.size)
      have X6 := X5.below bbZ (Nat.le_refl _)
      have R6 := R5.below bbZ (Nat.le_refl _)
      have O6 := O5.below bbZ (Nat.le_refl _)
      have oc6 := ownsP.below oc5 bbZ (Nat.le_refl _)
      clear B5 X5 R5 O5 oc5 bbZ
      subst hw5
      go_wp2
      go_roundw
      case rel => exact ⟨k + 1, c, h3, s3, t3, u3, m3, p3, q3, r3, k3, by omega, hr2, hk3, by go_num, O6, R6, X6, oc6, ap_X_oc, ap_R_oc, ap_O_oc, B6⟩
      case measure => simp [intOf]; omega

end Go.Proofs.Ytlpfjpbnedankaa
