/- SpinStep of the specification, where d is -1. -/
import Derived.Test.YtlpfjpbnedankaaSpStepM
import Derived.Test.YtlpfjpbnedankaaPCopy
import Derived.Test.YtlpfjpbnedankaaWB
import Derived.Test.YtlpfjpbnedankaaSWMul
import Derived.Test.YtlpfjpbnedankaaSWSub
import Derived.Test.YtlpfjpbnedankaaSW
import Derived.Test.YtlpfjpbnedankaaFB
import Derived.Test.YtlpfjpbnedankaaSSpStep0
namespace Go.Proofs.Ytlpfjpbnedankaa
open Go.RowKit
set_option linter.unusedSimpArgs false
set_option linter.unusedVariables false

set_option maxRecDepth 20000 in
set_option maxHeartbeats 6400000 in
theorem sSpStep2 (va : Value) (a : Ph) (k : Nat) (w : World) (ha : rowP w va a) (hl0 : a.1.1.2.length ≤ 1048576) (hl1 : a.1.2.2.length ≤ 1048576) (c0 : okP a = true) (c1 : 0 ≤ (k : Int) ∧ (k : Int) ≤ 30) :
    Calls Try.prog 19 #[va, .int .i64 (k : Int), .int .i64 (-1 : Int)] w fun e w' => ∃ v, e = .returned (.tuple #[v, .bool (stepR a k (-1 : Int)).2]) ∧ ownsP w' w.heap.size v (stepR a k (-1 : Int)).1 ∧ Below w.heap.size w w' := by
  have kC := fun W (h : Below w.heap.size w W) => sCopyP va a W (ha.below h (Nat.le_refl _)) hl0 hl1
  have kA := fun W (h : Below w.heap.size w W) => sSpinOk va a W (ha.below h (Nat.le_refl _)) hl0 hl1
  rw [c0] at kA
  have kI := fun W => inAt_b (k : Int) 0 30 W
  rw [decide_eq_true c1] at kI
  have c2 : (-1 : Int) = 1 ∨ (-1 : Int) = -1 := by decide
  have z := okP_yes c0
  have ex : a.1.1 = mkW (valW a.1.1) := mkW_of z.1
  have ey : a.1.2 = mkW (valW a.1.2) := mkW_of z.2.1
  have m1 := okW_len48 z.1
  have m2 := okW_len48 z.2.1
  have z3 := z.2.2.1
  have z4 := z.2.2.2
  have HP : Hid (stepP a k (-1 : Int) = ((mkW (stX (valW a.1.1) (valW a.1.2) k (-1 : Int)), mkW (stY (valW a.1.1) (valW a.1.2) k (-1 : Int))), a.2 + k)) := by show _ = _; unfold stepP; rw [Int.toNat_natCast]
  have HQ : Hid (stepR a k (-1 : Int) = if okP (stepP a k (-1 : Int)) = true then (stepP a k (-1 : Int), true) else (a, false)) := by
    show _ = _
    unfold stepR
    by_cases h : okP (stepP a k (-1 : Int)) = true
    · rw [if_pos ⟨c0, c1, c2, h⟩, if_pos h]
    · rw [if_neg (fun q => h q.2.2.2), if_neg h]
  have rx := ha
  obtain ⟨gx, ax, nx, cx, gy, ay, ny, cy, eq⟩ := ha.cell
  subst eq
  have rx := rx.x
  have ry := ha.y
  rw [ex] at rx
  rw [ey] at ry
  have e1 := up30_len (valW a.1.1) k m1 (by omega)
  have e2 := up30_len (valW a.1.2) k m2 (by omega)
  have e3 := one_len (-1 : Int) c2
  have e4 := one_mul_len (valW a.1.1) (-1 : Int) c2
  have e5 := one_mul_len (valW a.1.2) (-1 : Int) c2
  have b1 : -9223372036854775808 ≤ (-1 : Int) := by omega
  have b2 : (-1 : Int) ≤ 9223372036854775807 := by omega
  have kU := fun W (h : Below w.heap.size w W) => sWUp _ (valW a.1.1) k W (rx.below h (Nat.le_refl _)) (by omega) (by omega)
  have kV := fun W (h : Below w.heap.size w W) => sWUp _ (valW a.1.2) k W (ry.below h (Nat.le_refl _)) (by omega) (by omega)
  have kD := fun W => sWholeOf (-1 : Int) W b1 b2
  unfold wofR at kD
  have kM := fun v W (h : Below w.heap.size w W) q => sWMul _ v (valW a.1.2) (-1 : Int) W (ry.below h (Nat.le_refl _)) q (by omega) (by omega)
  have kN := fun v W (h : Below w.heap.size w W) q => sWMul _ v (valW a.1.1) (-1 : Int) W (rx.below h (Nat.le_refl _)) q (by omega) (by omega)
  have kS := fun u v W q1 q2 => sWSub u v (valW a.1.1 * 2 ^ k) (valW a.1.2 * (-1 : Int)) W q1 q2 (by omega) (by omega)
  have kT := fun u v W q1 q2 => sWAdd u v (valW a.1.2 * 2 ^ k) (valW a.1.1 * (-1 : Int)) W q1 q2 (by omega) (by omega)
  have lX : (limbs (valW a.1.1 * 2 ^ k - valW a.1.2 * (-1 : Int)).natAbs).length ≤ 1000 := sub_len _ _ 998 (by omega) (by omega)
  have lY : (limbs (valW a.1.2 * 2 ^ k + valW a.1.1 * (-1 : Int)).natAbs).length ≤ 1000 := add_lenI _ _ 998 (by omega) (by omega)
  have kO := fun v W q h0 h1 => sSpinOk v (stepP a k (-1 : Int)) W q h0 h1
  rw [HP.out] at kO HQ
  unfold stX stY at kO HQ
  clear HP
  generalize valW a.1.1 * 2 ^ k - valW a.1.2 * (-1 : Int) = X at *
  generalize valW a.1.2 * 2 ^ k + valW a.1.1 * (-1 : Int) = Y at *
  generalize valW a.1.1 * 2 ^ k = y0 at *
  generalize valW a.1.2 * 2 ^ k = y1 at *
  generalize valW a.1.1 * (-1 : Int) = y2 at *
  generalize valW a.1.2 * (-1 : Int) = y3 at *
  have hs1 : 0 ≤ a.2 + (k : Int) := by omega
  have hs2 : a.2 + (k : Int) ≤ 2030 := by omega
  have hwk : IntKind.i64.wrap (a.2 + (k : Int)) = a.2 + (k : Int) := by rw [IntKind.wrap_i64]; omega
  clear rx ry z m1 m2 e1 e2 e3 e4 e5 ex ey c0 ha hl0 hl1
  have B0_0 : Below w.heap.size w w := Below.refl _ _
  obtain ⟨ww1, hww1⟩ : ∃ v, v = w.alloc (.cells #[.bool gx, .slice ax nx cx, .bool gy, .slice ay ny cy, .int .i64 a.2] 34) := ⟨_, rfl⟩
  have sz1 : ww1.heap.size = w.heap.size + 1 := by rw [hww1]; simp
  have bw1 : Below w.heap.size w ww1 := by rw [hww1]; exact below1 _ _
  have B0_1 := B0_0.trans (bw1.mono B0_0.size)
  have X0_1 : BoxL ww1 w.heap.size w.heap.size [.bool gx, .slice ax nx cx, .bool gy, .slice ay ny cy, .int .i64 a.2] := by rw [hww1]; have h := BoxL.made w [.bool gx, .slice ax nx cx, .bool gy, .slice ay ny cy, .int .i64 a.2] 34; exact h
  obtain ⟨ww2, hww2⟩ : ∃ v, v = ww1.alloc (.cells #[.bool false, .slice none 0 0, .bool false, .slice none 0 0, .int .i64 0] 34) := ⟨_, rfl⟩
  have sz2 : ww2.heap.size = w.heap.size + 1 + 1 := by rw [hww2]; simp [sz1]
  have bw2 : Below ww1.heap.size ww1 ww2 := by rw [hww2]; exact below1 _ _
  have B0_2 := B0_1.trans (bw2.mono B0_1.size)
  have X0_2 := X0_1.below bw2 (Nat.le_refl _)
  have R0_2 : BoxL ww2 (w.heap.size + 1) (w.heap.size + 1) [.bool false, .slice none 0 0, .bool false, .slice none 0 0, .int .i64 0] := by rw [hww2]; have h := BoxL.made ww1 [.bool false, .slice none 0 0, .bool false, .slice none 0 0, .int .i64 0] 34; rw [sz1] at h; exact h
  have X0 := X0_2
  have R0 := R0_2.mono (by omega : w.heap.size ≤ w.heap.size + 1)
  have B0 := B0_2
  clear B0_0 B0_1 B0_2 bw1 bw2 X0_1 X0_2 R0_2
  go_enter Try.func19, Try.ntmps19
  go_wp2_with fail
  have hvv : (w.alloc (.cells #[.bool gx, .slice ax nx cx, .bool gy, .slice ay ny cy, .int .i64 a.2] 34)).alloc (.cells #[.bool false, .slice none 0 0, .bool false, .slice none 0 0, .int .i64 0] 34) = ww2 := by rw [hww2]; rw [hww1]
  rw [hvv]
  clear hvv hww1 hww2 sz1
  clear ww1
  have hz0 : w.heap.size + 2 ≤ ww2.heap.size := by omega
  clear sz2
  refine (kA _ B0).mono ?_
  rintro e w1 ⟨rfl, bb1⟩
  have B1 := B0.trans (bb1.mono B0.size)
  have X1 := X0.below bb1 (Nat.le_refl _)
  have R1 := R0.below bb1 (Nat.le_refl _)
  clear B0 X0 R0 bb1
  have c_X_0 := X1.c 0 _ rfl
  have c_X_1 := X1.c 1 _ rfl
  have c_X_2 := X1.c 2 _ rfl
  have c_X_3 := X1.c 3 _ rfl
  have c_X_4 := X1.c 4 _ rfl
  go_wp2_with fail
  refine (kI _).mono ?_
  rintro e w2 ⟨rfl, bb2⟩
  clear c_X_0 c_X_1 c_X_2 c_X_3 c_X_4
  have B2 := B1.trans (bb2.mono B1.size)
  have X2 := X1.below bb2 (Nat.le_refl _)
  have R2 := R1.below bb2 (Nat.le_refl _)
  clear B1 X1 R1 bb2
  clear kA kI
  have g1 : True := trivial
  clear g1
  have c_X_0 := X2.c 0 _ rfl
  have c_X_1 := X2.c 1 _ rfl
  have c_X_2 := X2.c 2 _ rfl
  have c_X_3 := X2.c 3 _ rfl
  have c_X_4 := X2.c 4 _ rfl
  go_wp2_with fail
  clear c_X_0 c_X_1 c_X_2 c_X_3 c_X_4
  obtain ⟨w3, hw3⟩ : ∃ v, Hid (v = w2.drew) := ⟨_, rfl⟩
  have bd : Below w2.heap.size w2 w3 := by rw [hw3.out]; exact (Below.refl w2.heap.size w2).drew
  have B3 := B2.trans (bd.mono B2.size)
  have X3 := X2.below bd (Nat.le_refl _)
  have R3 := R2.below bd (Nat.le_refl _)
  clear B2 X2 R2 bd
  apply wpCutBANNBANNBANNBANNBANNBANNBANNBANNN (F := fun h0 s0 t0 u0 h1 s1 t1 u1 h2 s2 t2 u2 h3 s3 t3 u3 h4 s4 t4 u4 h5 s5 t5 u5 h6 s6 t6 u6 h7 s7 t7 u7 qb12 W => Below w.heap.size w W  ∧ BoxL W w.heap.size qb12 [.bool h3, .slice s3 t3 u3, .bool h7, .slice s7 t7 u7, .int .i64 (a.2 + (k : Int))] ∧ BoxL W w.heap.size (w.heap.size + 1) [.bool false, .slice none 0 0, .bool false, .slice none 0 0, .int .i64 0] ∧ BoxL W w.heap.size w.heap.size [.bool gx, .slice ax nx cx, .bool gy, .slice ay ny cy, .int .i64 a.2] ∧ ownsW W w.heap.size (.agg #[.bool h3, .slice s3 t3 u3]) (mkW X) ∧ ownsW W w.heap.size (.agg #[.bool h7, .slice s7 t7 u7]) (mkW Y) ∧ Apart (blkW (.agg #[.bool h3, .slice s3 t3 u3])) [qb12] ∧ Apart (blkW (.agg #[.bool h7, .slice s7 t7 u7])) [qb12] ∧ Apart (blkW (.agg #[.bool h3, .slice s3 t3 u3])) [w.heap.size + 1] ∧ Apart (blkW (.agg #[.bool h7, .slice s7 t7 u7])) [w.heap.size + 1] ∧ Apart (blkW (.agg #[.bool h3, .slice s3 t3 u3])) [w.heap.size] ∧ Apart (blkW (.agg #[.bool h7, .slice s7 t7 u7])) [w.heap.size] ∧ Apart (blkW (.agg #[.bool h3, .slice s3 t3 u3])) (blkW (.agg #[.bool h7, .slice s7 t7 u7])) ∧ w.heap.size + 1 < qb12 ∧ w.heap.size < qb12)
  case hA =>
    have hH : (fun W : World => W.cell? ⟨w.heap.size, 0, none⟩ = some (.bool gx) ∧ W.cell? ⟨w.heap.size, 1, none⟩ = some (.slice ax nx cx) ∧ W.cell? ⟨w.heap.size, 2, none⟩ = some (.bool gy) ∧ W.cell? ⟨w.heap.size, 3, none⟩ = some (.slice ay ny cy) ∧ W.cell? ⟨w.heap.size, 4, none⟩ = some (.int .i64 a.2)) w3 := ⟨X3.c 0 _ rfl, X3.c 1 _ rfl, X3.c 2 _ rfl, X3.c 3 _ rfl, X3.c 4 _ rfl⟩
    refine wp_region_held_drew (S := fun W => W.cell? ⟨w.heap.size, 0, none⟩ = some (.bool gx) ∧ W.cell? ⟨w.heap.size, 1, none⟩ = some (.slice ax nx cx) ∧ W.cell? ⟨w.heap.size, 2, none⟩ = some (.bool gy) ∧ W.cell? ⟨w.heap.size, 3, none⟩ = some (.slice ay ny cy) ∧ W.cell? ⟨w.heap.size, 4, none⟩ = some (.int .i64 a.2)) (by kernel_rfl) (by rw [← hw3.out]; exact hH) ?_
    intro _
    rw [← hw3.out]
    refine takeH 0 (some 27) (.pointer (some ⟨w.heap.size, 0, none⟩)) rfl rfl (by kernel_rfl) (by kernel_rfl) (by kernel_rfl) (fun _ _ _ h => h) (Or.inl ⟨rfl, fun W hW => by go_simp⟩) hH ?_
    simp only [Act.put, List.setIfInBounds_toArray, List.set_cons_zero, List.set_cons_succ]
    refine takeH 1 (some 28) (.agg #[.bool gx, .slice ax nx cx]) rfl rfl (by kernel_rfl) (by kernel_rfl) (by kernel_rfl) (fun _ _ _ h => h) (Or.inl ⟨rfl, fun W hW => by obtain ⟨l0, l1, l2, l3, l4⟩ := hW; go_simp⟩) hH ?_
    simp only [Act.put, List.setIfInBounds_toArray, List.set_cons_zero, List.set_cons_succ]
    refine takeH 2 (some 29) (.int .i64 k) rfl rfl (by kernel_rfl) (by kernel_rfl) (by kernel_rfl) (fun _ _ _ h => h) (Or.inl ⟨rfl, fun W hW => by go_simp⟩) hH ?_
    simp only [Act.put, List.setIfInBounds_toArray, List.set_cons_zero, List.set_cons_succ]
    refine takeH 4 (some 31) (.pointer (some ⟨w.heap.size, 2, none⟩)) rfl rfl (by kernel_rfl) (by kernel_rfl) (by kernel_rfl) (fun _ _ _ h => h) (Or.inl ⟨rfl, fun W hW => by go_simp⟩) hH ?_
    simp only [Act.put, List.setIfInBounds_toArray, List.set_cons_zero, List.set_cons_succ]
    refine takeH 5 (some 32) (.agg #[.bool gy, .slice ay ny cy]) rfl rfl (by kernel_rfl) (by kernel_rfl) (by kernel_rfl) (fun _ _ _ h => h) (Or.inl ⟨rfl, fun W hW => by obtain ⟨l0, l1, l2, l3, l4⟩ := hW; go_simp⟩) hH ?_
    simp only [Act.put, List.setIfInBounds_toArray, List.set_cons_zero, List.set_cons_succ]
    refine takeH 6 (some 33) (.int .i64 (-1)) rfl rfl (by kernel_rfl) (by kernel_rfl) (by kernel_rfl) (fun _ _ _ h => h) (Or.inl ⟨rfl, fun W hW => by go_simp⟩) hH ?_
    simp only [Act.put, List.setIfInBounds_toArray, List.set_cons_zero, List.set_cons_succ]
    refine takeH 10 (some 37) (.pointer (some ⟨w.heap.size, 2, none⟩)) rfl rfl (by kernel_rfl) (by kernel_rfl) (by kernel_rfl) (fun _ _ _ h => h) (Or.inl ⟨rfl, fun W hW => by go_simp⟩) hH ?_
    simp only [Act.put, List.setIfInBounds_toArray, List.set_cons_zero, List.set_cons_succ]
    refine takeH 11 (some 38) (.agg #[.bool gy, .slice ay ny cy]) rfl rfl (by kernel_rfl) (by kernel_rfl) (by kernel_rfl) (fun _ _ _ h => h) (Or.inl ⟨rfl, fun W hW => by obtain ⟨l0, l1, l2, l3, l4⟩ := hW; go_simp⟩) hH ?_
    simp only [Act.put, List.setIfInBounds_toArray, List.set_cons_zero, List.set_cons_succ]
    refine takeH 12 (some 39) (.int .i64 k) rfl rfl (by kernel_rfl) (by kernel_rfl) (by kernel_rfl) (fun _ _ _ h => h) (Or.inl ⟨rfl, fun W hW => by go_simp⟩) hH ?_
    simp only [Act.put, List.setIfInBounds_toArray, List.set_cons_zero, List.set_cons_succ]
    refine takeH 14 (some 41) (.pointer (some ⟨w.heap.size, 0, none⟩)) rfl rfl (by kernel_rfl) (by kernel_rfl) (by kernel_rfl) (fun _ _ _ h => h) (Or.inl ⟨rfl, fun W hW => by go_simp⟩) hH ?_
    simp only [Act.put, List.setIfInBounds_toArray, List.set_cons_zero, List.set_cons_succ]
    refine takeH 15 (some 42) (.agg #[.bool gx, .slice ax nx cx]) rfl rfl (by kernel_rfl) (by kernel_rfl) (by kernel_rfl) (fun _ _ _ h => h) (Or.inl ⟨rfl, fun W hW => by obtain ⟨l0, l1, l2, l3, l4⟩ := hW; go_simp⟩) hH ?_
    simp only [Act.put, List.setIfInBounds_toArray, List.set_cons_zero, List.set_cons_succ]
    refine takeH 16 (some 43) (.int .i64 (-1)) rfl rfl (by kernel_rfl) (by kernel_rfl) (by kernel_rfl) (fun _ _ _ h => h) (Or.inl ⟨rfl, fun W hW => by go_simp⟩) hH ?_
    simp only [Act.put, List.setIfInBounds_toArray, List.set_cons_zero, List.set_cons_succ]
    refine takeH 20 (some 47) (.pointer (some ⟨w.heap.size, 4, none⟩)) rfl rfl (by kernel_rfl) (by kernel_rfl) (by kernel_rfl) (fun _ _ _ h => h) (Or.inl ⟨rfl, fun W hW => by go_simp⟩) hH ?_
    simp only [Act.put, List.setIfInBounds_toArray, List.set_cons_zero, List.set_cons_succ]
    refine takeH 21 (some 48) (.int .i64 a.2) rfl rfl (by kernel_rfl) (by kernel_rfl) (by kernel_rfl) (fun _ _ _ h => h) (Or.inl ⟨rfl, fun W hW => by obtain ⟨l0, l1, l2, l3, l4⟩ := hW; go_simp⟩) hH ?_
    simp only [Act.put, List.setIfInBounds_toArray, List.set_cons_zero, List.set_cons_succ]
    refine takeH 22 (some 49) (.int .i64 k) rfl rfl (by kernel_rfl) (by kernel_rfl) (by kernel_rfl) (fun _ _ _ h => h) (Or.inl ⟨rfl, fun W hW => by go_simp⟩) hH ?_
    simp only [Act.put, List.setIfInBounds_toArray, List.set_cons_zero, List.set_cons_succ]
    refine takeH 23 (some 50) (.int .i64 (a.2 + (k : Int))) rfl rfl (by kernel_rfl) (by kernel_rfl) (by kernel_rfl) (fun _ _ _ h => h) (Or.inl ⟨rfl, fun W hW => by go_simp⟩) hH ?_
    simp only [Act.put, List.setIfInBounds_toArray, List.set_cons_zero, List.set_cons_succ]
    refine wpAnyH_ready (rs := [3, 25]) (by kernel_rfl) (by simp) ?_
    refine AllReadyH.cons rfl (fun K hK => ?_) ?_
    · go_simp
      refine (kU _ B3).mono ?_
      rintro e w4 ⟨v, rfl, oa, bb4⟩
      obtain ⟨h0, s0, t0, u0, rfl⟩ := oa.cell
      have ap_X_oa : Apart (blkW (.agg #[.bool h0, .slice s0 t0 u0])) [w.heap.size] := apart_one fun q hq => by have h1 := (ownsW.ltb oa q hq).1; have h2 := X3.hi; omega
      have ap_R_oa : Apart (blkW (.agg #[.bool h0, .slice s0 t0 u0])) [w.heap.size + 1] := apart_one fun q hq => by have h1 := (ownsW.ltb oa q hq).1; have h2 := R3.hi; omega
      replace oa := ownsW_mono oa B3.size
      have B4 := B3.trans (bb4.mono B3.size)
      have X4 := X3.below bb4 (Nat.le_refl _)
      have R4 := R3.below bb4 (Nat.le_refl _)
      clear bb4 hH
      have oa4 := oa
      clear oa
      have hH : (fun W : World => W.cell? ⟨w.heap.size, 0, none⟩ = some (.bool gx) ∧ W.cell? ⟨w.heap.size, 1, none⟩ = some (.slice ax nx cx) ∧ W.cell? ⟨w.heap.size, 2, none⟩ = some (.bool gy) ∧ W.cell? ⟨w.heap.size, 3, none⟩ = some (.slice ay ny cy) ∧ W.cell? ⟨w.heap.size, 4, none⟩ = some (.int .i64 a.2)) w4 := ⟨X4.c 0 _ rfl, X4.c 1 _ rfl, X4.c 2 _ rfl, X4.c 3 _ rfl, X4.c 4 _ rfl⟩
      refine hK.out _ _ hH (fun _ => ?_)
      clear hK K
      refine wpAnyH_ready (rs := [7, 25]) (by kernel_rfl) (by simp) ?_
      refine AllReadyH.cons rfl (fun K hK => ?_) ?_
      · go_simp
        refine (kD _).mono ?_
        rintro e w5 ⟨v, rfl, ob, bb5⟩
        obtain ⟨h1, s1, t1, u1, rfl⟩ := ob.cell
        have ap_X_ob : Apart (blkW (.agg #[.bool h1, .slice s1 t1 u1])) [w.heap.size] := apart_one fun q hq => by have h1 := (ownsW.ltb ob q hq).1; have h2 := X4.hi; omega
        have ap_R_ob : Apart (blkW (.agg #[.bool h1, .slice s1 t1 u1])) [w.heap.size + 1] := apart_one fun q hq => by have h1 := (ownsW.ltb ob q hq).1; have h2 := R4.hi; omega
        have ap_oa_ob : Apart (blkW (.agg #[.bool h0, .slice s0 t0 u0])) (blkW (.agg #[.bool h1, .slice s1 t1 u1])) := apart_of (fun k hk => (ownsW.ltb oa4 k hk).2) (fun k hk => (ownsW.ltb ob k hk).1)
        replace ob := ownsW_mono ob B4.size
        have B5 := B4.trans (bb5.mono B4.size)
        have X5 := X4.below bb5 (Nat.le_refl _)
        have R5 := R4.below bb5 (Nat.le_refl _)
        have oa5 := ownsW.below oa4 bb5 (Nat.le_refl _)
        clear B4 X4 R4 oa4 bb5 hH
        have ob5 := ob
        clear ob
        have hH : (fun W : World => W.cell? ⟨w.heap.size, 0, none⟩ = some (.bool gx) ∧ W.cell? ⟨w.heap.size, 1, none⟩ = some (.slice ax nx cx) ∧ W.cell? ⟨w.heap.size, 2, none⟩ = some (.bool gy) ∧ W.cell? ⟨w.heap.size, 3, none⟩ = some (.slice ay ny cy) ∧ W.cell? ⟨w.heap.size, 4, none⟩ = some (.int .i64 a.2)) w5 := ⟨X5.c 0 _ rfl, X5.c 1 _ rfl, X5.c 2 _ rfl, X5.c 3 _ rfl, X5.c 4 _ rfl⟩
        refine hK.out _ _ hH (fun _ => ?_)
        clear hK K
        refine wpAnyH_ready (rs := [8, 25]) (by kernel_rfl) (by simp) ?_
        refine AllReadyH.cons rfl (fun K hK => ?_) ?_
        · go_simp
          refine (kM _ _ B5 ob5.row).mono ?_
          rintro e w6 ⟨v, rfl, oc, bb6⟩
          obtain ⟨h2, s2, t2, u2, rfl⟩ := oc.cell
          have ap_X_oc : Apart (blkW (.agg #[.bool h2, .slice s2 t2 u2])) [w.heap.size] := apart_one fun q hq => by have h1 := (ownsW.ltb oc q hq).1; have h2 := X5.hi; omega
          have ap_R_oc : Apart (blkW (.agg #[.bool h2, .slice s2 t2 u2])) [w.heap.size + 1] := apart_one fun q hq => by have h1 := (ownsW.ltb oc q hq).1; have h2 := R5.hi; omega
          have ap_oa_oc : Apart (blkW (.agg #[.bool h0, .slice s0 t0 u0])) (blkW (.agg #[.bool h2, .slice s2 t2 u2])) := apart_of (fun k hk => (ownsW.ltb oa5 k hk).2) (fun k hk => (ownsW.ltb oc k hk).1)
          have ap_ob_oc : Apart (blkW (.agg #[.bool h1, .slice s1 t1 u1])) (blkW (.agg #[.bool h2, .slice s2 t2 u2])) := apart_of (fun k hk => (ownsW.ltb ob5 k hk).2) (fun k hk => (ownsW.ltb oc k hk).1)
          replace oc := ownsW_mono oc B5.size
          have B6 := B5.trans (bb6.mono B5.size)
          have X6 := X5.below bb6 (Nat.le_refl _)
          have R6 := R5.below bb6 (Nat.le_refl _)
          have oa6 := ownsW.below oa5 bb6 (Nat.le_refl _)
          have ob6 := ownsW.below ob5 bb6 (Nat.le_refl _)
          clear B5 X5 R5 oa5 ob5 bb6 hH
          have oc6 := oc
          clear oc
          clear ob6
          have hH : (fun W : World => W.cell? ⟨w.heap.size, 0, none⟩ = some (.bool gx) ∧ W.cell? ⟨w.heap.size, 1, none⟩ = some (.slice ax nx cx) ∧ W.cell? ⟨w.heap.size, 2, none⟩ = some (.bool gy) ∧ W.cell? ⟨w.heap.size, 3, none⟩ = some (.slice ay ny cy) ∧ W.cell? ⟨w.heap.size, 4, none⟩ = some (.int .i64 a.2)) w6 := ⟨X6.c 0 _ rfl, X6.c 1 _ rfl, X6.c 2 _ rfl, X6.c 3 _ rfl, X6.c 4 _ rfl⟩
          refine hK.out _ _ hH (fun _ => ?_)
          clear hK K
          refine wpAnyH_ready (rs := [9, 25]) (by kernel_rfl) (by simp) ?_
          refine AllReadyH.cons rfl (fun K hK => ?_) ?_
          · go_simp
            refine (kS _ _ _ oa6.row oc6.row).mono ?_
            rintro e w7 ⟨v, rfl, oe, bb7⟩
            obtain ⟨h3, s3, t3, u3, rfl⟩ := oe.cell
            have ap_X_oe : Apart (blkW (.agg #[.bool h3, .slice s3 t3 u3])) [w.heap.size] := apart_one fun q hq => by have h1 := (ownsW.ltb oe q hq).1; have h2 := X6.hi; omega
            have ap_R_oe : Apart (blkW (.agg #[.bool h3, .slice s3 t3 u3])) [w.heap.size + 1] := apart_one fun q hq => by have h1 := (ownsW.ltb oe q hq).1; have h2 := R6.hi; omega
            have ap_oa_oe : Apart (blkW (.agg #[.bool h0, .slice s0 t0 u0])) (blkW (.agg #[.bool h3, .slice s3 t3 u3])) := apart_of (fun k hk => (ownsW.ltb oa6 k hk).2) (fun k hk => (ownsW.ltb oe k hk).1)
            have ap_oc_oe : Apart (blkW (.agg #[.bool h2, .slice s2 t2 u2])) (blkW (.agg #[.bool h3, .slice s3 t3 u3])) := apart_of (fun k hk => (ownsW.ltb oc6 k hk).2) (fun k hk => (ownsW.ltb oe k hk).1)
            replace oe := ownsW_mono oe B6.size
            have B7 := B6.trans (bb7.mono B6.size)
            have X7 := X6.below bb7 (Nat.le_refl _)
            have R7 := R6.below bb7 (Nat.le_refl _)
            have oa7 := ownsW.below oa6 bb7 (Nat.le_refl _)
            have oc7 := ownsW.below oc6 bb7 (Nat.le_refl _)
            clear B6 X6 R6 oa6 oc6 bb7 hH
            have oe7 := oe
            clear oe
            clear oa7 oc7
            have hH : (fun W : World => W.cell? ⟨w.heap.size, 0, none⟩ = some (.bool gx) ∧ W.cell? ⟨w.heap.size, 1, none⟩ = some (.slice ax nx cx) ∧ W.cell? ⟨w.heap.size, 2, none⟩ = some (.bool gy) ∧ W.cell? ⟨w.heap.size, 3, none⟩ = some (.slice ay ny cy) ∧ W.cell? ⟨w.heap.size, 4, none⟩ = some (.int .i64 a.2)) w7 := ⟨X7.c 0 _ rfl, X7.c 1 _ rfl, X7.c 2 _ rfl, X7.c 3 _ rfl, X7.c 4 _ rfl⟩
            refine hK.out _ _ hH (fun _ => ?_)
            clear hK K
            refine wpAnyH_ready (rs := [13, 25]) (by kernel_rfl) (by simp) ?_
            refine AllReadyH.cons rfl (fun K hK => ?_) ?_
            · go_simp
              refine (kV _ B7).mono ?_
              rintro e w8 ⟨v, rfl, of, bb8⟩
              obtain ⟨h4, s4, t4, u4, rfl⟩ := of.cell
              have ap_X_of : Apart (blkW (.agg #[.bool h4, .slice s4 t4 u4])) [w.heap.size] := apart_one fun q hq => by have h1 := (ownsW.ltb of q hq).1; have h2 := X7.hi; omega
              have ap_R_of : Apart (blkW (.agg #[.bool h4, .slice s4 t4 u4])) [w.heap.size + 1] := apart_one fun q hq => by have h1 := (ownsW.ltb of q hq).1; have h2 := R7.hi; omega
              have ap_oe_of : Apart (blkW (.agg #[.bool h3, .slice s3 t3 u3])) (blkW (.agg #[.bool h4, .slice s4 t4 u4])) := apart_of (fun k hk => (ownsW.ltb oe7 k hk).2) (fun k hk => (ownsW.ltb of k hk).1)
              replace of := ownsW_mono of B7.size
              have B8 := B7.trans (bb8.mono B7.size)
              have X8 := X7.below bb8 (Nat.le_refl _)
              have R8 := R7.below bb8 (Nat.le_refl _)
              have oe8 := ownsW.below oe7 bb8 (Nat.le_refl _)
              clear B7 X7 R7 oe7 bb8 hH
              have of8 := of
              clear of
              have hH : (fun W : World => W.cell? ⟨w.heap.size, 0, none⟩ = some (.bool gx) ∧ W.cell? ⟨w.heap.size, 1, none⟩ = some (.slice ax nx cx) ∧ W.cell? ⟨w.heap.size, 2, none⟩ = some (.bool gy) ∧ W.cell? ⟨w.heap.size, 3, none⟩ = some (.slice ay ny cy) ∧ W.cell? ⟨w.heap.size, 4, none⟩ = some (.int .i64 a.2)) w8 := ⟨X8.c 0 _ rfl, X8.c 1 _ rfl, X8.c 2 _ rfl, X8.c 3 _ rfl, X8.c 4 _ rfl⟩
              refine hK.out _ _ hH (fun _ => ?_)
              clear hK K
              refine wpAnyH_ready (rs := [17, 25]) (by kernel_rfl) (by simp) ?_
              refine AllReadyH.cons rfl (fun K hK => ?_) ?_
              · go_simp
                refine (kD _).mono ?_
                rintro e w9 ⟨v, rfl, og, bb9⟩
                obtain ⟨h5, s5, t5, u5, rfl⟩ := og.cell
                have ap_X_og : Apart (blkW (.agg #[.bool h5, .slice s5 t5 u5])) [w.heap.size] := apart_one fun q hq => by have h1 := (ownsW.ltb og q hq).1; have h2 := X8.hi; omega
                have ap_R_og : Apart (blkW (.agg #[.bool h5, .slice s5 t5 u5])) [w.heap.size + 1] := apart_one fun q hq => by have h1 := (ownsW.ltb og q hq).1; have h2 := R8.hi; omega
                have ap_oe_og : Apart (blkW (.agg #[.bool h3, .slice s3 t3 u3])) (blkW (.agg #[.bool h5, .slice s5 t5 u5])) := apart_of (fun k hk => (ownsW.ltb oe8 k hk).2) (fun k hk => (ownsW.ltb og k hk).1)
                have ap_of_og : Apart (blkW (.agg #[.bool h4, .slice s4 t4 u4])) (blkW (.agg #[.bool h5, .slice s5 t5 u5])) := apart_of (fun k hk => (ownsW.ltb of8 k hk).2) (fun k hk => (ownsW.ltb og k hk).1)
                replace og := ownsW_mono og B8.size
                have B9 := B8.trans (bb9.mono B8.size)
                have X9 := X8.below bb9 (Nat.le_refl _)
                have R9 := R8.below bb9 (Nat.le_refl _)
                have oe9 := ownsW.below oe8 bb9 (Nat.le_refl _)
                have of9 := ownsW.below of8 bb9 (Nat.le_refl _)
                clear B8 X8 R8 oe8 of8 bb9 hH
                have og9 := og
                clear og
                have hH : (fun W : World => W.cell? ⟨w.heap.size, 0, none⟩ = some (.bool gx) ∧ W.cell? ⟨w.heap.size, 1, none⟩ = some (.slice ax nx cx) ∧ W.cell? ⟨w.heap.size, 2, none⟩ = some (.bool gy) ∧ W.cell? ⟨w.heap.size, 3, none⟩ = some (.slice ay ny cy) ∧ W.cell? ⟨w.heap.size, 4, none⟩ = some (.int .i64 a.2)) w9 := ⟨X9.c 0 _ rfl, X9.c 1 _ rfl, X9.c 2 _ rfl, X9.c 3 _ rfl, X9.c 4 _ rfl⟩
                refine hK.out _ _ hH (fun _ => ?_)
                clear hK K
                refine wpAnyH_ready (rs := [18, 25]) (by kernel_rfl) (by simp) ?_
                refine AllReadyH.cons rfl (fun K hK => ?_) ?_
                · go_simp
                  refine (kN _ _ B9 og9.row).mono ?_
                  rintro e w10 ⟨v, rfl, op, bb10⟩
                  obtain ⟨h6, s6, t6, u6, rfl⟩ := op.cell
                  have ap_X_op : Apart (blkW (.agg #[.bool h6, .slice s6 t6 u6])) [w.heap.size] := apart_one fun q hq => by have h1 := (ownsW.ltb op q hq).1; have h2 := X9.hi; omega
                  have ap_R_op : Apart (blkW (.agg #[.bool h6, .slice s6 t6 u6])) [w.heap.size + 1] := apart_one fun q hq => by have h1 := (ownsW.ltb op q hq).1; have h2 := R9.hi; omega
                  have ap_oe_op : Apart (blkW (.agg #[.bool h3, .slice s3 t3 u3])) (blkW (.agg #[.bool h6, .slice s6 t6 u6])) := apart_of (fun k hk => (ownsW.ltb oe9 k hk).2) (fun k hk => (ownsW.ltb op k hk).1)
                  have ap_of_op : Apart (blkW (.agg #[.bool h4, .slice s4 t4 u4])) (blkW (.agg #[.bool h6, .slice s6 t6 u6])) := apart_of (fun k hk => (ownsW.ltb of9 k hk).2) (fun k hk => (ownsW.ltb op k hk).1)
                  have ap_og_op : Apart (blkW (.agg #[.bool h5, .slice s5 t5 u5])) (blkW (.agg #[.bool h6, .slice s6 t6 u6])) := apart_of (fun k hk => (ownsW.ltb og9 k hk).2) (fun k hk => (ownsW.ltb op k hk).1)
                  replace op := ownsW_mono op B9.size
                  have B10 := B9.trans (bb10.mono B9.size)
                  have X10 := X9.below bb10 (Nat.le_refl _)
                  have R10 := R9.below bb10 (Nat.le_refl _)
                  have oe10 := ownsW.below oe9 bb10 (Nat.le_refl _)
                  have of10 := ownsW.below of9 bb10 (Nat.le_refl _)
                  have og10 := ownsW.below og9 bb10 (Nat.le_refl _)
                  clear B9 X9 R9 oe9 of9 og9 bb10 hH
                  have op10 := op
                  clear op
                  clear og10
                  have hH : (fun W : World => W.cell? ⟨w.heap.size, 0, none⟩ = some (.bool gx) ∧ W.cell? ⟨w.heap.size, 1, none⟩ = some (.slice ax nx cx) ∧ W.cell? ⟨w.heap.size, 2, none⟩ = some (.bool gy) ∧ W.cell? ⟨w.heap.size, 3, none⟩ = some (.slice ay ny cy) ∧ W.cell? ⟨w.heap.size, 4, none⟩ = some (.int .i64 a.2)) w10 := ⟨X10.c 0 _ rfl, X10.c 1 _ rfl, X10.c 2 _ rfl, X10.c 3 _ rfl, X10.c 4 _ rfl⟩
                  refine hK.out _ _ hH (fun _ => ?_)
                  clear hK K
                  refine wpAnyH_ready (rs := [19, 25]) (by kernel_rfl) (by simp) ?_
                  refine AllReadyH.cons rfl (fun K hK => ?_) ?_
                  · go_simp
                    refine (kT _ _ _ of10.row op10.row).mono ?_
                    rintro e w11 ⟨v, rfl, oq, bb11⟩
                    obtain ⟨h7, s7, t7, u7, rfl⟩ := oq.cell
                    have ap_X_oq : Apart (blkW (.agg #[.bool h7, .slice s7 t7 u7])) [w.heap.size] := apart_one fun q hq => by have h1 := (ownsW.ltb oq q hq).1; have h2 := X10.hi; omega
                    have ap_R_oq : Apart (blkW (.agg #[.bool h7, .slice s7 t7 u7])) [w.heap.size + 1] := apart_one fun q hq => by have h1 := (ownsW.ltb oq q hq).1; have h2 := R10.hi; omega
                    have ap_oe_oq : Apart (blkW (.agg #[.bool h3, .slice s3 t3 u3])) (blkW (.agg #[.bool h7, .slice s7 t7 u7])) := apart_of (fun k hk => (ownsW.ltb oe10 k hk).2) (fun k hk => (ownsW.ltb oq k hk).1)
                    have ap_of_oq : Apart (blkW (.agg #[.bool h4, .slice s4 t4 u4])) (blkW (.agg #[.bool h7, .slice s7 t7 u7])) := apart_of (fun k hk => (ownsW.ltb of10 k hk).2) (fun k hk => (ownsW.ltb oq k hk).1)
                    have ap_op_oq : Apart (blkW (.agg #[.bool h6, .slice s6 t6 u6])) (blkW (.agg #[.bool h7, .slice s7 t7 u7])) := apart_of (fun k hk => (ownsW.ltb op10 k hk).2) (fun k hk => (ownsW.ltb oq k hk).1)
                    replace oq := ownsW_mono oq B10.size
                    have B11 := B10.trans (bb11.mono B10.size)
                    have X11 := X10.below bb11 (Nat.le_refl _)
                    have R11 := R10.below bb11 (Nat.le_refl _)
                    have oe11 := ownsW.below oe10 bb11 (Nat.le_refl _)
                    have of11 := ownsW.below of10 bb11 (Nat.le_refl _)
                    have op11 := ownsW.below op10 bb11 (Nat.le_refl _)
                    clear B10 X10 R10 oe10 of10 op10 bb11 hH
                    have oq11 := oq
                    clear oq
                    clear of11 op11
                    have hH : (fun W : World => W.cell? ⟨w.heap.size, 0, none⟩ = some (.bool gx) ∧ W.cell? ⟨w.heap.size, 1, none⟩ = some (.slice ax nx cx) ∧ W.cell? ⟨w.heap.size, 2, none⟩ = some (.bool gy) ∧ W.cell? ⟨w.heap.size, 3, none⟩ = some (.slice ay ny cy) ∧ W.cell? ⟨w.heap.size, 4, none⟩ = some (.int .i64 a.2)) w11 := ⟨X11.c 0 _ rfl, X11.c 1 _ rfl, X11.c 2 _ rfl, X11.c 3 _ rfl, X11.c 4 _ rfl⟩
                    refine hK.out _ _ hH (fun _ => ?_)
                    clear hK K
                    refine takeH 24 (some 51) (.agg #[.bool h3, .slice s3 t3 u3, .bool h7, .slice s7 t7 u7, .int .i64 (a.2 + (k : Int))]) rfl rfl (by kernel_rfl) (by kernel_rfl) (by kernel_rfl) (fun _ _ _ h => h) (Or.inl ⟨rfl, fun W hW => by go_simp⟩) hH ?_
                    simp only [Act.put, List.setIfInBounds_toArray, List.set_cons_zero, List.set_cons_succ]
                    refine oneH 25 rfl (by kernel_rfl) (fun K' hK => ?_)
                    go_simp
                    clear hH
                    obtain ⟨w12, hw12⟩ : ∃ v, v = w11.alloc (.cells #[.bool false, .slice none 0 0, .bool false, .slice none 0 0, .int .i64 0] 34) := ⟨_, rfl⟩
                    have bb12 : Below w11.heap.size w11 w12 := by rw [hw12]; exact below1 _ _
                    obtain ⟨qb12, hq12⟩ : ∃ v, v = w11.heap.size := ⟨_, rfl⟩
                    have Q12 : BoxL w12 w.heap.size qb12 [.bool false, .slice none 0 0, .bool false, .slice none 0 0, .int .i64 0] := by rw [hw12, hq12]; exact (BoxL.made w11 [.bool false, .slice none 0 0, .bool false, .slice none 0 0, .int .i64 0] 34).mono B11.size
                    have sn12 : w12.heap.size = qb12 + 1 := by rw [hw12, hq12]; simp
                    rw [← hw12]
                    (try rw [← hq12])
                    clear hw12
                    have B12 := B11.trans (bb12.mono B11.size)
                    have X12 := X11.below bb12 (Nat.le_refl _)
                    have R12 := R11.below bb12 (Nat.le_refl _)
                    have oe12 := ownsW.below oe11 bb12 (Nat.le_refl _)
                    have oq12 := ownsW.below oq11 bb12 (Nat.le_refl _)
                    have lt_X_Q : w.heap.size < qb12 := by rw [hq12]; exact X11.hi
                    have lt_R_Q : w.heap.size + 1 < qb12 := by rw [hq12]; exact R11.hi
                    have ap_Q_oe : Apart (blkW (.agg #[.bool h3, .slice s3 t3 u3])) [qb12] := apart_one fun q hq => by have h1 := (ownsW.ltb oe11 q hq).2; omega
                    have ap_Q_oq : Apart (blkW (.agg #[.bool h7, .slice s7 t7 u7])) [qb12] := apart_one fun q hq => by have h1 := (ownsW.ltb oq11 q hq).2; omega
                    clear B11 X11 R11 oe11 oq11 bb12 hq12 sn12
                    have hH : (fun W : World => W.cell? ⟨w.heap.size, 0, none⟩ = some (.bool gx) ∧ W.cell? ⟨w.heap.size, 1, none⟩ = some (.slice ax nx cx) ∧ W.cell? ⟨w.heap.size, 2, none⟩ = some (.bool gy) ∧ W.cell? ⟨w.heap.size, 3, none⟩ = some (.slice ay ny cy) ∧ W.cell? ⟨w.heap.size, 4, none⟩ = some (.int .i64 a.2)) w12 := ⟨X12.c 0 _ rfl, X12.c 1 _ rfl, X12.c 2 _ rfl, X12.c 3 _ rfl, X12.c 4 _ rfl⟩
                    refine hK _ _ hH ?_
                    clear hK
                    have c_Q_0 := Q12.c 0 _ rfl
                    have f_Q_0 := Q12.f 0 _ rfl
                    have c_Q_1 := Q12.c 1 _ rfl
                    have f_Q_1 := Q12.f 1 _ rfl
                    have c_Q_2 := Q12.c 2 _ rfl
                    have f_Q_2 := Q12.f 2 _ rfl
                    have c_Q_3 := Q12.c 3 _ rfl
                    have f_Q_3 := Q12.f 3 _ rfl
                    have c_Q_4 := Q12.c 4 _ rfl
                    have f_Q_4 := Q12.f 4 _ rfl
                    refine oneH 26 rfl (by kernel_rfl) (fun K' hK => ?_)
                    go_simp
                    obtain ⟨w13, hw13⟩ : ∃ v, v = ((((w12.setCell ⟨qb12, 0, none⟩ (.bool h3)).setCell ⟨qb12, 1, none⟩ (.slice s3 t3 u3)).setCell ⟨qb12, 2, none⟩ (.bool h7)).setCell ⟨qb12, 3, none⟩ (.slice s7 t7 u7)).setCell ⟨qb12, 4, none⟩ (.int .i64 (a.2 + (k : Int))) := ⟨_, rfl⟩
                    have tn13 : Tn [qb12] w12 w13 := by rw [hw13]; exact (((((tnL w12 qb12 0 (.bool h3)).trans (tnL _ qb12 1 (.slice s3 t3 u3))).trans (tnL _ qb12 2 (.bool h7))).trans (tnL _ qb12 3 (.slice s7 t7 u7))).trans (tnL _ qb12 4 (.int .i64 (a.2 + (k : Int)))))
                    have Q13 : BoxL w13 w.heap.size qb12 [.bool h3, .slice s3 t3 u3, .bool h7, .slice s7 t7 u7, .int .i64 (a.2 + (k : Int))] := by rw [hw13]; exact (((((Q12.set 0 (.bool h3) (by simp)).set 1 (.slice s3 t3 u3) (by simp)).set 2 (.bool h7) (by simp)).set 3 (.slice s7 t7 u7) (by simp)).set 4 (.int .i64 (a.2 + (k : Int))) (by simp))
                    have blo13 := Q12.lo
                    rw [← hw13]
                    clear hw13
                    have B13 := tn13.below B12 B12.size (fun q hq => by simp at hq; omega)
                    have X13 := X12.tn tn13 (not_one (by omega))
                    have R13 := R12.tn tn13 (not_one (by omega))
                    have oe13 := ownsW.tn oe12 tn13 ap_Q_oe
                    have oq13 := ownsW.tn oq12 tn13 ap_Q_oq
                    clear B12 X12 R12 oe12 oq12 Q12 tn13 blo13
                    clear c_Q_0 f_Q_0 c_Q_1 f_Q_1 c_Q_2 f_Q_2 c_Q_3 f_Q_3 c_Q_4 f_Q_4
                    clear hH
                    have hH : (fun W : World => W.cell? ⟨w.heap.size, 0, none⟩ = some (.bool gx) ∧ W.cell? ⟨w.heap.size, 1, none⟩ = some (.slice ax nx cx) ∧ W.cell? ⟨w.heap.size, 2, none⟩ = some (.bool gy) ∧ W.cell? ⟨w.heap.size, 3, none⟩ = some (.slice ay ny cy) ∧ W.cell? ⟨w.heap.size, 4, none⟩ = some (.int .i64 a.2)) w13 := ⟨X13.c 0 _ rfl, X13.c 1 _ rfl, X13.c 2 _ rfl, X13.c 3 _ rfl, X13.c 4 _ rfl⟩
                    refine hK _ _ hH ?_
                    clear hK
                    clear hH
                    refine wpAnyH_done (by kernel_rfl) ?_ _
                    exact CutBANNBANNBANNBANNBANNBANNBANNBANNN.mk h0 s0 t0 u0 h1 s1 t1 u1 h2 s2 t2 u2 h3 s3 t3 u3 h4 s4 t4 u4 h5 s5 t5 u5 h6 s6 t6 u6 h7 s7 t7 u7 qb12 rfl ⟨B13, Q13, R13, X13, oe13, oq13, ap_Q_oe, ap_Q_oq, ap_R_oe, ap_R_oq, ap_X_oe, ap_X_oq, ap_oe_oq, lt_R_Q, lt_X_Q⟩
                  refine AllReadyH.cons rfl (fun K hK => ?_) ?_
                  · go_simp
                    clear hH
                    obtain ⟨w11, hw11⟩ : ∃ v, v = w10.alloc (.cells #[.bool false, .slice none 0 0, .bool false, .slice none 0 0, .int .i64 0] 34) := ⟨_, rfl⟩
                    have bb11 : Below w10.heap.size w10 w11 := by rw [hw11]; exact below1 _ _
                    obtain ⟨qb11, hq11⟩ : ∃ v, v = w10.heap.size := ⟨_, rfl⟩
                    have Q11 : BoxL w11 w.heap.size qb11 [.bool false, .slice none 0 0, .bool false, .slice none 0 0, .int .i64 0] := by rw [hw11, hq11]; exact (BoxL.made w10 [.bool false, .slice none 0 0, .bool false, .slice none 0 0, .int .i64 0] 34).mono B10.size
                    have sn11 : w11.heap.size = qb11 + 1 := by rw [hw11, hq11]; simp
                    rw [← hw11]
                    (try rw [← hq11])
                    clear hw11
                    have B11 := B10.trans (bb11.mono B10.size)
                    have X11 := X10.below bb11 (Nat.le_refl _)
                    have R11 := R10.below bb11 (Nat.le_refl _)
                    have oe11 := ownsW.below oe10 bb11 (Nat.le_refl _)
                    have of11 := ownsW.below of10 bb11 (Nat.le_refl _)
                    have op11 := ownsW.below op10 bb11 (Nat.le_refl _)
                    have lt_X_Q : w.heap.size < qb11 := by rw [hq11]; exact X10.hi
                    have lt_R_Q : w.heap.size + 1 < qb11 := by rw [hq11]; exact R10.hi
                    have ap_Q_oe : Apart (blkW (.agg #[.bool h3, .slice s3 t3 u3])) [qb11] := apart_one fun q hq => by have h1 := (ownsW.ltb oe10 q hq).2; omega
                    have ap_Q_of : Apart (blkW (.agg #[.bool h4, .slice s4 t4 u4])) [qb11] := apart_one fun q hq => by have h1 := (ownsW.ltb of10 q hq).2; omega
                    have ap_Q_op : Apart (blkW (.agg #[.bool h6, .slice s6 t6 u6])) [qb11] := apart_one fun q hq => by have h1 := (ownsW.ltb op10 q hq).2; omega
                    clear B10 X10 R10 oe10 of10 op10 bb11 hq11 sn11
                    have hH : (fun W : World => W.cell? ⟨w.heap.size, 0, none⟩ = some (.bool gx) ∧ W.cell? ⟨w.heap.size, 1, none⟩ = some (.slice ax nx cx) ∧ W.cell? ⟨w.heap.size, 2, none⟩ = some (.bool gy) ∧ W.cell? ⟨w.heap.size, 3, none⟩ = some (.slice ay ny cy) ∧ W.cell? ⟨w.heap.size, 4, none⟩ = some (.int .i64 a.2)) w11 := ⟨X11.c 0 _ rfl, X11.c 1 _ rfl, X11.c 2 _ rfl, X11.c 3 _ rfl, X11.c 4 _ rfl⟩
                    refine hK.out _ _ hH (fun _ => ?_)
                    clear hK K
                    refine oneH 19 rfl (by kernel_rfl) (fun K' hK => ?_)
                    go_simp
                    refine (kT _ _ _ of11.row op11.row).mono ?_
                    rintro e w12 ⟨v, rfl, oq, bb12⟩
                    obtain ⟨h7, s7, t7, u7, rfl⟩ := oq.cell
                    have ap_X_oq : Apart (blkW (.agg #[.bool h7, .slice s7 t7 u7])) [w.heap.size] := apart_one fun q hq => by have h1 := (ownsW.ltb oq q hq).1; have h2 := X11.hi; omega
                    have ap_R_oq : Apart (blkW (.agg #[.bool h7, .slice s7 t7 u7])) [w.heap.size + 1] := apart_one fun q hq => by have h1 := (ownsW.ltb oq q hq).1; have h2 := R11.hi; omega
                    have ap_Q_oq : Apart (blkW (.agg #[.bool h7, .slice s7 t7 u7])) [qb11] := apart_one fun q hq => by have h1 := (ownsW.ltb oq q hq).1; have h2 := Q11.hi; omega
                    have ap_oe_oq : Apart (blkW (.agg #[.bool h3, .slice s3 t3 u3])) (blkW (.agg #[.bool h7, .slice s7 t7 u7])) := apart_of (fun k hk => (ownsW.ltb oe11 k hk).2) (fun k hk => (ownsW.ltb oq k hk).1)
                    have ap_of_oq : Apart (blkW (.agg #[.bool h4, .slice s4 t4 u4])) (blkW (.agg #[.bool h7, .slice s7 t7 u7])) := apart_of (fun k hk => (ownsW.ltb of11 k hk).2) (fun k hk => (ownsW.ltb oq k hk).1)
                    have ap_op_oq : Apart (blkW (.agg #[.bool h6, .slice s6 t6 u6])) (blkW (.agg #[.bool h7, .slice s7 t7 u7])) := apart_of (fun k hk => (ownsW.ltb op11 k hk).2) (fun k hk => (ownsW.ltb oq k hk).1)
                    replace oq := ownsW_mono oq B11.size
                    have B12 := B11.trans (bb12.mono B11.size)
                    have X12 := X11.below bb12 (Nat.le_refl _)
                    have R12 := R11.below bb12 (Nat.le_refl _)
                    have oe12 := ownsW.below oe11 bb12 (Nat.le_refl _)
                    have of12 := ownsW.below of11 bb12 (Nat.le_refl _)
                    have op12 := ownsW.below op11 bb12 (Nat.le_refl _)
                    have Q12 := Q11.below bb12 (Nat.le_refl _)
                    clear B11 X11 R11 oe11 of11 op11 Q11 bb12 hH
                    have oq12 := oq
                    clear oq
                    clear of12 op12
                    have hH : (fun W : World => W.cell? ⟨w.heap.size, 0, none⟩ = some (.bool gx) ∧ W.cell? ⟨w.heap.size, 1, none⟩ = some (.slice ax nx cx) ∧ W.cell? ⟨w.heap.size, 2, none⟩ = some (.bool gy) ∧ W.cell? ⟨w.heap.size, 3, none⟩ = some (.slice ay ny cy) ∧ W.cell? ⟨w.heap.size, 4, none⟩ = some (.int .i64 a.2)) w12 := ⟨X12.c 0 _ rfl, X12.c 1 _ rfl, X12.c 2 _ rfl, X12.c 3 _ rfl, X12.c 4 _ rfl⟩
                    refine hK _ _ hH ?_
                    clear hK
                    refine takeH 24 (some 51) (.agg #[.bool h3, .slice s3 t3 u3, .bool h7, .slice s7 t7 u7, .int .i64 (a.2 + (k : Int))]) rfl rfl (by kernel_rfl) (by kernel_rfl) (by kernel_rfl) (fun _ _ _ h => h) (Or.inl ⟨rfl, fun W hW => by go_simp⟩) hH ?_
                    simp only [Act.put, List.setIfInBounds_toArray, List.set_cons_zero, List.set_cons_succ]
                    have c_Q_0 := Q12.c 0 _ rfl
                    have f_Q_0 := Q12.f 0 _ rfl
                    have c_Q_1 := Q12.c 1 _ rfl
                    have f_Q_1 := Q12.f 1 _ rfl
                    have c_Q_2 := Q12.c 2 _ rfl
                    have f_Q_2 := Q12.f 2 _ rfl
                    have c_Q_3 := Q12.c 3 _ rfl
                    have f_Q_3 := Q12.f 3 _ rfl
                    have c_Q_4 := Q12.c 4 _ rfl
                    have f_Q_4 := Q12.f 4 _ rfl
                    refine oneH 26 rfl (by kernel_rfl) (fun K' hK => ?_)
                    go_simp
                    obtain ⟨w13, hw13⟩ : ∃ v, v = ((((w12.setCell ⟨qb11, 0, none⟩ (.bool h3)).setCell ⟨qb11, 1, none⟩ (.slice s3 t3 u3)).setCell ⟨qb11, 2, none⟩ (.bool h7)).setCell ⟨qb11, 3, none⟩ (.slice s7 t7 u7)).setCell ⟨qb11, 4, none⟩ (.int .i64 (a.2 + (k : Int))) := ⟨_, rfl⟩
                    have tn13 : Tn [qb11] w12 w13 := by rw [hw13]; exact (((((tnL w12 qb11 0 (.bool h3)).trans (tnL _ qb11 1 (.slice s3 t3 u3))).trans (tnL _ qb11 2 (.bool h7))).trans (tnL _ qb11 3 (.slice s7 t7 u7))).trans (tnL _ qb11 4 (.int .i64 (a.2 + (k : Int)))))
                    have Q13 : BoxL w13 w.heap.size qb11 [.bool h3, .slice s3 t3 u3, .bool h7, .slice s7 t7 u7, .int .i64 (a.2 + (k : Int))] := by rw [hw13]; exact (((((Q12.set 0 (.bool h3) (by simp)).set 1 (.slice s3 t3 u3) (by simp)).set 2 (.bool h7) (by simp)).set 3 (.slice s7 t7 u7) (by simp)).set 4 (.int .i64 (a.2 + (k : Int))) (by simp))
                    have blo13 := Q12.lo
                    rw [← hw13]
                    clear hw13
                    have B13 := tn13.below B12 B12.size (fun q hq => by simp at hq; omega)
                    have X13 := X12.tn tn13 (not_one (by omega))
                    have R13 := R12.tn tn13 (not_one (by omega))
                    have oe13 := ownsW.tn oe12 tn13 ap_Q_oe
                    have oq13 := ownsW.tn oq12 tn13 ap_Q_oq
                    clear B12 X12 R12 oe12 Q12 oq12 tn13 blo13
                    clear c_Q_0 f_Q_0 c_Q_1 f_Q_1 c_Q_2 f_Q_2 c_Q_3 f_Q_3 c_Q_4 f_Q_4
                    clear hH
                    have hH : (fun W : World => W.cell? ⟨w.heap.size, 0, none⟩ = some (.bool gx) ∧ W.cell? ⟨w.heap.size, 1, none⟩ = some (.slice ax nx cx) ∧ W.cell? ⟨w.heap.size, 2, none⟩ = some (.bool gy) ∧ W.cell? ⟨w.heap.size, 3, none⟩ = some (.slice ay ny cy) ∧ W.cell? ⟨w.heap.size, 4, none⟩ = some (.int .i64 a.2)) w13 := ⟨X13.c 0 _ rfl, X13.c 1 _ rfl, X13.c 2 _ rfl, X13.c 3 _ rfl, X13.c 4 _ rfl⟩
                    refine hK _ _ hH ?_
                    clear hK
                    clear hH
                    refine wpAnyH_done (by kernel_rfl) ?_ _
                    exact CutBANNBANNBANNBANNBANNBANNBANNBANNN.mk h0 s0 t0 u0 h1 s1 t1 u1 h2 s2 t2 u2 h3 s3 t3 u3 h4 s4 t4 u4 h5 s5 t5 u5 h6 s6 t6 u6 h7 s7 t7 u7 qb11 rfl ⟨B13, Q13, R13, X13, oe13, oq13, ap_Q_oe, ap_Q_oq, ap_R_oe, ap_R_oq, ap_X_oe, ap_X_oq, ap_oe_oq, lt_R_Q, lt_X_Q⟩
                  exact AllReadyH.nil
                refine AllReadyH.cons rfl (fun K hK => ?_) ?_
                · go_simp
                  clear hH
                  obtain ⟨w10, hw10⟩ : ∃ v, v = w9.alloc (.cells #[.bool false, .slice none 0 0, .bool false, .slice none 0 0, .int .i64 0] 34) := ⟨_, rfl⟩
                  have bb10 : Below w9.heap.size w9 w10 := by rw [hw10]; exact below1 _ _
                  obtain ⟨qb10, hq10⟩ : ∃ v, v = w9.heap.size := ⟨_, rfl⟩
                  have Q10 : BoxL w10 w.heap.size qb10 [.bool false, .slice none 0 0, .bool false, .slice none 0 0, .int .i64 0] := by rw [hw10, hq10]; exact (BoxL.made w9 [.bool false, .slice none 0 0, .bool false, .slice none 0 0, .int .i64 0] 34).mono B9.size
                  have sn10 : w10.heap.size = qb10 + 1 := by rw [hw10, hq10]; simp
                  rw [← hw10]
                  (try rw [← hq10])
                  clear hw10
                  have B10 := B9.trans (bb10.mono B9.size)
                  have X10 := X9.below bb10 (Nat.le_refl _)
                  have R10 := R9.below bb10 (Nat.le_refl _)
                  have oe10 := ownsW.below oe9 bb10 (Nat.le_refl _)
                  have of10 := ownsW.below of9 bb10 (Nat.le_refl _)
                  have og10 := ownsW.below og9 bb10 (Nat.le_refl _)
                  have lt_X_Q : w.heap.size < qb10 := by rw [hq10]; exact X9.hi
                  have lt_R_Q : w.heap.size + 1 < qb10 := by rw [hq10]; exact R9.hi
                  have ap_Q_oe : Apart (blkW (.agg #[.bool h3, .slice s3 t3 u3])) [qb10] := apart_one fun q hq => by have h1 := (ownsW.ltb oe9 q hq).2; omega
                  have ap_Q_of : Apart (blkW (.agg #[.bool h4, .slice s4 t4 u4])) [qb10] := apart_one fun q hq => by have h1 := (ownsW.ltb of9 q hq).2; omega
                  have ap_Q_og : Apart (blkW (.agg #[.bool h5, .slice s5 t5 u5])) [qb10] := apart_one fun q hq => by have h1 := (ownsW.ltb og9 q hq).2; omega
                  clear B9 X9 R9 oe9 of9 og9 bb10 hq10 sn10
                  have hH : (fun W : World => W.cell? ⟨w.heap.size, 0, none⟩ = some (.bool gx) ∧ W.cell? ⟨w.heap.size, 1, none⟩ = some (.slice ax nx cx) ∧ W.cell? ⟨w.heap.size, 2, none⟩ = some (.bool gy) ∧ W.cell? ⟨w.heap.size, 3, none⟩ = some (.slice ay ny cy) ∧ W.cell? ⟨w.heap.size, 4, none⟩ = some (.int .i64 a.2)) w10 := ⟨X10.c 0 _ rfl, X10.c 1 _ rfl, X10.c 2 _ rfl, X10.c 3 _ rfl, X10.c 4 _ rfl⟩
                  refine hK.out _ _ hH (fun _ => ?_)
                  clear hK K
                  refine oneH 18 rfl (by kernel_rfl) (fun K' hK => ?_)
                  go_simp
                  refine (kN _ _ B10 og10.row).mono ?_
                  rintro e w11 ⟨v, rfl, op, bb11⟩
                  obtain ⟨h6, s6, t6, u6, rfl⟩ := op.cell
                  have ap_X_op : Apart (blkW (.agg #[.bool h6, .slice s6 t6 u6])) [w.heap.size] := apart_one fun q hq => by have h1 := (ownsW.ltb op q hq).1; have h2 := X10.hi; omega
                  have ap_R_op : Apart (blkW (.agg #[.bool h6, .slice s6 t6 u6])) [w.heap.size + 1] := apart_one fun q hq => by have h1 := (ownsW.ltb op q hq).1; have h2 := R10.hi; omega
                  have ap_Q_op : Apart (blkW (.agg #[.bool h6, .slice s6 t6 u6])) [qb10] := apart_one fun q hq => by have h1 := (ownsW.ltb op q hq).1; have h2 := Q10.hi; omega
                  have ap_oe_op : Apart (blkW (.agg #[.bool h3, .slice s3 t3 u3])) (blkW (.agg #[.bool h6, .slice s6 t6 u6])) := apart_of (fun k hk => (ownsW.ltb oe10 k hk).2) (fun k hk => (ownsW.ltb op k hk).1)
                  have ap_of_op : Apart (blkW (.agg #[.bool h4, .slice s4 t4 u4])) (blkW (.agg #[.bool h6, .slice s6 t6 u6])) := apart_of (fun k hk => (ownsW.ltb of10 k hk).2) (fun k hk => (ownsW.ltb op k hk).1)
                  have ap_og_op : Apart (blkW (.agg #[.bool h5, .slice s5 t5 u5])) (blkW (.agg #[.bool h6, .slice s6 t6 u6])) := apart_of (fun k hk => (ownsW.ltb og10 k hk).2) (fun k hk => (ownsW.ltb op k hk).1)
                  replace op := ownsW_mono op B10.size
                  have B11 := B10.trans (bb11.mono B10.size)
                  have X11 := X10.below bb11 (Nat.le_refl _)
                  have R11 := R10.below bb11 (Nat.le_refl _)
                  have oe11 := ownsW.below oe10 bb11 (Nat.le_refl _)
                  have of11 := ownsW.below of10 bb11 (Nat.le_refl _)
                  have og11 := ownsW.below og10 bb11 (Nat.le_refl _)
                  have Q11 := Q10.below bb11 (Nat.le_refl _)
                  clear B10 X10 R10 oe10 of10 og10 Q10 bb11 hH
                  have op11 := op
                  clear op
                  clear og11
                  have hH : (fun W : World => W.cell? ⟨w.heap.size, 0, none⟩ = some (.bool gx) ∧ W.cell? ⟨w.heap.size, 1, none⟩ = some (.slice ax nx cx) ∧ W.cell? ⟨w.heap.size, 2, none⟩ = some (.bool gy) ∧ W.cell? ⟨w.heap.size, 3, none⟩ = some (.slice ay ny cy) ∧ W.cell? ⟨w.heap.size, 4, none⟩ = some (.int .i64 a.2)) w11 := ⟨X11.c 0 _ rfl, X11.c 1 _ rfl, X11.c 2 _ rfl, X11.c 3 _ rfl, X11.c 4 _ rfl⟩
                  refine hK _ _ hH ?_
                  clear hK
                  refine oneH 19 rfl (by kernel_rfl) (fun K' hK => ?_)
                  go_simp
                  refine (kT _ _ _ of11.row op11.row).mono ?_
                  rintro e w12 ⟨v, rfl, oq, bb12⟩
                  obtain ⟨h7, s7, t7, u7, rfl⟩ := oq.cell
                  have ap_X_oq : Apart (blkW (.agg #[.bool h7, .slice s7 t7 u7])) [w.heap.size] := apart_one fun q hq => by have h1 := (ownsW.ltb oq q hq).1; have h2 := X11.hi; omega
                  have ap_R_oq : Apart (blkW (.agg #[.bool h7, .slice s7 t7 u7])) [w.heap.size + 1] := apart_one fun q hq => by have h1 := (ownsW.ltb oq q hq).1; have h2 := R11.hi; omega
                  have ap_Q_oq : Apart (blkW (.agg #[.bool h7, .slice s7 t7 u7])) [qb10] := apart_one fun q hq => by have h1 := (ownsW.ltb oq q hq).1; have h2 := Q11.hi; omega
                  have ap_oe_oq : Apart (blkW (.agg #[.bool h3, .slice s3 t3 u3])) (blkW (.agg #[.bool h7, .slice s7 t7 u7])) := apart_of (fun k hk => (ownsW.ltb oe11 k hk).2) (fun k hk => (ownsW.ltb oq k hk).1)
                  have ap_of_oq : Apart (blkW (.agg #[.bool h4, .slice s4 t4 u4])) (blkW (.agg #[.bool h7, .slice s7 t7 u7])) := apart_of (fun k hk => (ownsW.ltb of11 k hk).2) (fun k hk => (ownsW.ltb oq k hk).1)
                  have ap_op_oq : Apart (blkW (.agg #[.bool h6, .slice s6 t6 u6])) (blkW (.agg #[.bool h7, .slice s7 t7 u7])) := apart_of (fun k hk => (ownsW.ltb op11 k hk).2) (fun k hk => (ownsW.ltb oq k hk).1)
                  replace oq := ownsW_mono oq B11.size
                  have B12 := B11.trans (bb12.mono B11.size)
                  have X12 := X11.below bb12 (Nat.le_refl _)
                  have R12 := R11.below bb12 (Nat.le_refl _)
                  have oe12 := ownsW.below oe11 bb12 (Nat.le_refl _)
                  have of12 := ownsW.below of11 bb12 (Nat.le_refl _)
                  have Q12 := Q11.below bb12 (Nat.le_refl _)
                  have op12 := ownsW.below op11 bb12 (Nat.le_refl _)
                  clear B11 X11 R11 oe11 of11 Q11 op11 bb12 hH
                  have oq12 := oq
                  clear oq
                  clear of12 op12
                  have hH : (fun W : World => W.cell? ⟨w.heap.size, 0, none⟩ = some (.bool gx) ∧ W.cell? ⟨w.heap.size, 1, none⟩ = some (.slice ax nx cx) ∧ W.cell? ⟨w.heap.size, 2, none⟩ = some (.bool gy) ∧ W.cell? ⟨w.heap.size, 3, none⟩ = some (.slice ay ny cy) ∧ W.cell? ⟨w.heap.size, 4, none⟩ = some (.int .i64 a.2)) w12 := ⟨X12.c 0 _ rfl, X12.c 1 _ rfl, X12.c 2 _ rfl, X12.c 3 _ rfl, X12.c 4 _ rfl⟩
                  refine hK _ _ hH ?_
                  clear hK
                  refine takeH 24 (some 51) (.agg #[.bool h3, .slice s3 t3 u3, .bool h7, .slice s7 t7 u7, .int .i64 (a.2 + (k : Int))]) rfl rfl (by kernel_rfl) (by kernel_rfl) (by kernel_rfl) (fun _ _ _ h => h) (Or.inl ⟨rfl, fun W hW => by go_simp⟩) hH ?_
                  simp only [Act.put, List.setIfInBounds_toArray, List.set_cons_zero, List.set_cons_succ]
                  have c_Q_0 := Q12.c 0 _ rfl
                  have f_Q_0 := Q12.f 0 _ rfl
                  have c_Q_1 := Q12.c 1 _ rfl
                  have f_Q_1 := Q12.f 1 _ rfl
                  have c_Q_2 := Q12.c 2 _ rfl
                  have f_Q_2 := Q12.f 2 _ rfl
                  have c_Q_3 := Q12.c 3 _ rfl
                  have f_Q_3 := Q12.f 3 _ rfl
                  have c_Q_4 := Q12.c 4 _ rfl
                  have f_Q_4 := Q12.f 4 _ rfl
                  refine oneH 26 rfl (by kernel_rfl) (fun K' hK => ?_)
                  go_simp
                  obtain ⟨w13, hw13⟩ : ∃ v, v = ((((w12.setCell ⟨qb10, 0, none⟩ (.bool h3)).setCell ⟨qb10, 1, none⟩ (.slice s3 t3 u3)).setCell ⟨qb10, 2, none⟩ (.bool h7)).setCell ⟨qb10, 3, none⟩ (.slice s7 t7 u7)).setCell ⟨qb10, 4, none⟩ (.int .i64 (a.2 + (k : Int))) := ⟨_, rfl⟩
                  have tn13 : Tn [qb10] w12 w13 := by rw [hw13]; exact (((((tnL w12 qb10 0 (.bool h3)).trans (tnL _ qb10 1 (.slice s3 t3 u3))).trans (tnL _ qb10 2 (.bool h7))).trans (tnL _ qb10 3 (.slice s7 t7 u7))).trans (tnL _ qb10 4 (.int .i64 (a.2 + (k : Int)))))
                  have Q13 : BoxL w13 w.heap.size qb10 [.bool h3, .slice s3 t3 u3, .bool h7, .slice s7 t7 u7, .int .i64 (a.2 + (k : Int))] := by rw [hw13]; exact (((((Q12.set 0 (.bool h3) (by simp)).set 1 (.slice s3 t3 u3) (by simp)).set 2 (.bool h7) (by simp)).set 3 (.slice s7 t7 u7) (by simp)).set 4 (.int .i64 (a.2 + (k : Int))) (by simp))
                  have blo13 := Q12.lo
                  rw [← hw13]
                  clear hw13
                  have B13 := tn13.below B12 B12.size (fun q hq => by simp at hq; omega)
                  have X13 := X12.tn tn13 (not_one (by omega))
                  have R13 := R12.tn tn13 (not_one (by omega))
                  have oe13 := ownsW.tn oe12 tn13 ap_Q_oe
                  have oq13 := ownsW.tn oq12 tn13 ap_Q_oq
                  clear B12 X12 R12 oe12 Q12 oq12 tn13 blo13
                  clear c_Q_0 f_Q_0 c_Q_1 f_Q_1 c_Q_2 f_Q_2 c_Q_3 f_Q_3 c_Q_4 f_Q_4
                  clear hH
                  have hH : (fun W : World => W.cell? ⟨w.heap.size, 0, none⟩ = some (.bool gx) ∧ W.cell? ⟨w.heap.size, 1, none⟩ = some (.slice ax nx cx) ∧ W.cell? ⟨w.heap.size, 2, none⟩ = some (.bool gy) ∧ W.cell? ⟨w.heap.size, 3, none⟩ = some (.slice ay ny cy) ∧ W.cell? ⟨w.heap.size, 4, none⟩ = some (.int .i64 a.2)) w13 := ⟨X13.c 0 _ rfl, X13.c 1 _ rfl, X13.c 2 _ rfl, X13.c 3 _ rfl, X13.c 4 _ rfl⟩
                  refine hK _ _ hH ?_
                  clear hK
                  clear hH
                  refine wpAnyH_done (by kernel_rfl) ?_ _
                  exact CutBANNBANNBANNBANNBANNBANNBANNBANNN.mk h0 s0 t0 u0 h1 s1 t1 u1 h2 s2 t2 u2 h3 s3 t3 u3 h4 s4 t4 u4 h5 s5 t5 u5 h6 s6 t6 u6 h7 s7 t7 u7 qb10 rfl ⟨B13, Q13, R13, X13, oe13, oq13, ap_Q_oe, ap_Q_oq, ap_R_oe, ap_R_oq, ap_X_oe, ap_X_oq, ap_oe_oq, lt_R_Q, lt_X_Q⟩
                exact AllReadyH.nil
              refine AllReadyH.cons rfl (fun K hK => ?_) ?_
              · go_simp
                clear hH
                obtain ⟨w9, hw9⟩ : ∃ v, v = w8.alloc (.cells #[.bool false, .slice none 0 0, .bool false, .slice none 0 0, .int .i64 0] 34) := ⟨_, rfl⟩
                have bb9 : Below w8.heap.size w8 w9 := by rw [hw9]; exact below1 _ _
                obtain ⟨qb9, hq9⟩ : ∃ v, v = w8.heap.size := ⟨_, rfl⟩
                have Q9 : BoxL w9 w.heap.size qb9 [.bool false, .slice none 0 0, .bool false, .slice none 0 0, .int .i64 0] := by rw [hw9, hq9]; exact (BoxL.made w8 [.bool false, .slice none 0 0, .bool false, .slice none 0 0, .int .i64 0] 34).mono B8.size
                have sn9 : w9.heap.size = qb9 + 1 := by rw [hw9, hq9]; simp
                rw [← hw9]
                (try rw [← hq9])
                clear hw9
                have B9 := B8.trans (bb9.mono B8.size)
                have X9 := X8.below bb9 (Nat.le_refl _)
                have R9 := R8.below bb9 (Nat.le_refl _)
                have oe9 := ownsW.below oe8 bb9 (Nat.le_refl _)
                have of9 := ownsW.below of8 bb9 (Nat.le_refl _)
                have lt_X_Q : w.heap.size < qb9 := by rw [hq9]; exact X8.hi
                have lt_R_Q : w.heap.size + 1 < qb9 := by rw [hq9]; exact R8.hi
                have ap_Q_oe : Apart (blkW (.agg #[.bool h3, .slice s3 t3 u3])) [qb9] := apart_one fun q hq => by have h1 := (ownsW.ltb oe8 q hq).2; omega
                have ap_Q_of : Apart (blkW (.agg #[.bool h4, .slice s4 t4 u4])) [qb9] := apart_one fun q hq => by have h1 := (ownsW.ltb of8 q hq).2; omega
                clear B8 X8 R8 oe8 of8 bb9 hq9 sn9
                have hH : (fun W : World => W.cell? ⟨w.heap.size, 0, none⟩ = some (.bool gx) ∧ W.cell? ⟨w.heap.size, 1, none⟩ = some (.slice ax nx cx) ∧ W.cell? ⟨w.heap.size, 2, none⟩ = some (.bool gy) ∧ W.cell? ⟨w.heap.size, 3, none⟩ = some (.slice ay ny cy) ∧ W.cell? ⟨w.heap.size, 4, none⟩ = some (.int .i64 a.2)) w9 := ⟨X9.c 0 _ rfl, X9.c 1 _ rfl, X9.c 2 _ rfl, X9.c 3 _ rfl, X9.c 4 _ rfl⟩
                refine hK.out _ _ hH (fun _ => ?_)
                clear hK K
                refine oneH 17 rfl (by kernel_rfl) (fun K' hK => ?_)
                go_simp
                refine (kD _).mono ?_
                rintro e w10 ⟨v, rfl, og, bb10⟩
                obtain ⟨h5, s5, t5, u5, rfl⟩ := og.cell
                have ap_X_og : Apart (blkW (.agg #[.bool h5, .slice s5 t5 u5])) [w.heap.size] := apart_one fun q hq => by have h1 := (ownsW.ltb og q hq).1; have h2 := X9.hi; omega
                have ap_R_og : Apart (blkW (.agg #[.bool h5, .slice s5 t5 u5])) [w.heap.size + 1] := apart_one fun q hq => by have h1 := (ownsW.ltb og q hq).1; have h2 := R9.hi; omega
                have ap_Q_og : Apart (blkW (.agg #[.bool h5, .slice s5 t5 u5])) [qb9] := apart_one fun q hq => by have h1 := (ownsW.ltb og q hq).1; have h2 := Q9.hi; omega
                have ap_oe_og : Apart (blkW (.agg #[.bool h3, .slice s3 t3 u3])) (blkW (.agg #[.bool h5, .slice s5 t5 u5])) := apart_of (fun k hk => (ownsW.ltb oe9 k hk).2) (fun k hk => (ownsW.ltb og k hk).1)
                have ap_of_og : Apart (blkW (.agg #[.bool h4, .slice s4 t4 u4])) (blkW (.agg #[.bool h5, .slice s5 t5 u5])) := apart_of (fun k hk => (ownsW.ltb of9 k hk).2) (fun k hk => (ownsW.ltb og k hk).1)
                replace og := ownsW_mono og B9.size
                have B10 := B9.trans (bb10.mono B9.size)
                have X10 := X9.below bb10 (Nat.le_refl _)
                have R10 := R9.below bb10 (Nat.le_refl _)
                have oe10 := ownsW.below oe9 bb10 (Nat.le_refl _)
                have of10 := ownsW.below of9 bb10 (Nat.le_refl _)
                have Q10 := Q9.below bb10 (Nat.le_refl _)
                clear B9 X9 R9 oe9 of9 Q9 bb10 hH
                have og10 := og
                clear og
                have hH : (fun W : World => W.cell? ⟨w.heap.size, 0, none⟩ = some (.bool gx) ∧ W.cell? ⟨w.heap.size, 1, none⟩ = some (.slice ax nx cx) ∧ W.cell? ⟨w.heap.size, 2, none⟩ = some (.bool gy) ∧ W.cell? ⟨w.heap.size, 3, none⟩ = some (.slice ay ny cy) ∧ W.cell? ⟨w.heap.size, 4, none⟩ = some (.int .i64 a.2)) w10 := ⟨X10.c 0 _ rfl, X10.c 1 _ rfl, X10.c 2 _ rfl, X10.c 3 _ rfl, X10.c 4 _ rfl⟩
                refine hK _ _ hH ?_
                clear hK
                refine oneH 18 rfl (by kernel_rfl) (fun K' hK => ?_)
                go_simp
                refine (kN _ _ B10 og10.row).mono ?_
                rintro e w11 ⟨v, rfl, op, bb11⟩
                obtain ⟨h6, s6, t6, u6, rfl⟩ := op.cell
                have ap_X_op : Apart (blkW (.agg #[.bool h6, .slice s6 t6 u6])) [w.heap.size] := apart_one fun q hq => by have h1 := (ownsW.ltb op q hq).1; have h2 := X10.hi; omega
                have ap_R_op : Apart (blkW (.agg #[.bool h6, .slice s6 t6 u6])) [w.heap.size + 1] := apart_one fun q hq => by have h1 := (ownsW.ltb op q hq).1; have h2 := R10.hi; omega
                have ap_Q_op : Apart (blkW (.agg #[.bool h6, .slice s6 t6 u6])) [qb9] := apart_one fun q hq => by have h1 := (ownsW.ltb op q hq).1; have h2 := Q10.hi; omega
                have ap_oe_op : Apart (blkW (.agg #[.bool h3, .slice s3 t3 u3])) (blkW (.agg #[.bool h6, .slice s6 t6 u6])) := apart_of (fun k hk => (ownsW.ltb oe10 k hk).2) (fun k hk => (ownsW.ltb op k hk).1)
                have ap_of_op : Apart (blkW (.agg #[.bool h4, .slice s4 t4 u4])) (blkW (.agg #[.bool h6, .slice s6 t6 u6])) := apart_of (fun k hk => (ownsW.ltb of10 k hk).2) (fun k hk => (ownsW.ltb op k hk).1)
                have ap_og_op : Apart (blkW (.agg #[.bool h5, .slice s5 t5 u5])) (blkW (.agg #[.bool h6, .slice s6 t6 u6])) := apart_of (fun k hk => (ownsW.ltb og10 k hk).2) (fun k hk => (ownsW.ltb op k hk).1)
                replace op := ownsW_mono op B10.size
                have B11 := B10.trans (bb11.mono B10.size)
                have X11 := X10.below bb11 (Nat.le_refl _)
                have R11 := R10.below bb11 (Nat.le_refl _)
                have oe11 := ownsW.below oe10 bb11 (Nat.le_refl _)
                have of11 := ownsW.below of10 bb11 (Nat.le_refl _)
                have Q11 := Q10.below bb11 (Nat.le_refl _)
                have og11 := ownsW.below og10 bb11 (Nat.le_refl _)
                clear B10 X10 R10 oe10 of10 Q10 og10 bb11 hH
                have op11 := op
                clear op
                clear og11
                have hH : (fun W : World => W.cell? ⟨w.heap.size, 0, none⟩ = some (.bool gx) ∧ W.cell? ⟨w.heap.size, 1, none⟩ = some (.slice ax nx cx) ∧ W.cell? ⟨w.heap.size, 2, none⟩ = some (.bool gy) ∧ W.cell? ⟨w.heap.size, 3, none⟩ = some (.slice ay ny cy) ∧ W.cell? ⟨w.heap.size, 4, none⟩ = some (.int .i64 a.2)) w11 := ⟨X11.c 0 _ rfl, X11.c 1 _ rfl, X11.c 2 _ rfl, X11.c 3 _ rfl, X11.c 4 _ rfl⟩
                refine hK _ _ hH ?_
                clear hK
                refine oneH 19 rfl (by kernel_rfl) (fun K' hK => ?_)
                go_simp
                refine (kT _ _ _ of11.row op11.row).mono ?_
                rintro e w12 ⟨v, rfl, oq, bb12⟩
                obtain ⟨h7, s7, t7, u7, rfl⟩ := oq.cell
                have ap_X_oq : Apart (blkW (.agg #[.bool h7, .slice s7 t7 u7])) [w.heap.size] := apart_one fun q hq => by have h1 := (ownsW.ltb oq q hq).1; have h2 := X11.hi; omega
                have ap_R_oq : Apart (blkW (.agg #[.bool h7, .slice s7 t7 u7])) [w.heap.size + 1] := apart_one fun q hq => by have h1 := (ownsW.ltb oq q hq).1; have h2 := R11.hi; omega
                have ap_Q_oq : Apart (blkW (.agg #[.bool h7, .slice s7 t7 u7])) [qb9] := apart_one fun q hq => by have h1 := (ownsW.ltb oq q hq).1; have h2 := Q11.hi; omega
                have ap_oe_oq : Apart (blkW (.agg #[.bool h3, .slice s3 t3 u3])) (blkW (.agg #[.bool h7, .slice s7 t7 u7])) := apart_of (fun k hk => (ownsW.ltb oe11 k hk).2) (fun k hk => (ownsW.ltb oq k hk).1)
                have ap_of_oq : Apart (blkW (.agg #[.bool h4, .slice s4 t4 u4])) (blkW (.agg #[.bool h7, .slice s7 t7 u7])) := apart_of (fun k hk => (ownsW.ltb of11 k hk).2) (fun k hk => (ownsW.ltb oq k hk).1)
                have ap_op_oq : Apart (blkW (.agg #[.bool h6, .slice s6 t6 u6])) (blkW (.agg #[.bool h7, .slice s7 t7 u7])) := apart_of (fun k hk => (ownsW.ltb op11 k hk).2) (fun k hk => (ownsW.ltb oq k hk).1)
                replace oq := ownsW_mono oq B11.size
                have B12 := B11.trans (bb12.mono B11.size)
                have X12 := X11.below bb12 (Nat.le_refl _)
                have R12 := R11.below bb12 (Nat.le_refl _)
                have oe12 := ownsW.below oe11 bb12 (Nat.le_refl _)
                have of12 := ownsW.below of11 bb12 (Nat.le_refl _)
                have Q12 := Q11.below bb12 (Nat.le_refl _)
                have op12 := ownsW.below op11 bb12 (Nat.le_refl _)
                clear B11 X11 R11 oe11 of11 Q11 op11 bb12 hH
                have oq12 := oq
                clear oq
                clear of12 op12
                have hH : (fun W : World => W.cell? ⟨w.heap.size, 0, none⟩ = some (.bool gx) ∧ W.cell? ⟨w.heap.size, 1, none⟩ = some (.slice ax nx cx) ∧ W.cell? ⟨w.heap.size, 2, none⟩ = some (.bool gy) ∧ W.cell? ⟨w.heap.size, 3, none⟩ = some (.slice ay ny cy) ∧ W.cell? ⟨w.heap.size, 4, none⟩ = some (.int .i64 a.2)) w12 := ⟨X12.c 0 _ rfl, X12.c 1 _ rfl, X12.c 2 _ rfl, X12.c 3 _ rfl, X12.c 4 _ rfl⟩
                refine hK _ _ hH ?_
                clear hK
                refine takeH 24 (some 51) (.agg #[.bool h3, .slice s3 t3 u3, .bool h7, .slice s7 t7 u7, .int .i64 (a.2 + (k : Int))]) rfl rfl (by kernel_rfl) (by kernel_rfl) (by kernel_rfl) (fun _ _ _ h => h) (Or.inl ⟨rfl, fun W hW => by go_simp⟩) hH ?_
                simp only [Act.put, List.setIfInBounds_toArray, List.set_cons_zero, List.set_cons_succ]
                have c_Q_0 := Q12.c 0 _ rfl
                have f_Q_0 := Q12.f 0 _ rfl
                have c_Q_1 := Q12.c 1 _ rfl
                have f_Q_1 := Q12.f 1 _ rfl
                have c_Q_2 := Q12.c 2 _ rfl
                have f_Q_2 := Q12.f 2 _ rfl
                have c_Q_3 := Q12.c 3 _ rfl
                have f_Q_3 := Q12.f 3 _ rfl
                have c_Q_4 := Q12.c 4 _ rfl
                have f_Q_4 := Q12.f 4 _ rfl
                refine oneH 26 rfl (by kernel_rfl) (fun K' hK => ?_)
                go_simp
                obtain ⟨w13, hw13⟩ : ∃ v, v = ((((w12.setCell ⟨qb9, 0, none⟩ (.bool h3)).setCell ⟨qb9, 1, none⟩ (.slice s3 t3 u3)).setCell ⟨qb9, 2, none⟩ (.bool h7)).setCell ⟨qb9, 3, none⟩ (.slice s7 t7 u7)).setCell ⟨qb9, 4, none⟩ (.int .i64 (a.2 + (k : Int))) := ⟨_, rfl⟩
                have tn13 : Tn [qb9] w12 w13 := by rw [hw13]; exact (((((tnL w12 qb9 0 (.bool h3)).trans (tnL _ qb9 1 (.slice s3 t3 u3))).trans (tnL _ qb9 2 (.bool h7))).trans (tnL _ qb9 3 (.slice s7 t7 u7))).trans (tnL _ qb9 4 (.int .i64 (a.2 + (k : Int)))))
                have Q13 : BoxL w13 w.heap.size qb9 [.bool h3, .slice s3 t3 u3, .bool h7, .slice s7 t7 u7, .int .i64 (a.2 + (k : Int))] := by rw [hw13]; exact (((((Q12.set 0 (.bool h3) (by simp)).set 1 (.slice s3 t3 u3) (by simp)).set 2 (.bool h7) (by simp)).set 3 (.slice s7 t7 u7) (by simp)).set 4 (.int .i64 (a.2 + (k : Int))) (by simp))
                have blo13 := Q12.lo
                rw [← hw13]
                clear hw13
                have B13 := tn13.below B12 B12.size (fun q hq => by simp at hq; omega)
                have X13 := X12.tn tn13 (not_one (by omega))
                have R13 := R12.tn tn13 (not_one (by omega))
                have oe13 := ownsW.tn oe12 tn13 ap_Q_oe
                have oq13 := ownsW.tn oq12 tn13 ap_Q_oq
                clear B12 X12 R12 oe12 Q12 oq12 tn13 blo13
                clear c_Q_0 f_Q_0 c_Q_1 f_Q_1 c_Q_2 f_Q_2 c_Q_3 f_Q_3 c_Q_4 f_Q_4
                clear hH
                have hH : (fun W : World => W.cell? ⟨w.heap.size, 0, none⟩ = some (.bool gx) ∧ W.cell? ⟨w.heap.size, 1, none⟩ = some (.slice ax nx cx) ∧ W.cell? ⟨w.heap.size, 2, none⟩ = some (.bool gy) ∧ W.cell? ⟨w.heap.size, 3, none⟩ = some (.slice ay ny cy) ∧ W.cell? ⟨w.heap.size, 4, none⟩ = some (.int .i64 a.2)) w13 := ⟨X13.c 0 _ rfl, X13.c 1 _ rfl, X13.c 2 _ rfl, X13.c 3 _ rfl, X13.c 4 _ rfl⟩
                refine hK _ _ hH ?_
                clear hK
                clear hH
                refine wpAnyH_done (by kernel_rfl) ?_ _
                exact CutBANNBANNBANNBANNBANNBANNBANNBANNN.mk h0 s0 t0 u0 h1 s1 t1 u1 h2 s2 t2 u2 h3 s3 t3 u3 h4 s4 t4 u4 h5 s5 t5 u5 h6 s6 t6 u6 h7 s7 t7 u7 qb9 rfl ⟨B13, Q13, R13, X13, oe13, oq13, ap_Q_oe, ap_Q_oq, ap_R_oe, ap_R_oq, ap_X_oe, ap_X_oq, ap_oe_oq, lt_R_Q, lt_X_Q⟩
              exact AllReadyH.nil
            refine AllReadyH.cons rfl (fun K hK => ?_) ?_
            · go_simp
              clear hH
              obtain ⟨w8, hw8⟩ : ∃ v, v = w7.alloc (.cells #[.bool false, .slice none 0 0, .bool false, .slice none 0 0, .int .i64 0] 34) := ⟨_, rfl⟩
              have bb8 : Below w7.heap.size w7 w8 := by rw [hw8]; exact below1 _ _
              obtain ⟨qb8, hq8⟩ : ∃ v, v = w7.heap.size := ⟨_, rfl⟩
              have Q8 : BoxL w8 w.heap.size qb8 [.bool false, .slice none 0 0, .bool false, .slice none 0 0, .int .i64 0] := by rw [hw8, hq8]; exact (BoxL.made w7 [.bool false, .slice none 0 0, .bool false, .slice none 0 0, .int .i64 0] 34).mono B7.size
              have sn8 : w8.heap.size = qb8 + 1 := by rw [hw8, hq8]; simp
              rw [← hw8]
              (try rw [← hq8])
              clear hw8
              have B8 := B7.trans (bb8.mono B7.size)
              have X8 := X7.below bb8 (Nat.le_refl _)
              have R8 := R7.below bb8 (Nat.le_refl _)
              have oe8 := ownsW.below oe7 bb8 (Nat.le_refl _)
              have lt_X_Q : w.heap.size < qb8 := by rw [hq8]; exact X7.hi
              have lt_R_Q : w.heap.size + 1 < qb8 := by rw [hq8]; exact R7.hi
              have ap_Q_oe : Apart (blkW (.agg #[.bool h3, .slice s3 t3 u3])) [qb8] := apart_one fun q hq => by have h1 := (ownsW.ltb oe7 q hq).2; omega
              clear B7 X7 R7 oe7 bb8 hq8 sn8
              have hH : (fun W : World => W.cell? ⟨w.heap.size, 0, none⟩ = some (.bool gx) ∧ W.cell? ⟨w.heap.size, 1, none⟩ = some (.slice ax nx cx) ∧ W.cell? ⟨w.heap.size, 2, none⟩ = some (.bool gy) ∧ W.cell? ⟨w.heap.size, 3, none⟩ = some (.slice ay ny cy) ∧ W.cell? ⟨w.heap.size, 4, none⟩ = some (.int .i64 a.2)) w8 := ⟨X8.c 0 _ rfl, X8.c 1 _ rfl, X8.c 2 _ rfl, X8.c 3 _ rfl, X8.c 4 _ rfl⟩
              refine hK.out _ _ hH (fun _ => ?_)
              clear hK K
              refine oneH 13 rfl (by kernel_rfl) (fun K' hK => ?_)
              go_simp
              refine (kV _ B8).mono ?_
              rintro e w9 ⟨v, rfl, of, bb9⟩
              obtain ⟨h4, s4, t4, u4, rfl⟩ := of.cell
              have ap_X_of : Apart (blkW (.agg #[.bool h4, .slice s4 t4 u4])) [w.heap.size] := apart_one fun q hq => by have h1 := (ownsW.ltb of q hq).1; have h2 := X8.hi; omega
              have ap_R_of : Apart (blkW (.agg #[.bool h4, .slice s4 t4 u4])) [w.heap.size + 1] := apart_one fun q hq => by have h1 := (ownsW.ltb of q hq).1; have h2 := R8.hi; omega
              have ap_Q_of : Apart (blkW (.agg #[.bool h4, .slice s4 t4 u4])) [qb8] := apart_one fun q hq => by have h1 := (ownsW.ltb of q hq).1; have h2 := Q8.hi; omega
              have ap_oe_of : Apart (blkW (.agg #[.bool h3, .slice s3 t3 u3])) (blkW (.agg #[.bool h4, .slice s4 t4 u4])) := apart_of (fun k hk => (ownsW.ltb oe8 k hk).2) (fun k hk => (ownsW.ltb of k hk).1)
              replace of := ownsW_mono of B8.size
              have B9 := B8.trans (bb9.mono B8.size)
              have X9 := X8.below bb9 (Nat.le_refl _)
              have R9 := R8.below bb9 (Nat.le_refl _)
              have oe9 := ownsW.below oe8 bb9 (Nat.le_refl _)
              have Q9 := Q8.below bb9 (Nat.le_refl _)
              clear B8 X8 R8 oe8 Q8 bb9 hH
              have of9 := of
              clear of
              have hH : (fun W : World => W.cell? ⟨w.heap.size, 0, none⟩ = some (.bool gx) ∧ W.cell? ⟨w.heap.size, 1, none⟩ = some (.slice ax nx cx) ∧ W.cell? ⟨w.heap.size, 2, none⟩ = some (.bool gy) ∧ W.cell? ⟨w.heap.size, 3, none⟩ = some (.slice ay ny cy) ∧ W.cell? ⟨w.heap.size, 4, none⟩ = some (.int .i64 a.2)) w9 := ⟨X9.c 0 _ rfl, X9.c 1 _ rfl, X9.c 2 _ rfl, X9.c 3 _ rfl, X9.c 4 _ rfl⟩
              refine hK _ _ hH ?_
              clear hK
              refine oneH 17 rfl (by kernel_rfl) (fun K' hK => ?_)
              go_simp
              refine (kD _).mono ?_
              rintro e w10 ⟨v, rfl, og, bb10⟩
              obtain ⟨h5, s5, t5, u5, rfl⟩ := og.cell
              have ap_X_og : Apart (blkW (.agg #[.bool h5, .slice s5 t5 u5])) [w.heap.size] := apart_one fun q hq => by have h1 := (ownsW.ltb og q hq).1; have h2 := X9.hi; omega
              have ap_R_og : Apart (blkW (.agg #[.bool h5, .slice s5 t5 u5])) [w.heap.size + 1] := apart_one fun q hq => by have h1 := (ownsW.ltb og q hq).1; have h2 := R9.hi; omega
              have ap_Q_og : Apart (blkW (.agg #[.bool h5, .slice s5 t5 u5])) [qb8] := apart_one fun q hq => by have h1 := (ownsW.ltb og q hq).1; have h2 := Q9.hi; omega
              have ap_oe_og : Apart (blkW (.agg #[.bool h3, .slice s3 t3 u3])) (blkW (.agg #[.bool h5, .slice s5 t5 u5])) := apart_of (fun k hk => (ownsW.ltb oe9 k hk).2) (fun k hk => (ownsW.ltb og k hk).1)
              have ap_of_og : Apart (blkW (.agg #[.bool h4, .slice s4 t4 u4])) (blkW (.agg #[.bool h5, .slice s5 t5 u5])) := apart_of (fun k hk => (ownsW.ltb of9 k hk).2) (fun k hk => (ownsW.ltb og k hk).1)
              replace og := ownsW_mono og B9.size
              have B10 := B9.trans (bb10.mono B9.size)
              have X10 := X9.below bb10 (Nat.le_refl _)
              have R10 := R9.below bb10 (Nat.le_refl _)
              have oe10 := ownsW.below oe9 bb10 (Nat.le_refl _)
              have Q10 := Q9.below bb10 (Nat.le_refl _)
              have of10 := ownsW.below of9 bb10 (Nat.le_refl _)
              clear B9 X9 R9 oe9 Q9 of9 bb10 hH
              have og10 := og
              clear og
              have hH : (fun W : World => W.cell? ⟨w.heap.size, 0, none⟩ = some (.bool gx) ∧ W.cell? ⟨w.heap.size, 1, none⟩ = some (.slice ax nx cx) ∧ W.cell? ⟨w.heap.size, 2, none⟩ = some (.bool gy) ∧ W.cell? ⟨w.heap.size, 3, none⟩ = some (.slice ay ny cy) ∧ W.cell? ⟨w.heap.size, 4, none⟩ = some (.int .i64 a.2)) w10 := ⟨X10.c 0 _ rfl, X10.c 1 _ rfl, X10.c 2 _ rfl, X10.c 3 _ rfl, X10.c 4 _ rfl⟩
              refine hK _ _ hH ?_
              clear hK
              refine oneH 18 rfl (by kernel_rfl) (fun K' hK => ?_)
              go_simp
              refine (kN _ _ B10 og10.row).mono ?_
              rintro e w11 ⟨v, rfl, op, bb11⟩
              obtain ⟨h6, s6, t6, u6, rfl⟩ := op.cell
              have ap_X_op : Apart (blkW (.agg #[.bool h6, .slice s6 t6 u6])) [w.heap.size] := apart_one fun q hq => by have h1 := (ownsW.ltb op q hq).1; have h2 := X10.hi; omega
              have ap_R_op : Apart (blkW (.agg #[.bool h6, .slice s6 t6 u6])) [w.heap.size + 1] := apart_one fun q hq => by have h1 := (ownsW.ltb op q hq).1; have h2 := R10.hi; omega
              have ap_Q_op : Apart (blkW (.agg #[.bool h6, .slice s6 t6 u6])) [qb8] := apart_one fun q hq => by have h1 := (ownsW.ltb op q hq).1; have h2 := Q10.hi; omega
              have ap_oe_op : Apart (blkW (.agg #[.bool h3, .slice s3 t3 u3])) (blkW (.agg #[.bool h6, .slice s6 t6 u6])) := apart_of (fun k hk => (ownsW.ltb oe10 k hk).2) (fun k hk => (ownsW.ltb op k hk).1)
              have ap_of_op : Apart (blkW (.agg #[.bool h4, .slice s4 t4 u4])) (blkW (.agg #[.bool h6, .slice s6 t6 u6])) := apart_of (fun k hk => (ownsW.ltb of10 k hk).2) (fun k hk => (ownsW.ltb op k hk).1)
              have ap_og_op : Apart (blkW (.agg #[.bool h5, .slice s5 t5 u5])) (blkW (.agg #[.bool h6, .slice s6 t6 u6])) := apart_of (fun k hk => (ownsW.ltb og10 k hk).2) (fun k hk => (ownsW.ltb op k hk).1)
              replace op := ownsW_mono op B10.size
              have B11 := B10.trans (bb11.mono B10.size)
              have X11 := X10.below bb11 (Nat.le_refl _)
              have R11 := R10.below bb11 (Nat.le_refl _)
              have oe11 := ownsW.below oe10 bb11 (Nat.le_refl _)
              have Q11 := Q10.below bb11 (Nat.le_refl _)
              have of11 := ownsW.below of10 bb11 (Nat.le_refl _)
              have og11 := ownsW.below og10 bb11 (Nat.le_refl _)
              clear B10 X10 R10 oe10 Q10 of10 og10 bb11 hH
              have op11 := op
              clear op
              clear og11
              have hH : (fun W : World => W.cell? ⟨w.heap.size, 0, none⟩ = some (.bool gx) ∧ W.cell? ⟨w.heap.size, 1, none⟩ = some (.slice ax nx cx) ∧ W.cell? ⟨w.heap.size, 2, none⟩ = some (.bool gy) ∧ W.cell? ⟨w.heap.size, 3, none⟩ = some (.slice ay ny cy) ∧ W.cell? ⟨w.heap.size, 4, none⟩ = some (.int .i64 a.2)) w11 := ⟨X11.c 0 _ rfl, X11.c 1 _ rfl, X11.c 2 _ rfl, X11.c 3 _ rfl, X11.c 4 _ rfl⟩
              refine hK _ _ hH ?_
              clear hK
              refine oneH 19 rfl (by kernel_rfl) (fun K' hK => ?_)
              go_simp
              refine (kT _ _ _ of11.row op11.row).mono ?_
              rintro e w12 ⟨v, rfl, oq, bb12⟩
              obtain ⟨h7, s7, t7, u7, rfl⟩ := oq.cell
              have ap_X_oq : Apart (blkW (.agg #[.bool h7, .slice s7 t7 u7])) [w.heap.size] := apart_one fun q hq => by have h1 := (ownsW.ltb oq q hq).1; have h2 := X11.hi; omega
              have ap_R_oq : Apart (blkW (.agg #[.bool h7, .slice s7 t7 u7])) [w.heap.size + 1] := apart_one fun q hq => by have h1 := (ownsW.ltb oq q hq).1; have h2 := R11.hi; omega
              have ap_Q_oq : Apart (blkW (.agg #[.bool h7, .slice s7 t7 u7])) [qb8] := apart_one fun q hq => by have h1 := (ownsW.ltb oq q hq).1; have h2 := Q11.hi; omega
              have ap_oe_oq : Apart (blkW (.agg #[.bool h3, .slice s3 t3 u3])) (blkW (.agg #[.bool h7, .slice s7 t7 u7])) := apart_of (fun k hk => (ownsW.ltb oe11 k hk).2) (fun k hk => (ownsW.ltb oq k hk).1)
              have ap_of_oq : Apart (blkW (.agg #[.bool h4, .slice s4 t4 u4])) (blkW (.agg #[.bool h7, .slice s7 t7 u7])) := apart_of (fun k hk => (ownsW.ltb of11 k hk).2) (fun k hk => (ownsW.ltb oq k hk).1)
              have ap_op_oq : Apart (blkW (.agg #[.bool h6, .slice s6 t6 u6])) (blkW (.agg #[.bool h7, .slice s7 t7 u7])) := apart_of (fun k hk => (ownsW.ltb op11 k hk).2) (fun k hk => (ownsW.ltb oq k hk).1)
              replace oq := ownsW_mono oq B11.size
              have B12 := B11.trans (bb12.mono B11.size)
              have X12 := X11.below bb12 (Nat.le_refl _)
              have R12 := R11.below bb12 (Nat.le_refl _)
              have oe12 := ownsW.below oe11 bb12 (Nat.le_refl _)
              have Q12 := Q11.below bb12 (Nat.le_refl _)
              have of12 := ownsW.below of11 bb12 (Nat.le_refl _)
              have op12 := ownsW.below op11 bb12 (Nat.le_refl _)
              clear B11 X11 R11 oe11 Q11 of11 op11 bb12 hH
              have oq12 := oq
              clear oq
              clear of12 op12
              have hH : (fun W : World => W.cell? ⟨w.heap.size, 0, none⟩ = some (.bool gx) ∧ W.cell? ⟨w.heap.size, 1, none⟩ = some (.slice ax nx cx) ∧ W.cell? ⟨w.heap.size, 2, none⟩ = some (.bool gy) ∧ W.cell? ⟨w.heap.size, 3, none⟩ = some (.slice ay ny cy) ∧ W.cell? ⟨w.heap.size, 4, none⟩ = some (.int .i64 a.2)) w12 := ⟨X12.c 0 _ rfl, X12.c 1 _ rfl, X12.c 2 _ rfl, X12.c 3 _ rfl, X12.c 4 _ rfl⟩
              refine hK _ _ hH ?_
              clear hK
              refine takeH 24 (some 51) (.agg #[.bool h3, .slice s3 t3 u3, .bool h7, .slice s7 t7 u7, .int .i64 (a.2 + (k : Int))]) rfl rfl (by kernel_rfl) (by kernel_rfl) (by kernel_rfl) (fun _ _ _ h => h) (Or.inl ⟨rfl, fun W hW => by go_simp⟩) hH ?_
              simp only [Act.put, List.setIfInBounds_toArray, List.set_cons_zero, List.set_cons_succ]
              have c_Q_0 := Q12.c 0 _ rfl
              have f_Q_0 := Q12.f 0 _ rfl
              have c_Q_1 := Q12.c 1 _ rfl
              have f_Q_1 := Q12.f 1 _ rfl
              have c_Q_2 := Q12.c 2 _ rfl
              have f_Q_2 := Q12.f 2 _ rfl
              have c_Q_3 := Q12.c 3 _ rfl
              have f_Q_3 := Q12.f 3 _ rfl
              have c_Q_4 := Q12.c 4 _ rfl
              have f_Q_4 := Q12.f 4 _ rfl
              refine oneH 26 rfl (by kernel_rfl) (fun K' hK => ?_)
              go_simp
              obtain ⟨w13, hw13⟩ : ∃ v, v = ((((w12.setCell ⟨qb8, 0, none⟩ (.bool h3)).setCell ⟨qb8, 1, none⟩ (.slice s3 t3 u3)).setCell ⟨qb8, 2, none⟩ (.bool h7)).setCell ⟨qb8, 3, none⟩ (.slice s7 t7 u7)).setCell ⟨qb8, 4, none⟩ (.int .i64 (a.2 + (k : Int))) := ⟨_, rfl⟩
              have tn13 : Tn [qb8] w12 w13 := by rw [hw13]; exact (((((tnL w12 qb8 0 (.bool h3)).trans (tnL _ qb8 1 (.slice s3 t3 u3))).trans (tnL _ qb8 2 (.bool h7))).trans (tnL _ qb8 3 (.slice s7 t7 u7))).trans (tnL _ qb8 4 (.int .i64 (a.2 + (k : Int)))))
              have Q13 : BoxL w13 w.heap.size qb8 [.bool h3, .slice s3 t3 u3, .bool h7, .slice s7 t7 u7, .int .i64 (a.2 + (k : Int))] := by rw [hw13]; exact (((((Q12.set 0 (.bool h3) (by simp)).set 1 (.slice s3 t3 u3) (by simp)).set 2 (.bool h7) (by simp)).set 3 (.slice s7 t7 u7) (by simp)).set 4 (.int .i64 (a.2 + (k : Int))) (by simp))
              have blo13 := Q12.lo
              rw [← hw13]
              clear hw13
              have B13 := tn13.below B12 B12.size (fun q hq => by simp at hq; omega)
              have X13 := X12.tn tn13 (not_one (by omega))
              have R13 := R12.tn tn13 (not_one (by omega))
              have oe13 := ownsW.tn oe12 tn13 ap_Q_oe
              have oq13 := ownsW.tn oq12 tn13 ap_Q_oq
              clear B12 X12 R12 oe12 Q12 oq12 tn13 blo13
              clear c_Q_0 f_Q_0 c_Q_1 f_Q_1 c_Q_2 f_Q_2 c_Q_3 f_Q_3 c_Q_4 f_Q_4
              clear hH
              have hH : (fun W : World => W.cell? ⟨w.heap.size, 0, none⟩ = some (.bool gx) ∧ W.cell? ⟨w.heap.size, 1, none⟩ = some (.slice ax nx cx) ∧ W.cell? ⟨w.heap.size, 2, none⟩ = some (.bool gy) ∧ W.cell? ⟨w.heap.size, 3, none⟩ = some (.slice ay ny cy) ∧ W.cell? ⟨w.heap.size, 4, none⟩ = some (.int .i64 a.2)) w13 := ⟨X13.c 0 _ rfl, X13.c 1 _ rfl, X13.c 2 _ rfl, X13.c 3 _ rfl, X13.c 4 _ rfl⟩
              refine hK _ _ hH ?_
              clear hK
              clear hH
              refine wpAnyH_done (by kernel_rfl) ?_ _
              exact CutBANNBANNBANNBANNBANNBANNBANNBANNN.mk h0 s0 t0 u0 h1 s1 t1 u1 h2 s2 t2 u2 h3 s3 t3 u3 h4 s4 t4 u4 h5 s5 t5 u5 h6 s6 t6 u6 h7 s7 t7 u7 qb8 rfl ⟨B13, Q13, R13, X13, oe13, oq13, ap_Q_oe, ap_Q_oq, ap_R_oe, ap_R_oq, ap_X_oe, ap_X_oq, ap_oe_oq, lt_R_Q, lt_X_Q⟩
            exact AllReadyH.nil
          refine AllReadyH.cons rfl (fun K hK => ?_) ?_
          · go_simp
            clear hH
            obtain ⟨w7, hw7⟩ : ∃ v, v = w6.alloc (.cells #[.bool false, .slice none 0 0, .bool false, .slice none 0 0, .int .i64 0] 34) := ⟨_, rfl⟩
            have bb7 : Below w6.heap.size w6 w7 := by rw [hw7]; exact below1 _ _
            obtain ⟨qb7, hq7⟩ : ∃ v, v = w6.heap.size := ⟨_, rfl⟩
            have Q7 : BoxL w7 w.heap.size qb7 [.bool false, .slice none 0 0, .bool false, .slice none 0 0, .int .i64 0] := by rw [hw7, hq7]; exact (BoxL.made w6 [.bool false, .slice none 0 0, .bool false, .slice none 0 0, .int .i64 0] 34).mono B6.size
            have sn7 : w7.heap.size = qb7 + 1 := by rw [hw7, hq7]; simp
            rw [← hw7]
            (try rw [← hq7])
            clear hw7
            have B7 := B6.trans (bb7.mono B6.size)
            have X7 := X6.below bb7 (Nat.le_refl _)
            have R7 := R6.below bb7 (Nat.le_refl _)
            have oa7 := ownsW.below oa6 bb7 (Nat.le_refl _)
            have oc7 := ownsW.below oc6 bb7 (Nat.le_refl _)
            have lt_X_Q : w.heap.size < qb7 := by rw [hq7]; exact X6.hi
            have lt_R_Q : w.heap.size + 1 < qb7 := by rw [hq7]; exact R6.hi
            have ap_Q_oa : Apart (blkW (.agg #[.bool h0, .slice s0 t0 u0])) [qb7] := apart_one fun q hq => by have h1 := (ownsW.ltb oa6 q hq).2; omega
            have ap_Q_oc : Apart (blkW (.agg #[.bool h2, .slice s2 t2 u2])) [qb7] := apart_one fun q hq => by have h1 := (ownsW.ltb oc6 q hq).2; omega
            clear B6 X6 R6 oa6 oc6 bb7 hq7 sn7
            have hH : (fun W : World => W.cell? ⟨w.heap.size, 0, none⟩ = some (.bool gx) ∧ W.cell? ⟨w.heap.size, 1, none⟩ = some (.slice ax nx cx) ∧ W.cell? ⟨w.heap.size, 2, none⟩ = some (.bool gy) ∧ W.cell? ⟨w.heap.size, 3, none⟩ = some (.slice ay ny cy) ∧ W.cell? ⟨w.heap.size, 4, none⟩ = some (.int .i64 a.2)) w7 := ⟨X7.c 0 _ rfl, X7.c 1 _ rfl, X7.c 2 _ rfl, X7.c 3 _ rfl, X7.c 4 _ rfl⟩
            refine hK.out _ _ hH (fun _ => ?_)
            clear hK K
            refine oneH 9 rfl (by kernel_rfl) (fun K' hK => ?_)
            go_simp
            refine (kS _ _ _ oa7.row oc7.row).mono ?_
            rintro e w8 ⟨v, rfl, oe, bb8⟩
            obtain ⟨h3, s3, t3, u3, rfl⟩ := oe.cell
            have ap_X_oe : Apart (blkW (.agg #[.bool h3, .slice s3 t3 u3])) [w.heap.size] := apart_one fun q hq => by have h1 := (ownsW.ltb oe q hq).1; have h2 := X7.hi; omega
            have ap_R_oe : Apart (blkW (.agg #[.bool h3, .slice s3 t3 u3])) [w.heap.size + 1] := apart_one fun q hq => by have h1 := (ownsW.ltb oe q hq).1; have h2 := R7.hi; omega
            have ap_Q_oe : Apart (blkW (.agg #[.bool h3, .slice s3 t3 u3])) [qb7] := apart_one fun q hq => by have h1 := (ownsW.ltb oe q hq).1; have h2 := Q7.hi; omega
            have ap_oa_oe : Apart (blkW (.agg #[.bool h0, .slice s0 t0 u0])) (blkW (.agg #[.bool h3, .slice s3 t3 u3])) := apart_of (fun k hk => (ownsW.ltb oa7 k hk).2) (fun k hk => (ownsW.ltb oe k hk).1)
            have ap_oc_oe : Apart (blkW (.agg #[.bool h2, .slice s2 t2 u2])) (blkW (.agg #[.bool h3, .slice s3 t3 u3])) := apart_of (fun k hk => (ownsW.ltb oc7 k hk).2) (fun k hk => (ownsW.ltb oe k hk).1)
            replace oe := ownsW_mono oe B7.size
            have B8 := B7.trans (bb8.mono B7.size)
            have X8 := X7.below bb8 (Nat.le_refl _)
            have R8 := R7.below bb8 (Nat.le_refl _)
            have oa8 := ownsW.below oa7 bb8 (Nat.le_refl _)
            have oc8 := ownsW.below oc7 bb8 (Nat.le_refl _)
            have Q8 := Q7.below bb8 (Nat.le_refl _)
            clear B7 X7 R7 oa7 oc7 Q7 bb8 hH
            have oe8 := oe
            clear oe
            clear oa8 oc8
            have hH : (fun W : World => W.cell? ⟨w.heap.size, 0, none⟩ = some (.bool gx) ∧ W.cell? ⟨w.heap.size, 1, none⟩ = some (.slice ax nx cx) ∧ W.cell? ⟨w.heap.size, 2, none⟩ = some (.bool gy) ∧ W.cell? ⟨w.heap.size, 3, none⟩ = some (.slice ay ny cy) ∧ W.cell? ⟨w.heap.size, 4, none⟩ = some (.int .i64 a.2)) w8 := ⟨X8.c 0 _ rfl, X8.c 1 _ rfl, X8.c 2 _ rfl, X8.c 3 _ rfl, X8.c 4 _ rfl⟩
            refine hK _ _ hH ?_
            clear hK
            refine oneH 13 rfl (by kernel_rfl) (fun K' hK => ?_)
            go_simp
            refine (kV _ B8).mono ?_
            rintro e w9 ⟨v, rfl, of, bb9⟩
            obtain ⟨h4, s4, t4, u4, rfl⟩ := of.cell
            have ap_X_of : Apart (blkW (.agg #[.bool h4, .slice s4 t4 u4])) [w.heap.size] := apart_one fun q hq => by have h1 := (ownsW.ltb of q hq).1; have h2 := X8.hi; omega
            have ap_R_of : Apart (blkW (.agg #[.bool h4, .slice s4 t4 u4])) [w.heap.size + 1] := apart_one fun q hq => by have h1 := (ownsW.ltb of q hq).1; have h2 := R8.hi; omega
            have ap_Q_of : Apart (blkW (.agg #[.bool h4, .slice s4 t4 u4])) [qb7] := apart_one fun q hq => by have h1 := (ownsW.ltb of q hq).1; have h2 := Q8.hi; omega
            have ap_oe_of : Apart (blkW (.agg #[.bool h3, .slice s3 t3 u3])) (blkW (.agg #[.bool h4, .slice s4 t4 u4])) := apart_of (fun k hk => (ownsW.ltb oe8 k hk).2) (fun k hk => (ownsW.ltb of k hk).1)
            replace of := ownsW_mono of B8.size
            have B9 := B8.trans (bb9.mono B8.size)
            have X9 := X8.below bb9 (Nat.le_refl _)
            have R9 := R8.below bb9 (Nat.le_refl _)
            have Q9 := Q8.below bb9 (Nat.le_refl _)
            have oe9 := ownsW.below oe8 bb9 (Nat.le_refl _)
            clear B8 X8 R8 Q8 oe8 bb9 hH
            have of9 := of
            clear of
            have hH : (fun W : World => W.cell? ⟨w.heap.size, 0, none⟩ = some (.bool gx) ∧ W.cell? ⟨w.heap.size, 1, none⟩ = some (.slice ax nx cx) ∧ W.cell? ⟨w.heap.size, 2, none⟩ = some (.bool gy) ∧ W.cell? ⟨w.heap.size, 3, none⟩ = some (.slice ay ny cy) ∧ W.cell? ⟨w.heap.size, 4, none⟩ = some (.int .i64 a.2)) w9 := ⟨X9.c 0 _ rfl, X9.c 1 _ rfl, X9.c 2 _ rfl, X9.c 3 _ rfl, X9.c 4 _ rfl⟩
            refine hK _ _ hH ?_
            clear hK
            refine oneH 17 rfl (by kernel_rfl) (fun K' hK => ?_)
            go_simp
            refine (kD _).mono ?_
            rintro e w10 ⟨v, rfl, og, bb10⟩
            obtain ⟨h5, s5, t5, u5, rfl⟩ := og.cell
            have ap_X_og : Apart (blkW (.agg #[.bool h5, .slice s5 t5 u5])) [w.heap.size] := apart_one fun q hq => by have h1 := (ownsW.ltb og q hq).1; have h2 := X9.hi; omega
            have ap_R_og : Apart (blkW (.agg #[.bool h5, .slice s5 t5 u5])) [w.heap.size + 1] := apart_one fun q hq => by have h1 := (ownsW.ltb og q hq).1; have h2 := R9.hi; omega
            have ap_Q_og : Apart (blkW (.agg #[.bool h5, .slice s5 t5 u5])) [qb7] := apart_one fun q hq => by have h1 := (ownsW.ltb og q hq).1; have h2 := Q9.hi; omega
            have ap_oe_og : Apart (blkW (.agg #[.bool h3, .slice s3 t3 u3])) (blkW (.agg #[.bool h5, .slice s5 t5 u5])) := apart_of (fun k hk => (ownsW.ltb oe9 k hk).2) (fun k hk => (ownsW.ltb og k hk).1)
            have ap_of_og : Apart (blkW (.agg #[.bool h4, .slice s4 t4 u4])) (blkW (.agg #[.bool h5, .slice s5 t5 u5])) := apart_of (fun k hk => (ownsW.ltb of9 k hk).2) (fun k hk => (ownsW.ltb og k hk).1)
            replace og := ownsW_mono og B9.size
            have B10 := B9.trans (bb10.mono B9.size)
            have X10 := X9.below bb10 (Nat.le_refl _)
            have R10 := R9.below bb10 (Nat.le_refl _)
            have Q10 := Q9.below bb10 (Nat.le_refl _)
            have oe10 := ownsW.below oe9 bb10 (Nat.le_refl _)
            have of10 := ownsW.below of9 bb10 (Nat.le_refl _)
            clear B9 X9 R9 Q9 oe9 of9 bb10 hH
            have og10 := og
            clear og
            have hH : (fun W : World => W.cell? ⟨w.heap.size, 0, none⟩ = some (.bool gx) ∧ W.cell? ⟨w.heap.size, 1, none⟩ = some (.slice ax nx cx) ∧ W.cell? ⟨w.heap.size, 2, none⟩ = some (.bool gy) ∧ W.cell? ⟨w.heap.size, 3, none⟩ = some (.slice ay ny cy) ∧ W.cell? ⟨w.heap.size, 4, none⟩ = some (.int .i64 a.2)) w10 := ⟨X10.c 0 _ rfl, X10.c 1 _ rfl, X10.c 2 _ rfl, X10.c 3 _ rfl, X10.c 4 _ rfl⟩
            refine hK _ _ hH ?_
            clear hK
            refine oneH 18 rfl (by kernel_rfl) (fun K' hK => ?_)
            go_simp
            refine (kN _ _ B10 og10.row).mono ?_
            rintro e w11 ⟨v, rfl, op, bb11⟩
            obtain ⟨h6, s6, t6, u6, rfl⟩ := op.cell
            have ap_X_op : Apart (blkW (.agg #[.bool h6, .slice s6 t6 u6])) [w.heap.size] := apart_one fun q hq => by have h1 := (ownsW.ltb op q hq).1; have h2 := X10.hi; omega
            have ap_R_op : Apart (blkW (.agg #[.bool h6, .slice s6 t6 u6])) [w.heap.size + 1] := apart_one fun q hq => by have h1 := (ownsW.ltb op q hq).1; have h2 := R10.hi; omega
            have ap_Q_op : Apart (blkW (.agg #[.bool h6, .slice s6 t6 u6])) [qb7] := apart_one fun q hq => by have h1 := (ownsW.ltb op q hq).1; have h2 := Q10.hi; omega
            have ap_oe_op : Apart (blkW (.agg #[.bool h3, .slice s3 t3 u3])) (blkW (.agg #[.bool h6, .slice s6 t6 u6])) := apart_of (fun k hk => (ownsW.ltb oe10 k hk).2) (fun k hk => (ownsW.ltb op k hk).1)
            have ap_of_op : Apart (blkW (.agg #[.bool h4, .slice s4 t4 u4])) (blkW (.agg #[.bool h6, .slice s6 t6 u6])) := apart_of (fun k hk => (ownsW.ltb of10 k hk).2) (fun k hk => (ownsW.ltb op k hk).1)
            have ap_og_op : Apart (blkW (.agg #[.bool h5, .slice s5 t5 u5])) (blkW (.agg #[.bool h6, .slice s6 t6 u6])) := apart_of (fun k hk => (ownsW.ltb og10 k hk).2) (fun k hk => (ownsW.ltb op k hk).1)
            replace op := ownsW_mono op B10.size
            have B11 := B10.trans (bb11.mono B10.size)
            have X11 := X10.below bb11 (Nat.le_refl _)
            have R11 := R10.below bb11 (Nat.le_refl _)
            have Q11 := Q10.below bb11 (Nat.le_refl _)
            have oe11 := ownsW.below oe10 bb11 (Nat.le_refl _)
            have of11 := ownsW.below of10 bb11 (Nat.le_refl _)
            have og11 := ownsW.below og10 bb11 (Nat.le_refl _)
            clear B10 X10 R10 Q10 oe10 of10 og10 bb11 hH
            have op11 := op
            clear op
            clear og11
            have hH : (fun W : World => W.cell? ⟨w.heap.size, 0, none⟩ = some (.bool gx) ∧ W.cell? ⟨w.heap.size, 1, none⟩ = some (.slice ax nx cx) ∧ W.cell? ⟨w.heap.size, 2, none⟩ = some (.bool gy) ∧ W.cell? ⟨w.heap.size, 3, none⟩ = some (.slice ay ny cy) ∧ W.cell? ⟨w.heap.size, 4, none⟩ = some (.int .i64 a.2)) w11 := ⟨X11.c 0 _ rfl, X11.c 1 _ rfl, X11.c 2 _ rfl, X11.c 3 _ rfl, X11.c 4 _ rfl⟩
            refine hK _ _ hH ?_
            clear hK
            refine oneH 19 rfl (by kernel_rfl) (fun K' hK => ?_)
            go_simp
            refine (kT _ _ _ of11.row op11.row).mono ?_
            rintro e w12 ⟨v, rfl, oq, bb12⟩
            obtain ⟨h7, s7, t7, u7, rfl⟩ := oq.cell
            have ap_X_oq : Apart (blkW (.agg #[.bool h7, .slice s7 t7 u7])) [w.heap.size] := apart_one fun q hq => by have h1 := (ownsW.ltb oq q hq).1; have h2 := X11.hi; omega
            have ap_R_oq : Apart (blkW (.agg #[.bool h7, .slice s7 t7 u7])) [w.heap.size + 1] := apart_one fun q hq => by have h1 := (ownsW.ltb oq q hq).1; have h2 := R11.hi; omega
            have ap_Q_oq : Apart (blkW (.agg #[.bool h7, .slice s7 t7 u7])) [qb7] := apart_one fun q hq => by have h1 := (ownsW.ltb oq q hq).1; have h2 := Q11.hi; omega
            have ap_oe_oq : Apart (blkW (.agg #[.bool h3, .slice s3 t3 u3])) (blkW (.agg #[.bool h7, .slice s7 t7 u7])) := apart_of (fun k hk => (ownsW.ltb oe11 k hk).2) (fun k hk => (ownsW.ltb oq k hk).1)
            have ap_of_oq : Apart (blkW (.agg #[.bool h4, .slice s4 t4 u4])) (blkW (.agg #[.bool h7, .slice s7 t7 u7])) := apart_of (fun k hk => (ownsW.ltb of11 k hk).2) (fun k hk => (ownsW.ltb oq k hk).1)
            have ap_op_oq : Apart (blkW (.agg #[.bool h6, .slice s6 t6 u6])) (blkW (.agg #[.bool h7, .slice s7 t7 u7])) := apart_of (fun k hk => (ownsW.ltb op11 k hk).2) (fun k hk => (ownsW.ltb oq k hk).1)
            replace oq := ownsW_mono oq B11.size
            have B12 := B11.trans (bb12.mono B11.size)
            have X12 := X11.below bb12 (Nat.le_refl _)
            have R12 := R11.below bb12 (Nat.le_refl _)
            have Q12 := Q11.below bb12 (Nat.le_refl _)
            have oe12 := ownsW.below oe11 bb12 (Nat.le_refl _)
            have of12 := ownsW.below of11 bb12 (Nat.le_refl _)
            have op12 := ownsW.below op11 bb12 (Nat.le_refl _)
            clear B11 X11 R11 Q11 oe11 of11 op11 bb12 hH
            have oq12 := oq
            clear oq
            clear of12 op12
            have hH : (fun W : World => W.cell? ⟨w.heap.size, 0, none⟩ = some (.bool gx) ∧ W.cell? ⟨w.heap.size, 1, none⟩ = some (.slice ax nx cx) ∧ W.cell? ⟨w.heap.size, 2, none⟩ = some (.bool gy) ∧ W.cell? ⟨w.heap.size, 3, none⟩ = some (.slice ay ny cy) ∧ W.cell? ⟨w.heap.size, 4, none⟩ = some (.int .i64 a.2)) w12 := ⟨X12.c 0 _ rfl, X12.c 1 _ rfl, X12.c 2 _ rfl, X12.c 3 _ rfl, X12.c 4 _ rfl⟩
            refine hK _ _ hH ?_
            clear hK
            refine takeH 24 (some 51) (.agg #[.bool h3, .slice s3 t3 u3, .bool h7, .slice s7 t7 u7, .int .i64 (a.2 + (k : Int))]) rfl rfl (by kernel_rfl) (by kernel_rfl) (by kernel_rfl) (fun _ _ _ h => h) (Or.inl ⟨rfl, fun W hW => by go_simp⟩) hH ?_
            simp only [Act.put, List.setIfInBounds_toArray, List.set_cons_zero, List.set_cons_succ]
            have c_Q_0 := Q12.c 0 _ rfl
            have f_Q_0 := Q12.f 0 _ rfl
            have c_Q_1 := Q12.c 1 _ rfl
            have f_Q_1 := Q12.f 1 _ rfl
            have c_Q_2 := Q12.c 2 _ rfl
            have f_Q_2 := Q12.f 2 _ rfl
            have c_Q_3 := Q12.c 3 _ rfl
            have f_Q_3 := Q12.f 3 _ rfl
            have c_Q_4 := Q12.c 4 _ rfl
            have f_Q_4 := Q12.f 4 _ rfl
            refine oneH 26 rfl (by kernel_rfl) (fun K' hK => ?_)
            go_simp
            obtain ⟨w13, hw13⟩ : ∃ v, v = ((((w12.setCell ⟨qb7, 0, none⟩ (.bool h3)).setCell ⟨qb7, 1, none⟩ (.slice s3 t3 u3)).setCell ⟨qb7, 2, none⟩ (.bool h7)).setCell ⟨qb7, 3, none⟩ (.slice s7 t7 u7)).setCell ⟨qb7, 4, none⟩ (.int .i64 (a.2 + (k : Int))) := ⟨_, rfl⟩
            have tn13 : Tn [qb7] w12 w13 := by rw [hw13]; exact (((((tnL w12 qb7 0 (.bool h3)).trans (tnL _ qb7 1 (.slice s3 t3 u3))).trans (tnL _ qb7 2 (.bool h7))).trans (tnL _ qb7 3 (.slice s7 t7 u7))).trans (tnL _ qb7 4 (.int .i64 (a.2 + (k : Int)))))
            have Q13 : BoxL w13 w.heap.size qb7 [.bool h3, .slice s3 t3 u3, .bool h7, .slice s7 t7 u7, .int .i64 (a.2 + (k : Int))] := by rw [hw13]; exact (((((Q12.set 0 (.bool h3) (by simp)).set 1 (.slice s3 t3 u3) (by simp)).set 2 (.bool h7) (by simp)).set 3 (.slice s7 t7 u7) (by simp)).set 4 (.int .i64 (a.2 + (k : Int))) (by simp))
            have blo13 := Q12.lo
            rw [← hw13]
            clear hw13
            have B13 := tn13.below B12 B12.size (fun q hq => by simp at hq; omega)
            have X13 := X12.tn tn13 (not_one (by omega))
            have R13 := R12.tn tn13 (not_one (by omega))
            have oe13 := ownsW.tn oe12 tn13 ap_Q_oe
            have oq13 := ownsW.tn oq12 tn13 ap_Q_oq
            clear B12 X12 R12 Q12 oe12 oq12 tn13 blo13
            clear c_Q_0 f_Q_0 c_Q_1 f_Q_1 c_Q_2 f_Q_2 c_Q_3 f_Q_3 c_Q_4 f_Q_4
            clear hH
            have hH : (fun W : World => W.cell? ⟨w.heap.size, 0, none⟩ = some (.bool gx) ∧ W.cell? ⟨w.heap.size, 1, none⟩ = some (.slice ax nx cx) ∧ W.cell? ⟨w.heap.size, 2, none⟩ = some (.bool gy) ∧ W.cell? ⟨w.heap.size, 3, none⟩ = some (.slice ay ny cy) ∧ W.cell? ⟨w.heap.size, 4, none⟩ = some (.int .i64 a.2)) w13 := ⟨X13.c 0 _ rfl, X13.c 1 _ rfl, X13.c 2 _ rfl, X13.c 3 _ rfl, X13.c 4 _ rfl⟩
            refine hK _ _ hH ?_
            clear hK
            clear hH
            refine wpAnyH_done (by kernel_rfl) ?_ _
            exact CutBANNBANNBANNBANNBANNBANNBANNBANNN.mk h0 s0 t0 u0 h1 s1 t1 u1 h2 s2 t2 u2 h3 s3 t3 u3 h4 s4 t4 u4 h5 s5 t5 u5 h6 s6 t6 u6 h7 s7 t7 u7 qb7 rfl ⟨B13, Q13, R13, X13, oe13, oq13, ap_Q_oe, ap_Q_oq, ap_R_oe, ap_R_oq, ap_X_oe, ap_X_oq, ap_oe_oq, lt_R_Q, lt_X_Q⟩
          exact AllReadyH.nil
        refine AllReadyH.cons rfl (fun K hK => ?_) ?_
        · go_simp
          clear hH
          obtain ⟨w6, hw6⟩ : ∃ v, v = w5.alloc (.cells #[.bool false, .slice none 0 0, .bool false, .slice none 0 0, .int .i64 0] 34) := ⟨_, rfl⟩
          have bb6 : Below w5.heap.size w5 w6 := by rw [hw6]; exact below1 _ _
          obtain ⟨qb6, hq6⟩ : ∃ v, v = w5.heap.size := ⟨_, rfl⟩
          have Q6 : BoxL w6 w.heap.size qb6 [.bool false, .slice none 0 0, .bool false, .slice none 0 0, .int .i64 0] := by rw [hw6, hq6]; exact (BoxL.made w5 [.bool false, .slice none 0 0, .bool false, .slice none 0 0, .int .i64 0] 34).mono B5.size
          have sn6 : w6.heap.size = qb6 + 1 := by rw [hw6, hq6]; simp
          rw [← hw6]
          (try rw [← hq6])
          clear hw6
          have B6 := B5.trans (bb6.mono B5.size)
          have X6 := X5.below bb6 (Nat.le_refl _)
          have R6 := R5.below bb6 (Nat.le_refl _)
          have oa6 := ownsW.below oa5 bb6 (Nat.le_refl _)
          have ob6 := ownsW.below ob5 bb6 (Nat.le_refl _)
          have lt_X_Q : w.heap.size < qb6 := by rw [hq6]; exact X5.hi
          have lt_R_Q : w.heap.size + 1 < qb6 := by rw [hq6]; exact R5.hi
          have ap_Q_oa : Apart (blkW (.agg #[.bool h0, .slice s0 t0 u0])) [qb6] := apart_one fun q hq => by have h1 := (ownsW.ltb oa5 q hq).2; omega
          have ap_Q_ob : Apart (blkW (.agg #[.bool h1, .slice s1 t1 u1])) [qb6] := apart_one fun q hq => by have h1 := (ownsW.ltb ob5 q hq).2; omega
          clear B5 X5 R5 oa5 ob5 bb6 hq6 sn6
          have hH : (fun W : World => W.cell? ⟨w.heap.size, 0, none⟩ = some (.bool gx) ∧ W.cell? ⟨w.heap.size, 1, none⟩ = some (.slice ax nx cx) ∧ W.cell? ⟨w.heap.size, 2, none⟩ = some (.bool gy) ∧ W.cell? ⟨w.heap.size, 3, none⟩ = some (.slice ay ny cy) ∧ W.cell? ⟨w.heap.size, 4, none⟩ = some (.int .i64 a.2)) w6 := ⟨X6.c 0 _ rfl, X6.c 1 _ rfl, X6.c 2 _ rfl, X6.c 3 _ rfl, X6.c 4 _ rfl⟩
          refine hK.out _ _ hH (fun _ => ?_)
          clear hK K
          refine oneH 8 rfl (by kernel_rfl) (fun K' hK => ?_)
          go_simp
          refine (kM _ _ B6 ob6.row).mono ?_
          rintro e w7 ⟨v, rfl, oc, bb7⟩
          obtain ⟨h2, s2, t2, u2, rfl⟩ := oc.cell
          have ap_X_oc : Apart (blkW (.agg #[.bool h2, .slice s2 t2 u2])) [w.heap.size] := apart_one fun q hq => by have h1 := (ownsW.ltb oc q hq).1; have h2 := X6.hi; omega
          have ap_R_oc : Apart (blkW (.agg #[.bool h2, .slice s2 t2 u2])) [w.heap.size + 1] := apart_one fun q hq => by have h1 := (ownsW.ltb oc q hq).1; have h2 := R6.hi; omega
          have ap_Q_oc : Apart (blkW (.agg #[.bool h2, .slice s2 t2 u2])) [qb6] := apart_one fun q hq => by have h1 := (ownsW.ltb oc q hq).1; have h2 := Q6.hi; omega
          have ap_oa_oc : Apart (blkW (.agg #[.bool h0, .slice s0 t0 u0])) (blkW (.agg #[.bool h2, .slice s2 t2 u2])) := apart_of (fun k hk => (ownsW.ltb oa6 k hk).2) (fun k hk => (ownsW.ltb oc k hk).1)
          have ap_ob_oc : Apart (blkW (.agg #[.bool h1, .slice s1 t1 u1])) (blkW (.agg #[.bool h2, .slice s2 t2 u2])) := apart_of (fun k hk => (ownsW.ltb ob6 k hk).2) (fun k hk => (ownsW.ltb oc k hk).1)
          replace oc := ownsW_mono oc B6.size
          have B7 := B6.trans (bb7.mono B6.size)
          have X7 := X6.below bb7 (Nat.le_refl _)
          have R7 := R6.below bb7 (Nat.le_refl _)
          have oa7 := ownsW.below oa6 bb7 (Nat.le_refl _)
          have ob7 := ownsW.below ob6 bb7 (Nat.le_refl _)
          have Q7 := Q6.below bb7 (Nat.le_refl _)
          clear B6 X6 R6 oa6 ob6 Q6 bb7 hH
          have oc7 := oc
          clear oc
          clear ob7
          have hH : (fun W : World => W.cell? ⟨w.heap.size, 0, none⟩ = some (.bool gx) ∧ W.cell? ⟨w.heap.size, 1, none⟩ = some (.slice ax nx cx) ∧ W.cell? ⟨w.heap.size, 2, none⟩ = some (.bool gy) ∧ W.cell? ⟨w.heap.size, 3, none⟩ = some (.slice ay ny cy) ∧ W.cell? ⟨w.heap.size, 4, none⟩ = some (.int .i64 a.2)) w7 := ⟨X7.c 0 _ rfl, X7.c 1 _ rfl, X7.c 2 _ rfl, X7.c 3 _ rfl, X7.c 4 _ rfl⟩
          refine hK _ _ hH ?_
          clear hK
          refine oneH 9 rfl (by kernel_rfl) (fun K' hK => ?_)
          go_simp
          refine (kS _ _ _ oa7.row oc7.row).mono ?_
          rintro e w8 ⟨v, rfl, oe, bb8⟩
          obtain ⟨h3, s3, t3, u3, rfl⟩ := oe.cell
          have ap_X_oe : Apart (blkW (.agg #[.bool h3, .slice s3 t3 u3])) [w.heap.size] := apart_one fun q hq => by have h1 := (ownsW.ltb oe q hq).1; have h2 := X7.hi; omega
          have ap_R_oe : Apart (blkW (.agg #[.bool h3, .slice s3 t3 u3])) [w.heap.size + 1] := apart_one fun q hq => by have h1 := (ownsW.ltb oe q hq).1; have h2 := R7.hi; omega
          have ap_Q_oe : Apart (blkW (.agg #[.bool h3, .slice s3 t3 u3])) [qb6] := apart_one fun q hq => by have h1 := (ownsW.ltb oe q hq).1; have h2 := Q7.hi; omega
          have ap_oa_oe : Apart (blkW (.agg #[.bool h0, .slice s0 t0 u0])) (blkW (.agg #[.bool h3, .slice s3 t3 u3])) := apart_of (fun k hk => (ownsW.ltb oa7 k hk).2) (fun k hk => (ownsW.ltb oe k hk).1)
          have ap_oc_oe : Apart (blkW (.agg #[.bool h2, .slice s2 t2 u2])) (blkW (.agg #[.bool h3, .slice s3 t3 u3])) := apart_of (fun k hk => (ownsW.ltb oc7 k hk).2) (fun k hk => (ownsW.ltb oe k hk).1)
          replace oe := ownsW_mono oe B7.size
          have B8 := B7.trans (bb8.mono B7.size)
          have X8 := X7.below bb8 (Nat.le_refl _)
          have R8 := R7.below bb8 (Nat.le_refl _)
          have oa8 := ownsW.below oa7 bb8 (Nat.le_refl _)
          have Q8 := Q7.below bb8 (Nat.le_refl _)
          have oc8 := ownsW.below oc7 bb8 (Nat.le_refl _)
          clear B7 X7 R7 oa7 Q7 oc7 bb8 hH
          have oe8 := oe
          clear oe
          clear oa8 oc8
          have hH : (fun W : World => W.cell? ⟨w.heap.size, 0, none⟩ = some (.bool gx) ∧ W.cell? ⟨w.heap.size, 1, none⟩ = some (.slice ax nx cx) ∧ W.cell? ⟨w.heap.size, 2, none⟩ = some (.bool gy) ∧ W.cell? ⟨w.heap.size, 3, none⟩ = some (.slice ay ny cy) ∧ W.cell? ⟨w.heap.size, 4, none⟩ = some (.int .i64 a.2)) w8 := ⟨X8.c 0 _ rfl, X8.c 1 _ rfl, X8.c 2 _ rfl, X8.c 3 _ rfl, X8.c 4 _ rfl⟩
          refine hK _ _ hH ?_
          clear hK
          refine oneH 13 rfl (by kernel_rfl) (fun K' hK => ?_)
          go_simp
          refine (kV _ B8).mono ?_
          rintro e w9 ⟨v, rfl, of, bb9⟩
          obtain ⟨h4, s4, t4, u4, rfl⟩ := of.cell
          have ap_X_of : Apart (blkW (.agg #[.bool h4, .slice s4 t4 u4])) [w.heap.size] := apart_one fun q hq => by have h1 := (ownsW.ltb of q hq).1; have h2 := X8.hi; omega
          have ap_R_of : Apart (blkW (.agg #[.bool h4, .slice s4 t4 u4])) [w.heap.size + 1] := apart_one fun q hq => by have h1 := (ownsW.ltb of q hq).1; have h2 := R8.hi; omega
          have ap_Q_of : Apart (blkW (.agg #[.bool h4, .slice s4 t4 u4])) [qb6] := apart_one fun q hq => by have h1 := (ownsW.ltb of q hq).1; have h2 := Q8.hi; omega
          have ap_oe_of : Apart (blkW (.agg #[.bool h3, .slice s3 t3 u3])) (blkW (.agg #[.bool h4, .slice s4 t4 u4])) := apart_of (fun k hk => (ownsW.ltb oe8 k hk).2) (fun k hk => (ownsW.ltb of k hk).1)
          replace of := ownsW_mono of B8.size
          have B9 := B8.trans (bb9.mono B8.size)
          have X9 := X8.below bb9 (Nat.le_refl _)
          have R9 := R8.below bb9 (Nat.le_refl _)
          have Q9 := Q8.below bb9 (Nat.le_refl _)
          have oe9 := ownsW.below oe8 bb9 (Nat.le_refl _)
          clear B8 X8 R8 Q8 oe8 bb9 hH
          have of9 := of
          clear of
          have hH : (fun W : World => W.cell? ⟨w.heap.size, 0, none⟩ = some (.bool gx) ∧ W.cell? ⟨w.heap.size, 1, none⟩ = some (.slice ax nx cx) ∧ W.cell? ⟨w.heap.size, 2, none⟩ = some (.bool gy) ∧ W.cell? ⟨w.heap.size, 3, none⟩ = some (.slice ay ny cy) ∧ W.cell? ⟨w.heap.size, 4, none⟩ = some (.int .i64 a.2)) w9 := ⟨X9.c 0 _ rfl, X9.c 1 _ rfl, X9.c 2 _ rfl, X9.c 3 _ rfl, X9.c 4 _ rfl⟩
          refine hK _ _ hH ?_
          clear hK
          refine oneH 17 rfl (by kernel_rfl) (fun K' hK => ?_)
          go_simp
          refine (kD _).mono ?_
          rintro e w10 ⟨v, rfl, og, bb10⟩
          obtain ⟨h5, s5, t5, u5, rfl⟩ := og.cell
          have ap_X_og : Apart (blkW (.agg #[.bool h5, .slice s5 t5 u5])) [w.heap.size] := apart_one fun q hq => by have h1 := (ownsW.ltb og q hq).1; have h2 := X9.hi; omega
          have ap_R_og : Apart (blkW (.agg #[.bool h5, .slice s5 t5 u5])) [w.heap.size + 1] := apart_one fun q hq => by have h1 := (ownsW.ltb og q hq).1; have h2 := R9.hi; omega
          have ap_Q_og : Apart (blkW (.agg #[.bool h5, .slice s5 t5 u5])) [qb6] := apart_one fun q hq => by have h1 := (ownsW.ltb og q hq).1; have h2 := Q9.hi; omega
          have ap_oe_og : Apart (blkW (.agg #[.bool h3, .slice s3 t3 u3])) (blkW (.agg #[.bool h5, .slice s5 t5 u5])) := apart_of (fun k hk => (ownsW.ltb oe9 k hk).2) (fun k hk => (ownsW.ltb og k hk).1)
          have ap_of_og : Apart (blkW (.agg #[.bool h4, .slice s4 t4 u4])) (blkW (.agg #[.bool h5, .slice s5 t5 u5])) := apart_of (fun k hk => (ownsW.ltb of9 k hk).2) (fun k hk => (ownsW.ltb og k hk).1)
          replace og := ownsW_mono og B9.size
          have B10 := B9.trans (bb10.mono B9.size)
          have X10 := X9.below bb10 (Nat.le_refl _)
          have R10 := R9.below bb10 (Nat.le_refl _)
          have Q10 := Q9.below bb10 (Nat.le_refl _)
          have oe10 := ownsW.below oe9 bb10 (Nat.le_refl _)
          have of10 := ownsW.below of9 bb10 (Nat.le_refl _)
          clear B9 X9 R9 Q9 oe9 of9 bb10 hH
          have og10 := og
          clear og
          have hH : (fun W : World => W.cell? ⟨w.heap.size, 0, none⟩ = some (.bool gx) ∧ W.cell? ⟨w.heap.size, 1, none⟩ = some (.slice ax nx cx) ∧ W.cell? ⟨w.heap.size, 2, none⟩ = some (.bool gy) ∧ W.cell? ⟨w.heap.size, 3, none⟩ = some (.slice ay ny cy) ∧ W.cell? ⟨w.heap.size, 4, none⟩ = some (.int .i64 a.2)) w10 := ⟨X10.c 0 _ rfl, X10.c 1 _ rfl, X10.c 2 _ rfl, X10.c 3 _ rfl, X10.c 4 _ rfl⟩
          refine hK _ _ hH ?_
          clear hK
          refine oneH 18 rfl (by kernel_rfl) (fun K' hK => ?_)
          go_simp
          refine (kN _ _ B10 og10.row).mono ?_
          rintro e w11 ⟨v, rfl, op, bb11⟩
          obtain ⟨h6, s6, t6, u6, rfl⟩ := op.cell
          have ap_X_op : Apart (blkW (.agg #[.bool h6, .slice s6 t6 u6])) [w.heap.size] := apart_one fun q hq => by have h1 := (ownsW.ltb op q hq).1; have h2 := X10.hi; omega
          have ap_R_op : Apart (blkW (.agg #[.bool h6, .slice s6 t6 u6])) [w.heap.size + 1] := apart_one fun q hq => by have h1 := (ownsW.ltb op q hq).1; have h2 := R10.hi; omega
          have ap_Q_op : Apart (blkW (.agg #[.bool h6, .slice s6 t6 u6])) [qb6] := apart_one fun q hq => by have h1 := (ownsW.ltb op q hq).1; have h2 := Q10.hi; omega
          have ap_oe_op : Apart (blkW (.agg #[.bool h3, .slice s3 t3 u3])) (blkW (.agg #[.bool h6, .slice s6 t6 u6])) := apart_of (fun k hk => (ownsW.ltb oe10 k hk).2) (fun k hk => (ownsW.ltb op k hk).1)
          have ap_of_op : Apart (blkW (.agg #[.bool h4, .slice s4 t4 u4])) (blkW (.agg #[.bool h6, .slice s6 t6 u6])) := apart_of (fun k hk => (ownsW.ltb of10 k hk).2) (fun k hk => (ownsW.ltb op k hk).1)
          have ap_og_op : Apart (blkW (.agg #[.bool h5, .slice s5 t5 u5])) (blkW (.agg #[.bool h6, .slice s6 t6 u6])) := apart_of (fun k hk => (ownsW.ltb og10 k hk).2) (fun k hk => (ownsW.ltb op k hk).1)
          replace op := ownsW_mono op B10.size
          have B11 := B10.trans (bb11.mono B10.size)
          have X11 := X10.below bb11 (Nat.le_refl _)
          have R11 := R10.below bb11 (Nat.le_refl _)
          have Q11 := Q10.below bb11 (Nat.le_refl _)
          have oe11 := ownsW.below oe10 bb11 (Nat.le_refl _)
          have of11 := ownsW.below of10 bb11 (Nat.le_refl _)
          have og11 := ownsW.below og10 bb11 (Nat.le_refl _)
          clear B10 X10 R10 Q10 oe10 of10 og10 bb11 hH
          have op11 := op
          clear op
          clear og11
          have hH : (fun W : World => W.cell? ⟨w.heap.size, 0, none⟩ = some (.bool gx) ∧ W.cell? ⟨w.heap.size, 1, none⟩ = some (.slice ax nx cx) ∧ W.cell? ⟨w.heap.size, 2, none⟩ = some (.bool gy) ∧ W.cell? ⟨w.heap.size, 3, none⟩ = some (.slice ay ny cy) ∧ W.cell? ⟨w.heap.size, 4, none⟩ = some (.int .i64 a.2)) w11 := ⟨X11.c 0 _ rfl, X11.c 1 _ rfl, X11.c 2 _ rfl, X11.c 3 _ rfl, X11.c 4 _ rfl⟩
          refine hK _ _ hH ?_
          clear hK
          refine oneH 19 rfl (by kernel_rfl) (fun K' hK => ?_)
          go_simp
          refine (kT _ _ _ of11.row op11.row).mono ?_
          rintro e w12 ⟨v, rfl, oq, bb12⟩
          obtain ⟨h7, s7, t7, u7, rfl⟩ := oq.cell
          have ap_X_oq : Apart (blkW (.agg #[.bool h7, .slice s7 t7 u7])) [w.heap.size] := apart_one fun q hq => by have h1 := (ownsW.ltb oq q hq).1; have h2 := X11.hi; omega
          have ap_R_oq : Apart (blkW (.agg #[.bool h7, .slice s7 t7 u7])) [w.heap.size + 1] := apart_one fun q hq => by have h1 := (ownsW.ltb oq q hq).1; have h2 := R11.hi; omega
          have ap_Q_oq : Apart (blkW (.agg #[.bool h7, .slice s7 t7 u7])) [qb6] := apart_one fun q hq => by have h1 := (ownsW.ltb oq q hq).1; have h2 := Q11.hi; omega
          have ap_oe_oq : Apart (blkW (.agg #[.bool h3, .slice s3 t3 u3])) (blkW (.agg #[.bool h7, .slice s7 t7 u7])) := apart_of (fun k hk => (ownsW.ltb oe11 k hk).2) (fun k hk => (ownsW.ltb oq k hk).1)
          have ap_of_oq : Apart (blkW (.agg #[.bool h4, .slice s4 t4 u4])) (blkW (.agg #[.bool h7, .slice s7 t7 u7])) := apart_of (fun k hk => (ownsW.ltb of11 k hk).2) (fun k hk => (ownsW.ltb oq k hk).1)
          have ap_op_oq : Apart (blkW (.agg #[.bool h6, .slice s6 t6 u6])) (blkW (.agg #[.bool h7, .slice s7 t7 u7])) := apart_of (fun k hk => (ownsW.ltb op11 k hk).2) (fun k hk => (ownsW.ltb oq k hk).1)
          replace oq := ownsW_mono oq B11.size
          have B12 := B11.trans (bb12.mono B11.size)
          have X12 := X11.below bb12 (Nat.le_refl _)
          have R12 := R11.below bb12 (Nat.le_refl _)
          have Q12 := Q11.below bb12 (Nat.le_refl _)
          have oe12 := ownsW.below oe11 bb12 (Nat.le_refl _)
          have of12 := ownsW.below of11 bb12 (Nat.le_refl _)
          have op12 := ownsW.below op11 bb12 (Nat.le_refl _)
          clear B11 X11 R11 Q11 oe11 of11 op11 bb12 hH
          have oq12 := oq
          clear oq
          clear of12 op12
          have hH : (fun W : World => W.cell? ⟨w.heap.size, 0, none⟩ = some (.bool gx) ∧ W.cell? ⟨w.heap.size, 1, none⟩ = some (.slice ax nx cx) ∧ W.cell? ⟨w.heap.size, 2, none⟩ = some (.bool gy) ∧ W.cell? ⟨w.heap.size, 3, none⟩ = some (.slice ay ny cy) ∧ W.cell? ⟨w.heap.size, 4, none⟩ = some (.int .i64 a.2)) w12 := ⟨X12.c 0 _ rfl, X12.c 1 _ rfl, X12.c 2 _ rfl, X12.c 3 _ rfl, X12.c 4 _ rfl⟩
          refine hK _ _ hH ?_
          clear hK
          refine takeH 24 (some 51) (.agg #[.bool h3, .slice s3 t3 u3, .bool h7, .slice s7 t7 u7, .int .i64 (a.2 + (k : Int))]) rfl rfl (by kernel_rfl) (by kernel_rfl) (by kernel_rfl) (fun _ _ _ h => h) (Or.inl ⟨rfl, fun W hW => by go_simp⟩) hH ?_
          simp only [Act.put, List.setIfInBounds_toArray, List.set_cons_zero, List.set_cons_succ]
          have c_Q_0 := Q12.c 0 _ rfl
          have f_Q_0 := Q12.f 0 _ rfl
          have c_Q_1 := Q12.c 1 _ rfl
          have f_Q_1 := Q12.f 1 _ rfl
          have c_Q_2 := Q12.c 2 _ rfl
          have f_Q_2 := Q12.f 2 _ rfl
          have c_Q_3 := Q12.c 3 _ rfl
          have f_Q_3 := Q12.f 3 _ rfl
          have c_Q_4 := Q12.c 4 _ rfl
          have f_Q_4 := Q12.f 4 _ rfl
          refine oneH 26 rfl (by kernel_rfl) (fun K' hK => ?_)
          go_simp
          obtain ⟨w13, hw13⟩ : ∃ v, v = ((((w12.setCell ⟨qb6, 0, none⟩ (.bool h3)).setCell ⟨qb6, 1, none⟩ (.slice s3 t3 u3)).setCell ⟨qb6, 2, none⟩ (.bool h7)).setCell ⟨qb6, 3, none⟩ (.slice s7 t7 u7)).setCell ⟨qb6, 4, none⟩ (.int .i64 (a.2 + (k : Int))) := ⟨_, rfl⟩
          have tn13 : Tn [qb6] w12 w13 := by rw [hw13]; exact (((((tnL w12 qb6 0 (.bool h3)).trans (tnL _ qb6 1 (.slice s3 t3 u3))).trans (tnL _ qb6 2 (.bool h7))).trans (tnL _ qb6 3 (.slice s7 t7 u7))).trans (tnL _ qb6 4 (.int .i64 (a.2 + (k : Int)))))
          have Q13 : BoxL w13 w.heap.size qb6 [.bool h3, .slice s3 t3 u3, .bool h7, .slice s7 t7 u7, .int .i64 (a.2 + (k : Int))] := by rw [hw13]; exact (((((Q12.set 0 (.bool h3) (by simp)).set 1 (.slice s3 t3 u3) (by simp)).set 2 (.bool h7) (by simp)).set 3 (.slice s7 t7 u7) (by simp)).set 4 (.int .i64 (a.2 + (k : Int))) (by simp))
          have blo13 := Q12.lo
          rw [← hw13]
          clear hw13
          have B13 := tn13.below B12 B12.size (fun q hq => by simp at hq; omega)
          have X13 := X12.tn tn13 (not_one (by omega))
          have R13 := R12.tn tn13 (not_one (by omega))
          have oe13 := ownsW.tn oe12 tn13 ap_Q_oe
          have oq13 := ownsW.tn oq12 tn13 ap_Q_oq
          clear B12 X12 R12 Q12 oe12 oq12 tn13 blo13
          clear c_Q_0 f_Q_0 c_Q_1 f_Q_1 c_Q_2 f_Q_2 c_Q_3 f_Q_3 c_Q_4 f_Q_4
          clear hH
          have hH : (fun W : World => W.cell? ⟨w.heap.size, 0, none⟩ = some (.bool gx) ∧ W.cell? ⟨w.heap.size, 1, none⟩ = some (.slice ax nx cx) ∧ W.cell? ⟨w.heap.size, 2, none⟩ = some (.bool gy) ∧ W.cell? ⟨w.heap.size, 3, none⟩ = some (.slice ay ny cy) ∧ W.cell? ⟨w.heap.size, 4, none⟩ = some (.int .i64 a.2)) w13 := ⟨X13.c 0 _ rfl, X13.c 1 _ rfl, X13.c 2 _ rfl, X13.c 3 _ rfl, X13.c 4 _ rfl⟩
          refine hK _ _ hH ?_
          clear hK
          clear hH
          refine wpAnyH_done (by kernel_rfl) ?_ _
          exact CutBANNBANNBANNBANNBANNBANNBANNBANNN.mk h0 s0 t0 u0 h1 s1 t1 u1 h2 s2 t2 u2 h3 s3 t3 u3 h4 s4 t4 u4 h5 s5 t5 u5 h6 s6 t6 u6 h7 s7 t7 u7 qb6 rfl ⟨B13, Q13, R13, X13, oe13, oq13, ap_Q_oe, ap_Q_oq, ap_R_oe, ap_R_oq, ap_X_oe, ap_X_oq, ap_oe_oq, lt_R_Q, lt_X_Q⟩
        exact AllReadyH.nil
      refine AllReadyH.cons rfl (fun K hK => ?_) ?_
      · go_simp
        clear hH
        obtain ⟨w5, hw5⟩ : ∃ v, v = w4.alloc (.cells #[.bool false, .slice none 0 0, .bool false, .slice none 0 0, .int .i64 0] 34) := ⟨_, rfl⟩
        have bb5 : Below w4.heap.size w4 w5 := by rw [hw5]; exact below1 _ _
        obtain ⟨qb5, hq5⟩ : ∃ v, v = w4.heap.size := ⟨_, rfl⟩
        have Q5 : BoxL w5 w.heap.size qb5 [.bool false, .slice none 0 0, .bool false, .slice none 0 0, .int .i64 0] := by rw [hw5, hq5]; exact (BoxL.made w4 [.bool false, .slice none 0 0, .bool false, .slice none 0 0, .int .i64 0] 34).mono B4.size
        have sn5 : w5.heap.size = qb5 + 1 := by rw [hw5, hq5]; simp
        rw [← hw5]
        (try rw [← hq5])
        clear hw5
        have B5 := B4.trans (bb5.mono B4.size)
        have X5 := X4.below bb5 (Nat.le_refl _)
        have R5 := R4.below bb5 (Nat.le_refl _)
        have oa5 := ownsW.below oa4 bb5 (Nat.le_refl _)
        have lt_X_Q : w.heap.size < qb5 := by rw [hq5]; exact X4.hi
        have lt_R_Q : w.heap.size + 1 < qb5 := by rw [hq5]; exact R4.hi
        have ap_Q_oa : Apart (blkW (.agg #[.bool h0, .slice s0 t0 u0])) [qb5] := apart_one fun q hq => by have h1 := (ownsW.ltb oa4 q hq).2; omega
        clear B4 X4 R4 oa4 bb5 hq5 sn5
        have hH : (fun W : World => W.cell? ⟨w.heap.size, 0, none⟩ = some (.bool gx) ∧ W.cell? ⟨w.heap.size, 1, none⟩ = some (.slice ax nx cx) ∧ W.cell? ⟨w.heap.size, 2, none⟩ = some (.bool gy) ∧ W.cell? ⟨w.heap.size, 3, none⟩ = some (.slice ay ny cy) ∧ W.cell? ⟨w.heap.size, 4, none⟩ = some (.int .i64 a.2)) w5 := ⟨X5.c 0 _ rfl, X5.c 1 _ rfl, X5.c 2 _ rfl, X5.c 3 _ rfl, X5.c 4 _ rfl⟩
        refine hK.out _ _ hH (fun _ => ?_)
        clear hK K
        refine oneH 7 rfl (by kernel_rfl) (fun K' hK => ?_)
        go_simp
        refine (kD _).mono ?_
        rintro e w6 ⟨v, rfl, ob, bb6⟩
        obtain ⟨h1, s1, t1, u1, rfl⟩ := ob.cell
        have ap_X_ob : Apart (blkW (.agg #[.bool h1, .slice s1 t1 u1])) [w.heap.size] := apart_one fun q hq => by have h1 := (ownsW.ltb ob q hq).1; have h2 := X5.hi; omega
        have ap_R_ob : Apart (blkW (.agg #[.bool h1, .slice s1 t1 u1])) [w.heap.size + 1] := apart_one fun q hq => by have h1 := (ownsW.ltb ob q hq).1; have h2 := R5.hi; omega
        have ap_Q_ob : Apart (blkW (.agg #[.bool h1, .slice s1 t1 u1])) [qb5] := apart_one fun q hq => by have h1 := (ownsW.ltb ob q hq).1; have h2 := Q5.hi; omega
        have ap_oa_ob : Apart (blkW (.agg #[.bool h0, .slice s0 t0 u0])) (blkW (.agg #[.bool h1, .slice s1 t1 u1])) := apart_of (fun k hk => (ownsW.ltb oa5 k hk).2) (fun k hk => (ownsW.ltb ob k hk).1)
        replace ob := ownsW_mono ob B5.size
        have B6 := B5.trans (bb6.mono B5.size)
        have X6 := X5.below bb6 (Nat.le_refl _)
        have R6 := R5.below bb6 (Nat.le_refl _)
        have oa6 := ownsW.below oa5 bb6 (Nat.le_refl _)
        have Q6 := Q5.below bb6 (Nat.le_refl _)
        clear B5 X5 R5 oa5 Q5 bb6 hH
        have ob6 := ob
        clear ob
        have hH : (fun W : World => W.cell? ⟨w.heap.size, 0, none⟩ = some (.bool gx) ∧ W.cell? ⟨w.heap.size, 1, none⟩ = some (.slice ax nx cx) ∧ W.cell? ⟨w.heap.size, 2, none⟩ = some (.bool gy) ∧ W.cell? ⟨w.heap.size, 3, none⟩ = some (.slice ay ny cy) ∧ W.cell? ⟨w.heap.size, 4, none⟩ = some (.int .i64 a.2)) w6 := ⟨X6.c 0 _ rfl, X6.c 1 _ rfl, X6.c 2 _ rfl, X6.c 3 _ rfl, X6.c 4 _ rfl⟩
        refine hK _ _ hH ?_
        clear hK
        refine oneH 8 rfl (by kernel_rfl) (fun K' hK => ?_)
        go_simp
        refine (kM _ _ B6 ob6.row).mono ?_
        rintro e w7 ⟨v, rfl, oc, bb7⟩
        obtain ⟨h2, s2, t2, u2, rfl⟩ := oc.cell
        have ap_X_oc : Apart (blkW (.agg #[.bool h2, .slice s2 t2 u2])) [w.heap.size] := apart_one fun q hq => by have h1 := (ownsW.ltb oc q hq).1; have h2 := X6.hi; omega
        have ap_R_oc : Apart (blkW (.agg #[.bool h2, .slice s2 t2 u2])) [w.heap.size + 1] := apart_one fun q hq => by have h1 := (ownsW.ltb oc q hq).1; have h2 := R6.hi; omega
        have ap_Q_oc : Apart (blkW (.agg #[.bool h2, .slice s2 t2 u2])) [qb5] := apart_one fun q hq => by have h1 := (ownsW.ltb oc q hq).1; have h2 := Q6.hi; omega
        have ap_oa_oc : Apart (blkW (.agg #[.bool h0, .slice s0 t0 u0])) (blkW (.agg #[.bool h2, .slice s2 t2 u2])) := apart_of (fun k hk => (ownsW.ltb oa6 k hk).2) (fun k hk => (ownsW.ltb oc k hk).1)
        have ap_ob_oc : Apart (blkW (.agg #[.bool h1, .slice s1 t1 u1])) (blkW (.agg #[.bool h2, .slice s2 t2 u2])) := apart_of (fun k hk => (ownsW.ltb ob6 k hk).2) (fun k hk => (ownsW.ltb oc k hk).1)
        replace oc := ownsW_mono oc B6.size
        have B7 := B6.trans (bb7.mono B6.size)
        have X7 := X6.below bb7 (Nat.le_refl _)
        have R7 := R6.below bb7 (Nat.le_refl _)
        have oa7 := ownsW.below oa6 bb7 (Nat.le_refl _)
        have Q7 := Q6.below bb7 (Nat.le_refl _)
        have ob7 := ownsW.below ob6 bb7 (Nat.le_refl _)
        clear B6 X6 R6 oa6 Q6 ob6 bb7 hH
        have oc7 := oc
        clear oc
        clear ob7
        have hH : (fun W : World => W.cell? ⟨w.heap.size, 0, none⟩ = some (.bool gx) ∧ W.cell? ⟨w.heap.size, 1, none⟩ = some (.slice ax nx cx) ∧ W.cell? ⟨w.heap.size, 2, none⟩ = some (.bool gy) ∧ W.cell? ⟨w.heap.size, 3, none⟩ = some (.slice ay ny cy) ∧ W.cell? ⟨w.heap.size, 4, none⟩ = some (.int .i64 a.2)) w7 := ⟨X7.c 0 _ rfl, X7.c 1 _ rfl, X7.c 2 _ rfl, X7.c 3 _ rfl, X7.c 4 _ rfl⟩
        refine hK _ _ hH ?_
        clear hK
        refine oneH 9 rfl (by kernel_rfl) (fun K' hK => ?_)
        go_simp
        refine (kS _ _ _ oa7.row oc7.row).mono ?_
        rintro e w8 ⟨v, rfl, oe, bb8⟩
        obtain ⟨h3, s3, t3, u3, rfl⟩ := oe.cell
        have ap_X_oe : Apart (blkW (.agg #[.bool h3, .slice s3 t3 u3])) [w.heap.size] := apart_one fun q hq => by have h1 := (ownsW.ltb oe q hq).1; have h2 := X7.hi; omega
        have ap_R_oe : Apart (blkW (.agg #[.bool h3, .slice s3 t3 u3])) [w.heap.size + 1] := apart_one fun q hq => by have h1 := (ownsW.ltb oe q hq).1; have h2 := R7.hi; omega
        have ap_Q_oe : Apart (blkW (.agg #[.bool h3, .slice s3 t3 u3])) [qb5] := apart_one fun q hq => by have h1 := (ownsW.ltb oe q hq).1; have h2 := Q7.hi; omega
        have ap_oa_oe : Apart (blkW (.agg #[.bool h0, .slice s0 t0 u0])) (blkW (.agg #[.bool h3, .slice s3 t3 u3])) := apart_of (fun k hk => (ownsW.ltb oa7 k hk).2) (fun k hk => (ownsW.ltb oe k hk).1)
        have ap_oc_oe : Apart (blkW (.agg #[.bool h2, .slice s2 t2 u2])) (blkW (.agg #[.bool h3, .slice s3 t3 u3])) := apart_of (fun k hk => (ownsW.ltb oc7 k hk).2) (fun k hk => (ownsW.ltb oe k hk).1)
        replace oe := ownsW_mono oe B7.size
        have B8 := B7.trans (bb8.mono B7.size)
        have X8 := X7.below bb8 (Nat.le_refl _)
        have R8 := R7.below bb8 (Nat.le_refl _)
        have oa8 := ownsW.below oa7 bb8 (Nat.le_refl _)
        have Q8 := Q7.below bb8 (Nat.le_refl _)
        have oc8 := ownsW.below oc7 bb8 (Nat.le_refl _)
        clear B7 X7 R7 oa7 Q7 oc7 bb8 hH
        have oe8 := oe
        clear oe
        clear oa8 oc8
        have hH : (fun W : World => W.cell? ⟨w.heap.size, 0, none⟩ = some (.bool gx) ∧ W.cell? ⟨w.heap.size, 1, none⟩ = some (.slice ax nx cx) ∧ W.cell? ⟨w.heap.size, 2, none⟩ = some (.bool gy) ∧ W.cell? ⟨w.heap.size, 3, none⟩ = some (.slice ay ny cy) ∧ W.cell? ⟨w.heap.size, 4, none⟩ = some (.int .i64 a.2)) w8 := ⟨X8.c 0 _ rfl, X8.c 1 _ rfl, X8.c 2 _ rfl, X8.c 3 _ rfl, X8.c 4 _ rfl⟩
        refine hK _ _ hH ?_
        clear hK
        refine oneH 13 rfl (by kernel_rfl) (fun K' hK => ?_)
        go_simp
        refine (kV _ B8).mono ?_
        rintro e w9 ⟨v, rfl, of, bb9⟩
        obtain ⟨h4, s4, t4, u4, rfl⟩ := of.cell
        have ap_X_of : Apart (blkW (.agg #[.bool h4, .slice s4 t4 u4])) [w.heap.size] := apart_one fun q hq => by have h1 := (ownsW.ltb of q hq).1; have h2 := X8.hi; omega
        have ap_R_of : Apart (blkW (.agg #[.bool h4, .slice s4 t4 u4])) [w.heap.size + 1] := apart_one fun q hq => by have h1 := (ownsW.ltb of q hq).1; have h2 := R8.hi; omega
        have ap_Q_of : Apart (blkW (.agg #[.bool h4, .slice s4 t4 u4])) [qb5] := apart_one fun q hq => by have h1 := (ownsW.ltb of q hq).1; have h2 := Q8.hi; omega
        have ap_oe_of : Apart (blkW (.agg #[.bool h3, .slice s3 t3 u3])) (blkW (.agg #[.bool h4, .slice s4 t4 u4])) := apart_of (fun k hk => (ownsW.ltb oe8 k hk).2) (fun k hk => (ownsW.ltb of k hk).1)
        replace of := ownsW_mono of B8.size
        have B9 := B8.trans (bb9.mono B8.size)
        have X9 := X8.below bb9 (Nat.le_refl _)
        have R9 := R8.below bb9 (Nat.le_refl _)
        have Q9 := Q8.below bb9 (Nat.le_refl _)
        have oe9 := ownsW.below oe8 bb9 (Nat.le_refl _)
        clear B8 X8 R8 Q8 oe8 bb9 hH
        have of9 := of
        clear of
        have hH : (fun W : World => W.cell? ⟨w.heap.size, 0, none⟩ = some (.bool gx) ∧ W.cell? ⟨w.heap.size, 1, none⟩ = some (.slice ax nx cx) ∧ W.cell? ⟨w.heap.size, 2, none⟩ = some (.bool gy) ∧ W.cell? ⟨w.heap.size, 3, none⟩ = some (.slice ay ny cy) ∧ W.cell? ⟨w.heap.size, 4, none⟩ = some (.int .i64 a.2)) w9 := ⟨X9.c 0 _ rfl, X9.c 1 _ rfl, X9.c 2 _ rfl, X9.c 3 _ rfl, X9.c 4 _ rfl⟩
        refine hK _ _ hH ?_
        clear hK
        refine oneH 17 rfl (by kernel_rfl) (fun K' hK => ?_)
        go_simp
        refine (kD _).mono ?_
        rintro e w10 ⟨v, rfl, og, bb10⟩
        obtain ⟨h5, s5, t5, u5, rfl⟩ := og.cell
        have ap_X_og : Apart (blkW (.agg #[.bool h5, .slice s5 t5 u5])) [w.heap.size] := apart_one fun q hq => by have h1 := (ownsW.ltb og q hq).1; have h2 := X9.hi; omega
        have ap_R_og : Apart (blkW (.agg #[.bool h5, .slice s5 t5 u5])) [w.heap.size + 1] := apart_one fun q hq => by have h1 := (ownsW.ltb og q hq).1; have h2 := R9.hi; omega
        have ap_Q_og : Apart (blkW (.agg #[.bool h5, .slice s5 t5 u5])) [qb5] := apart_one fun q hq => by have h1 := (ownsW.ltb og q hq).1; have h2 := Q9.hi; omega
        have ap_oe_og : Apart (blkW (.agg #[.bool h3, .slice s3 t3 u3])) (blkW (.agg #[.bool h5, .slice s5 t5 u5])) := apart_of (fun k hk => (ownsW.ltb oe9 k hk).2) (fun k hk => (ownsW.ltb og k hk).1)
        have ap_of_og : Apart (blkW (.agg #[.bool h4, .slice s4 t4 u4])) (blkW (.agg #[.bool h5, .slice s5 t5 u5])) := apart_of (fun k hk => (ownsW.ltb of9 k hk).2) (fun k hk => (ownsW.ltb og k hk).1)
        replace og := ownsW_mono og B9.size
        have B10 := B9.trans (bb10.mono B9.size)
        have X10 := X9.below bb10 (Nat.le_refl _)
        have R10 := R9.below bb10 (Nat.le_refl _)
        have Q10 := Q9.below bb10 (Nat.le_refl _)
        have oe10 := ownsW.below oe9 bb10 (Nat.le_refl _)
        have of10 := ownsW.below of9 bb10 (Nat.le_refl _)
        clear B9 X9 R9 Q9 oe9 of9 bb10 hH
        have og10 := og
        clear og
        have hH : (fun W : World => W.cell? ⟨w.heap.size, 0, none⟩ = some (.bool gx) ∧ W.cell? ⟨w.heap.size, 1, none⟩ = some (.slice ax nx cx) ∧ W.cell? ⟨w.heap.size, 2, none⟩ = some (.bool gy) ∧ W.cell? ⟨w.heap.size, 3, none⟩ = some (.slice ay ny cy) ∧ W.cell? ⟨w.heap.size, 4, none⟩ = some (.int .i64 a.2)) w10 := ⟨X10.c 0 _ rfl, X10.c 1 _ rfl, X10.c 2 _ rfl, X10.c 3 _ rfl, X10.c 4 _ rfl⟩
        refine hK _ _ hH ?_
        clear hK
        refine oneH 18 rfl (by kernel_rfl) (fun K' hK => ?_)
        go_simp
        refine (kN _ _ B10 og10.row).mono ?_
        rintro e w11 ⟨v, rfl, op, bb11⟩
        obtain ⟨h6, s6, t6, u6, rfl⟩ := op.cell
        have ap_X_op : Apart (blkW (.agg #[.bool h6, .slice s6 t6 u6])) [w.heap.size] := apart_one fun q hq => by have h1 := (ownsW.ltb op q hq).1; have h2 := X10.hi; omega
        have ap_R_op : Apart (blkW (.agg #[.bool h6, .slice s6 t6 u6])) [w.heap.size + 1] := apart_one fun q hq => by have h1 := (ownsW.ltb op q hq).1; have h2 := R10.hi; omega
        have ap_Q_op : Apart (blkW (.agg #[.bool h6, .slice s6 t6 u6])) [qb5] := apart_one fun q hq => by have h1 := (ownsW.ltb op q hq).1; have h2 := Q10.hi; omega
        have ap_oe_op : Apart (blkW (.agg #[.bool h3, .slice s3 t3 u3])) (blkW (.agg #[.bool h6, .slice s6 t6 u6])) := apart_of (fun k hk => (ownsW.ltb oe10 k hk).2) (fun k hk => (ownsW.ltb op k hk).1)
        have ap_of_op : Apart (blkW (.agg #[.bool h4, .slice s4 t4 u4])) (blkW (.agg #[.bool h6, .slice s6 t6 u6])) := apart_of (fun k hk => (ownsW.ltb of10 k hk).2) (fun k hk => (ownsW.ltb op k hk).1)
        have ap_og_op : Apart (blkW (.agg #[.bool h5, .slice s5 t5 u5])) (blkW (.agg #[.bool h6, .slice s6 t6 u6])) := apart_of (fun k hk => (ownsW.ltb og10 k hk).2) (fun k hk => (ownsW.ltb op k hk).1)
        replace op := ownsW_mono op B10.size
        have B11 := B10.trans (bb11.mono B10.size)
        have X11 := X10.below bb11 (Nat.le_refl _)
        have R11 := R10.below bb11 (Nat.le_refl _)
        have Q11 := Q10.below bb11 (Nat.le_refl _)
        have oe11 := ownsW.below oe10 bb11 (Nat.le_refl _)
        have of11 := ownsW.below of10 bb11 (Nat.le_refl _)
        have og11 := ownsW.below og10 bb11 (Nat.le_refl _)
        clear B10 X10 R10 Q10 oe10 of10 og10 bb11 hH
        have op11 := op
        clear op
        clear og11
        have hH : (fun W : World => W.cell? ⟨w.heap.size, 0, none⟩ = some (.bool gx) ∧ W.cell? ⟨w.heap.size, 1, none⟩ = some (.slice ax nx cx) ∧ W.cell? ⟨w.heap.size, 2, none⟩ = some (.bool gy) ∧ W.cell? ⟨w.heap.size, 3, none⟩ = some (.slice ay ny cy) ∧ W.cell? ⟨w.heap.size, 4, none⟩ = some (.int .i64 a.2)) w11 := ⟨X11.c 0 _ rfl, X11.c 1 _ rfl, X11.c 2 _ rfl, X11.c 3 _ rfl, X11.c 4 _ rfl⟩
        refine hK _ _ hH ?_
        clear hK
        refine oneH 19 rfl (by kernel_rfl) (fun K' hK => ?_)
        go_simp
        refine (kT _ _ _ of11.row op11.row).mono ?_
        rintro e w12 ⟨v, rfl, oq, bb12⟩
        obtain ⟨h7, s7, t7, u7, rfl⟩ := oq.cell
        have ap_X_oq : Apart (blkW (.agg #[.bool h7, .slice s7 t7 u7])) [w.heap.size] := apart_one fun q hq => by have h1 := (ownsW.ltb oq q hq).1; have h2 := X11.hi; omega
        have ap_R_oq : Apart (blkW (.agg #[.bool h7, .slice s7 t7 u7])) [w.heap.size + 1] := apart_one fun q hq => by have h1 := (ownsW.ltb oq q hq).1; have h2 := R11.hi; omega
        have ap_Q_oq : Apart (blkW (.agg #[.bool h7, .slice s7 t7 u7])) [qb5] := apart_one fun q hq => by have h1 := (ownsW.ltb oq q hq).1; have h2 := Q11.hi; omega
        have ap_oe_oq : Apart (blkW (.agg #[.bool h3, .slice s3 t3 u3])) (blkW (.agg #[.bool h7, .slice s7 t7 u7])) := apart_of (fun k hk => (ownsW.ltb oe11 k hk).2) (fun k hk => (ownsW.ltb oq k hk).1)
        have ap_of_oq : Apart (blkW (.agg #[.bool h4, .slice s4 t4 u4])) (blkW (.agg #[.bool h7, .slice s7 t7 u7])) := apart_of (fun k hk => (ownsW.ltb of11 k hk).2) (fun k hk => (ownsW.ltb oq k hk).1)
        have ap_op_oq : Apart (blkW (.agg #[.bool h6, .slice s6 t6 u6])) (blkW (.agg #[.bool h7, .slice s7 t7 u7])) := apart_of (fun k hk => (ownsW.ltb op11 k hk).2) (fun k hk => (ownsW.ltb oq k hk).1)
        replace oq := ownsW_mono oq B11.size
        have B12 := B11.trans (bb12.mono B11.size)
        have X12 := X11.below bb12 (Nat.le_refl _)
        have R12 := R11.below bb12 (Nat.le_refl _)
        have Q12 := Q11.below bb12 (Nat.le_refl _)
        have oe12 := ownsW.below oe11 bb12 (Nat.le_refl _)
        have of12 := ownsW.below of11 bb12 (Nat.le_refl _)
        have op12 := ownsW.below op11 bb12 (Nat.le_refl _)
        clear B11 X11 R11 Q11 oe11 of11 op11 bb12 hH
        have oq12 := oq
        clear oq
        clear of12 op12
        have hH : (fun W : World => W.cell? ⟨w.heap.size, 0, none⟩ = some (.bool gx) ∧ W.cell? ⟨w.heap.size, 1, none⟩ = some (.slice ax nx cx) ∧ W.cell? ⟨w.heap.size, 2, none⟩ = some (.bool gy) ∧ W.cell? ⟨w.heap.size, 3, none⟩ = some (.slice ay ny cy) ∧ W.cell? ⟨w.heap.size, 4, none⟩ = some (.int .i64 a.2)) w12 := ⟨X12.c 0 _ rfl, X12.c 1 _ rfl, X12.c 2 _ rfl, X12.c 3 _ rfl, X12.c 4 _ rfl⟩
        refine hK _ _ hH ?_
        clear hK
        refine takeH 24 (some 51) (.agg #[.bool h3, .slice s3 t3 u3, .bool h7, .slice s7 t7 u7, .int .i64 (a.2 + (k : Int))]) rfl rfl (by kernel_rfl) (by kernel_rfl) (by kernel_rfl) (fun _ _ _ h => h) (Or.inl ⟨rfl, fun W hW => by go_simp⟩) hH ?_
        simp only [Act.put, List.setIfInBounds_toArray, List.set_cons_zero, List.set_cons_succ]
        have c_Q_0 := Q12.c 0 _ rfl
        have f_Q_0 := Q12.f 0 _ rfl
        have c_Q_1 := Q12.c 1 _ rfl
        have f_Q_1 := Q12.f 1 _ rfl
        have c_Q_2 := Q12.c 2 _ rfl
        have f_Q_2 := Q12.f 2 _ rfl
        have c_Q_3 := Q12.c 3 _ rfl
        have f_Q_3 := Q12.f 3 _ rfl
        have c_Q_4 := Q12.c 4 _ rfl
        have f_Q_4 := Q12.f 4 _ rfl
        refine oneH 26 rfl (by kernel_rfl) (fun K' hK => ?_)
        go_simp
        obtain ⟨w13, hw13⟩ : ∃ v, v = ((((w12.setCell ⟨qb5, 0, none⟩ (.bool h3)).setCell ⟨qb5, 1, none⟩ (.slice s3 t3 u3)).setCell ⟨qb5, 2, none⟩ (.bool h7)).setCell ⟨qb5, 3, none⟩ (.slice s7 t7 u7)).setCell ⟨qb5, 4, none⟩ (.int .i64 (a.2 + (k : Int))) := ⟨_, rfl⟩
        have tn13 : Tn [qb5] w12 w13 := by rw [hw13]; exact (((((tnL w12 qb5 0 (.bool h3)).trans (tnL _ qb5 1 (.slice s3 t3 u3))).trans (tnL _ qb5 2 (.bool h7))).trans (tnL _ qb5 3 (.slice s7 t7 u7))).trans (tnL _ qb5 4 (.int .i64 (a.2 + (k : Int)))))
        have Q13 : BoxL w13 w.heap.size qb5 [.bool h3, .slice s3 t3 u3, .bool h7, .slice s7 t7 u7, .int .i64 (a.2 + (k : Int))] := by rw [hw13]; exact (((((Q12.set 0 (.bool h3) (by simp)).set 1 (.slice s3 t3 u3) (by simp)).set 2 (.bool h7) (by simp)).set 3 (.slice s7 t7 u7) (by simp)).set 4 (.int .i64 (a.2 + (k : Int))) (by simp))
        have blo13 := Q12.lo
        rw [← hw13]
        clear hw13
        have B13 := tn13.below B12 B12.size (fun q hq => by simp at hq; omega)
        have X13 := X12.tn tn13 (not_one (by omega))
        have R13 := R12.tn tn13 (not_one (by omega))
        have oe13 := ownsW.tn oe12 tn13 ap_Q_oe
        have oq13 := ownsW.tn oq12 tn13 ap_Q_oq
        clear B12 X12 R12 Q12 oe12 oq12 tn13 blo13
        clear c_Q_0 f_Q_0 c_Q_1 f_Q_1 c_Q_2 f_Q_2 c_Q_3 f_Q_3 c_Q_4 f_Q_4
        clear hH
        have hH : (fun W : World => W.cell? ⟨w.heap.size, 0, none⟩ = some (.bool gx) ∧ W.cell? ⟨w.heap.size, 1, none⟩ = some (.slice ax nx cx) ∧ W.cell? ⟨w.heap.size, 2, none⟩ = some (.bool gy) ∧ W.cell? ⟨w.heap.size, 3, none⟩ = some (.slice ay ny cy) ∧ W.cell? ⟨w.heap.size, 4, none⟩ = some (.int .i64 a.2)) w13 := ⟨X13.c 0 _ rfl, X13.c 1 _ rfl, X13.c 2 _ rfl, X13.c 3 _ rfl, X13.c 4 _ rfl⟩
        refine hK _ _ hH ?_
        clear hK
        clear hH
        refine wpAnyH_done (by kernel_rfl) ?_ _
        exact CutBANNBANNBANNBANNBANNBANNBANNBANNN.mk h0 s0 t0 u0 h1 s1 t1 u1 h2 s2 t2 u2 h3 s3 t3 u3 h4 s4 t4 u4 h5 s5 t5 u5 h6 s6 t6 u6 h7 s7 t7 u7 qb5 rfl ⟨B13, Q13, R13, X13, oe13, oq13, ap_Q_oe, ap_Q_oq, ap_R_oe, ap_R_oq, ap_X_oe, ap_X_oq, ap_oe_oq, lt_R_Q, lt_X_Q⟩
      exact AllReadyH.nil
    refine AllReadyH.cons rfl (fun K hK => ?_) ?_
    · go_simp
      clear hH
      obtain ⟨w4, hw4⟩ : ∃ v, v = w3.alloc (.cells #[.bool false, .slice none 0 0, .bool false, .slice none 0 0, .int .i64 0] 34) := ⟨_, rfl⟩
      have bb4 : Below w3.heap.size w3 w4 := by rw [hw4]; exact below1 _ _
      obtain ⟨qb4, hq4⟩ : ∃ v, v = w3.heap.size := ⟨_, rfl⟩
      have Q4 : BoxL w4 w.heap.size qb4 [.bool false, .slice none 0 0, .bool false, .slice none 0 0, .int .i64 0] := by rw [hw4, hq4]; exact (BoxL.made w3 [.bool false, .slice none 0 0, .bool false, .slice none 0 0, .int .i64 0] 34).mono B3.size
      have sn4 : w4.heap.size = qb4 + 1 := by rw [hw4, hq4]; simp
      rw [← hw4]
      (try rw [← hq4])
      clear hw4
      have B4 := B3.trans (bb4.mono B3.size)
      have X4 := X3.below bb4 (Nat.le_refl _)
      have R4 := R3.below bb4 (Nat.le_refl _)
      have lt_X_Q : w.heap.size < qb4 := by rw [hq4]; exact X3.hi
      have lt_R_Q : w.heap.size + 1 < qb4 := by rw [hq4]; exact R3.hi
      clear bb4 hq4 sn4
      have hH : (fun W : World => W.cell? ⟨w.heap.size, 0, none⟩ = some (.bool gx) ∧ W.cell? ⟨w.heap.size, 1, none⟩ = some (.slice ax nx cx) ∧ W.cell? ⟨w.heap.size, 2, none⟩ = some (.bool gy) ∧ W.cell? ⟨w.heap.size, 3, none⟩ = some (.slice ay ny cy) ∧ W.cell? ⟨w.heap.size, 4, none⟩ = some (.int .i64 a.2)) w4 := ⟨X4.c 0 _ rfl, X4.c 1 _ rfl, X4.c 2 _ rfl, X4.c 3 _ rfl, X4.c 4 _ rfl⟩
      refine hK.out _ _ hH (fun _ => ?_)
      clear hK K
      refine oneH 3 rfl (by kernel_rfl) (fun K' hK => ?_)
      go_simp
      refine (kU _ B4).mono ?_
      rintro e w5 ⟨v, rfl, oa, bb5⟩
      obtain ⟨h0, s0, t0, u0, rfl⟩ := oa.cell
      have ap_X_oa : Apart (blkW (.agg #[.bool h0, .slice s0 t0 u0])) [w.heap.size] := apart_one fun q hq => by have h1 := (ownsW.ltb oa q hq).1; have h2 := X4.hi; omega
      have ap_R_oa : Apart (blkW (.agg #[.bool h0, .slice s0 t0 u0])) [w.heap.size + 1] := apart_one fun q hq => by have h1 := (ownsW.ltb oa q hq).1; have h2 := R4.hi; omega
      have ap_Q_oa : Apart (blkW (.agg #[.bool h0, .slice s0 t0 u0])) [qb4] := apart_one fun q hq => by have h1 := (ownsW.ltb oa q hq).1; have h2 := Q4.hi; omega
      replace oa := ownsW_mono oa B4.size
      have B5 := B4.trans (bb5.mono B4.size)
      have X5 := X4.below bb5 (Nat.le_refl _)
      have R5 := R4.below bb5 (Nat.le_refl _)
      have Q5 := Q4.below bb5 (Nat.le_refl _)
      clear B4 X4 R4 Q4 bb5 hH
      have oa5 := oa
      clear oa
      have hH : (fun W : World => W.cell? ⟨w.heap.size, 0, none⟩ = some (.bool gx) ∧ W.cell? ⟨w.heap.size, 1, none⟩ = some (.slice ax nx cx) ∧ W.cell? ⟨w.heap.size, 2, none⟩ = some (.bool gy) ∧ W.cell? ⟨w.heap.size, 3, none⟩ = some (.slice ay ny cy) ∧ W.cell? ⟨w.heap.size, 4, none⟩ = some (.int .i64 a.2)) w5 := ⟨X5.c 0 _ rfl, X5.c 1 _ rfl, X5.c 2 _ rfl, X5.c 3 _ rfl, X5.c 4 _ rfl⟩
      refine hK _ _ hH ?_
      clear hK
      refine oneH 7 rfl (by kernel_rfl) (fun K' hK => ?_)
      go_simp
      refine (kD _).mono ?_
      rintro e w6 ⟨v, rfl, ob, bb6⟩
      obtain ⟨h1, s1, t1, u1, rfl⟩ := ob.cell
      have ap_X_ob : Apart (blkW (.agg #[.bool h1, .slice s1 t1 u1])) [w.heap.size] := apart_one fun q hq => by have h1 := (ownsW.ltb ob q hq).1; have h2 := X5.hi; omega
      have ap_R_ob : Apart (blkW (.agg #[.bool h1, .slice s1 t1 u1])) [w.heap.size + 1] := apart_one fun q hq => by have h1 := (ownsW.ltb ob q hq).1; have h2 := R5.hi; omega
      have ap_Q_ob : Apart (blkW (.agg #[.bool h1, .slice s1 t1 u1])) [qb4] := apart_one fun q hq => by have h1 := (ownsW.ltb ob q hq).1; have h2 := Q5.hi; omega
      have ap_oa_ob : Apart (blkW (.agg #[.bool h0, .slice s0 t0 u0])) (blkW (.agg #[.bool h1, .slice s1 t1 u1])) := apart_of (fun k hk => (ownsW.ltb oa5 k hk).2) (fun k hk => (ownsW.ltb ob k hk).1)
      replace ob := ownsW_mono ob B5.size
      have B6 := B5.trans (bb6.mono B5.size)
      have X6 := X5.below bb6 (Nat.le_refl _)
      have R6 := R5.below bb6 (Nat.le_refl _)
      have Q6 := Q5.below bb6 (Nat.le_refl _)
      have oa6 := ownsW.below oa5 bb6 (Nat.le_refl _)
      clear B5 X5 R5 Q5 oa5 bb6 hH
      have ob6 := ob
      clear ob
      have hH : (fun W : World => W.cell? ⟨w.heap.size, 0, none⟩ = some (.bool gx) ∧ W.cell? ⟨w.heap.size, 1, none⟩ = some (.slice ax nx cx) ∧ W.cell? ⟨w.heap.size, 2, none⟩ = some (.bool gy) ∧ W.cell? ⟨w.heap.size, 3, none⟩ = some (.slice ay ny cy) ∧ W.cell? ⟨w.heap.size, 4, none⟩ = some (.int .i64 a.2)) w6 := ⟨X6.c 0 _ rfl, X6.c 1 _ rfl, X6.c 2 _ rfl, X6.c 3 _ rfl, X6.c 4 _ rfl⟩
      refine hK _ _ hH ?_
      clear hK
      refine oneH 8 rfl (by kernel_rfl) (fun K' hK => ?_)
      go_simp
      refine (kM _ _ B6 ob6.row).mono ?_
      rintro e w7 ⟨v, rfl, oc, bb7⟩
      obtain ⟨h2, s2, t2, u2, rfl⟩ := oc.cell
      have ap_X_oc : Apart (blkW (.agg #[.bool h2, .slice s2 t2 u2])) [w.heap.size] := apart_one fun q hq => by have h1 := (ownsW.ltb oc q hq).1; have h2 := X6.hi; omega
      have ap_R_oc : Apart (blkW (.agg #[.bool h2, .slice s2 t2 u2])) [w.heap.size + 1] := apart_one fun q hq => by have h1 := (ownsW.ltb oc q hq).1; have h2 := R6.hi; omega
      have ap_Q_oc : Apart (blkW (.agg #[.bool h2, .slice s2 t2 u2])) [qb4] := apart_one fun q hq => by have h1 := (ownsW.ltb oc q hq).1; have h2 := Q6.hi; omega
      have ap_oa_oc : Apart (blkW (.agg #[.bool h0, .slice s0 t0 u0])) (blkW (.agg #[.bool h2, .slice s2 t2 u2])) := apart_of (fun k hk => (ownsW.ltb oa6 k hk).2) (fun k hk => (ownsW.ltb oc k hk).1)
      have ap_ob_oc : Apart (blkW (.agg #[.bool h1, .slice s1 t1 u1])) (blkW (.agg #[.bool h2, .slice s2 t2 u2])) := apart_of (fun k hk => (ownsW.ltb ob6 k hk).2) (fun k hk => (ownsW.ltb oc k hk).1)
      replace oc := ownsW_mono oc B6.size
      have B7 := B6.trans (bb7.mono B6.size)
      have X7 := X6.below bb7 (Nat.le_refl _)
      have R7 := R6.below bb7 (Nat.le_refl _)
      have Q7 := Q6.below bb7 (Nat.le_refl _)
      have oa7 := ownsW.below oa6 bb7 (Nat.le_refl _)
      have ob7 := ownsW.below ob6 bb7 (Nat.le_refl _)
      clear B6 X6 R6 Q6 oa6 ob6 bb7 hH
      have oc7 := oc
      clear oc
      clear ob7
      have hH : (fun W : World => W.cell? ⟨w.heap.size, 0, none⟩ = some (.bool gx) ∧ W.cell? ⟨w.heap.size, 1, none⟩ = some (.slice ax nx cx) ∧ W.cell? ⟨w.heap.size, 2, none⟩ = some (.bool gy) ∧ W.cell? ⟨w.heap.size, 3, none⟩ = some (.slice ay ny cy) ∧ W.cell? ⟨w.heap.size, 4, none⟩ = some (.int .i64 a.2)) w7 := ⟨X7.c 0 _ rfl, X7.c 1 _ rfl, X7.c 2 _ rfl, X7.c 3 _ rfl, X7.c 4 _ rfl⟩
      refine hK _ _ hH ?_
      clear hK
      refine oneH 9 rfl (by kernel_rfl) (fun K' hK => ?_)
      go_simp
      refine (kS _ _ _ oa7.row oc7.row).mono ?_
      rintro e w8 ⟨v, rfl, oe, bb8⟩
      obtain ⟨h3, s3, t3, u3, rfl⟩ := oe.cell
      have ap_X_oe : Apart (blkW (.agg #[.bool h3, .slice s3 t3 u3])) [w.heap.size] := apart_one fun q hq => by have h1 := (ownsW.ltb oe q hq).1; have h2 := X7.hi; omega
      have ap_R_oe : Apart (blkW (.agg #[.bool h3, .slice s3 t3 u3])) [w.heap.size + 1] := apart_one fun q hq => by have h1 := (ownsW.ltb oe q hq).1; have h2 := R7.hi; omega
      have ap_Q_oe : Apart (blkW (.agg #[.bool h3, .slice s3 t3 u3])) [qb4] := apart_one fun q hq => by have h1 := (ownsW.ltb oe q hq).1; have h2 := Q7.hi; omega
      have ap_oa_oe : Apart (blkW (.agg #[.bool h0, .slice s0 t0 u0])) (blkW (.agg #[.bool h3, .slice s3 t3 u3])) := apart_of (fun k hk => (ownsW.ltb oa7 k hk).2) (fun k hk => (ownsW.ltb oe k hk).1)
      have ap_oc_oe : Apart (blkW (.agg #[.bool h2, .slice s2 t2 u2])) (blkW (.agg #[.bool h3, .slice s3 t3 u3])) := apart_of (fun k hk => (ownsW.ltb oc7 k hk).2) (fun k hk => (ownsW.ltb oe k hk).1)
      replace oe := ownsW_mono oe B7.size
      have B8 := B7.trans (bb8.mono B7.size)
      have X8 := X7.below bb8 (Nat.le_refl _)
      have R8 := R7.below bb8 (Nat.le_refl _)
      have Q8 := Q7.below bb8 (Nat.le_refl _)
      have oa8 := ownsW.below oa7 bb8 (Nat.le_refl _)
      have oc8 := ownsW.below oc7 bb8 (Nat.le_refl _)
      clear B7 X7 R7 Q7 oa7 oc7 bb8 hH
      have oe8 := oe
      clear oe
      clear oa8 oc8
      have hH : (fun W : World => W.cell? ⟨w.heap.size, 0, none⟩ = some (.bool gx) ∧ W.cell? ⟨w.heap.size, 1, none⟩ = some (.slice ax nx cx) ∧ W.cell? ⟨w.heap.size, 2, none⟩ = some (.bool gy) ∧ W.cell? ⟨w.heap.size, 3, none⟩ = some (.slice ay ny cy) ∧ W.cell? ⟨w.heap.size, 4, none⟩ = some (.int .i64 a.2)) w8 := ⟨X8.c 0 _ rfl, X8.c 1 _ rfl, X8.c 2 _ rfl, X8.c 3 _ rfl, X8.c 4 _ rfl⟩
      refine hK _ _ hH ?_
      clear hK
      refine oneH 13 rfl (by kernel_rfl) (fun K' hK => ?_)
      go_simp
      refine (kV _ B8).mono ?_
      rintro e w9 ⟨v, rfl, of, bb9⟩
      obtain ⟨h4, s4, t4, u4, rfl⟩ := of.cell
      have ap_X_of : Apart (blkW (.agg #[.bool h4, .slice s4 t4 u4])) [w.heap.size] := apart_one fun q hq => by have h1 := (ownsW.ltb of q hq).1; have h2 := X8.hi; omega
      have ap_R_of : Apart (blkW (.agg #[.bool h4, .slice s4 t4 u4])) [w.heap.size + 1] := apart_one fun q hq => by have h1 := (ownsW.ltb of q hq).1; have h2 := R8.hi; omega
      have ap_Q_of : Apart (blkW (.agg #[.bool h4, .slice s4 t4 u4])) [qb4] := apart_one fun q hq => by have h1 := (ownsW.ltb of q hq).1; have h2 := Q8.hi; omega
      have ap_oe_of : Apart (blkW (.agg #[.bool h3, .slice s3 t3 u3])) (blkW (.agg #[.bool h4, .slice s4 t4 u4])) := apart_of (fun k hk => (ownsW.ltb oe8 k hk).2) (fun k hk => (ownsW.ltb of k hk).1)
      replace of := ownsW_mono of B8.size
      have B9 := B8.trans (bb9.mono B8.size)
      have X9 := X8.below bb9 (Nat.le_refl _)
      have R9 := R8.below bb9 (Nat.le_refl _)
      have Q9 := Q8.below bb9 (Nat.le_refl _)
      have oe9 := ownsW.below oe8 bb9 (Nat.le_refl _)
      clear B8 X8 R8 Q8 oe8 bb9 hH
      have of9 := of
      clear of
      have hH : (fun W : World => W.cell? ⟨w.heap.size, 0, none⟩ = some (.bool gx) ∧ W.cell? ⟨w.heap.size, 1, none⟩ = some (.slice ax nx cx) ∧ W.cell? ⟨w.heap.size, 2, none⟩ = some (.bool gy) ∧ W.cell? ⟨w.heap.size, 3, none⟩ = some (.slice ay ny cy) ∧ W.cell? ⟨w.heap.size, 4, none⟩ = some (.int .i64 a.2)) w9 := ⟨X9.c 0 _ rfl, X9.c 1 _ rfl, X9.c 2 _ rfl, X9.c 3 _ rfl, X9.c 4 _ rfl⟩
      refine hK _ _ hH ?_
      clear hK
      refine oneH 17 rfl (by kernel_rfl) (fun K' hK => ?_)
      go_simp
      refine (kD _).mono ?_
      rintro e w10 ⟨v, rfl, og, bb10⟩
      obtain ⟨h5, s5, t5, u5, rfl⟩ := og.cell
      have ap_X_og : Apart (blkW (.agg #[.bool h5, .slice s5 t5 u5])) [w.heap.size] := apart_one fun q hq => by have h1 := (ownsW.ltb og q hq).1; have h2 := X9.hi; omega
      have ap_R_og : Apart (blkW (.agg #[.bool h5, .slice s5 t5 u5])) [w.heap.size + 1] := apart_one fun q hq => by have h1 := (ownsW.ltb og q hq).1; have h2 := R9.hi; omega
      have ap_Q_og : Apart (blkW (.agg #[.bool h5, .slice s5 t5 u5])) [qb4] := apart_one fun q hq => by have h1 := (ownsW.ltb og q hq).1; have h2 := Q9.hi; omega
      have ap_oe_og : Apart (blkW (.agg #[.bool h3, .slice s3 t3 u3])) (blkW (.agg #[.bool h5, .slice s5 t5 u5])) := apart_of (fun k hk => (ownsW.ltb oe9 k hk).2) (fun k hk => (ownsW.ltb og k hk).1)
      have ap_of_og : Apart (blkW (.agg #[.bool h4, .slice s4 t4 u4])) (blkW (.agg #[.bool h5, .slice s5 t5 u5])) := apart_of (fun k hk => (ownsW.ltb of9 k hk).2) (fun k hk => (ownsW.ltb og k hk).1)
      replace og := ownsW_mono og B9.size
      have B10 := B9.trans (bb10.mono B9.size)
      have X10 := X9.below bb10 (Nat.le_refl _)
      have R10 := R9.below bb10 (Nat.le_refl _)
      have Q10 := Q9.below bb10 (Nat.le_refl _)
      have oe10 := ownsW.below oe9 bb10 (Nat.le_refl _)
      have of10 := ownsW.below of9 bb10 (Nat.le_refl _)
      clear B9 X9 R9 Q9 oe9 of9 bb10 hH
      have og10 := og
      clear og
      have hH : (fun W : World => W.cell? ⟨w.heap.size, 0, none⟩ = some (.bool gx) ∧ W.cell? ⟨w.heap.size, 1, none⟩ = some (.slice ax nx cx) ∧ W.cell? ⟨w.heap.size, 2, none⟩ = some (.bool gy) ∧ W.cell? ⟨w.heap.size, 3, none⟩ = some (.slice ay ny cy) ∧ W.cell? ⟨w.heap.size, 4, none⟩ = some (.int .i64 a.2)) w10 := ⟨X10.c 0 _ rfl, X10.c 1 _ rfl, X10.c 2 _ rfl, X10.c 3 _ rfl, X10.c 4 _ rfl⟩
      refine hK _ _ hH ?_
      clear hK
      refine oneH 18 rfl (by kernel_rfl) (fun K' hK => ?_)
      go_simp
      refine (kN _ _ B10 og10.row).mono ?_
      rintro e w11 ⟨v, rfl, op, bb11⟩
      obtain ⟨h6, s6, t6, u6, rfl⟩ := op.cell
      have ap_X_op : Apart (blkW (.agg #[.bool h6, .slice s6 t6 u6])) [w.heap.size] := apart_one fun q hq => by have h1 := (ownsW.ltb op q hq).1; have h2 := X10.hi; omega
      have ap_R_op : Apart (blkW (.agg #[.bool h6, .slice s6 t6 u6])) [w.heap.size + 1] := apart_one fun q hq => by have h1 := (ownsW.ltb op q hq).1; have h2 := R10.hi; omega
      have ap_Q_op : Apart (blkW (.agg #[.bool h6, .slice s6 t6 u6])) [qb4] := apart_one fun q hq => by have h1 := (ownsW.ltb op q hq).1; have h2 := Q10.hi; omega
      have ap_oe_op : Apart (blkW (.agg #[.bool h3, .slice s3 t3 u3])) (blkW (.agg #[.bool h6, .slice s6 t6 u6])) := apart_of (fun k hk => (ownsW.ltb oe10 k hk).2) (fun k hk => (ownsW.ltb op k hk).1)
      have ap_of_op : Apart (blkW (.agg #[.bool h4, .slice s4 t4 u4])) (blkW (.agg #[.bool h6, .slice s6 t6 u6])) := apart_of (fun k hk => (ownsW.ltb of10 k hk).2) (fun k hk => (ownsW.ltb op k hk).1)
      have ap_og_op : Apart (blkW (.agg #[.bool h5, .slice s5 t5 u5])) (blkW (.agg #[.bool h6, .slice s6 t6 u6])) := apart_of (fun k hk => (ownsW.ltb og10 k hk).2) (fun k hk => (ownsW.ltb op k hk).1)
      replace op := ownsW_mono op B10.size
      have B11 := B10.trans (bb11.mono B10.size)
      have X11 := X10.below bb11 (Nat.le_refl _)
      have R11 := R10.below bb11 (Nat.le_refl _)
      have Q11 := Q10.below bb11 (Nat.le_refl _)
      have oe11 := ownsW.below oe10 bb11 (Nat.le_refl _)
      have of11 := ownsW.below of10 bb11 (Nat.le_refl _)
      have og11 := ownsW.below og10 bb11 (Nat.le_refl _)
      clear B10 X10 R10 Q10 oe10 of10 og10 bb11 hH
      have op11 := op
      clear op
      clear og11
      have hH : (fun W : World => W.cell? ⟨w.heap.size, 0, none⟩ = some (.bool gx) ∧ W.cell? ⟨w.heap.size, 1, none⟩ = some (.slice ax nx cx) ∧ W.cell? ⟨w.heap.size, 2, none⟩ = some (.bool gy) ∧ W.cell? ⟨w.heap.size, 3, none⟩ = some (.slice ay ny cy) ∧ W.cell? ⟨w.heap.size, 4, none⟩ = some (.int .i64 a.2)) w11 := ⟨X11.c 0 _ rfl, X11.c 1 _ rfl, X11.c 2 _ rfl, X11.c 3 _ rfl, X11.c 4 _ rfl⟩
      refine hK _ _ hH ?_
      clear hK
      refine oneH 19 rfl (by kernel_rfl) (fun K' hK => ?_)
      go_simp
      refine (kT _ _ _ of11.row op11.row).mono ?_
      rintro e w12 ⟨v, rfl, oq, bb12⟩
      obtain ⟨h7, s7, t7, u7, rfl⟩ := oq.cell
      have ap_X_oq : Apart (blkW (.agg #[.bool h7, .slice s7 t7 u7])) [w.heap.size] := apart_one fun q hq => by have h1 := (ownsW.ltb oq q hq).1; have h2 := X11.hi; omega
      have ap_R_oq : Apart (blkW (.agg #[.bool h7, .slice s7 t7 u7])) [w.heap.size + 1] := apart_one fun q hq => by have h1 := (ownsW.ltb oq q hq).1; have h2 := R11.hi; omega
      have ap_Q_oq : Apart (blkW (.agg #[.bool h7, .slice s7 t7 u7])) [qb4] := apart_one fun q hq => by have h1 := (ownsW.ltb oq q hq).1; have h2 := Q11.hi; omega
      have ap_oe_oq : Apart (blkW (.agg #[.bool h3, .slice s3 t3 u3])) (blkW (.agg #[.bool h7, .slice s7 t7 u7])) := apart_of (fun k hk => (ownsW.ltb oe11 k hk).2) (fun k hk => (ownsW.ltb oq k hk).1)
      have ap_of_oq : Apart (blkW (.agg #[.bool h4, .slice s4 t4 u4])) (blkW (.agg #[.bool h7, .slice s7 t7 u7])) := apart_of (fun k hk => (ownsW.ltb of11 k hk).2) (fun k hk => (ownsW.ltb oq k hk).1)
      have ap_op_oq : Apart (blkW (.agg #[.bool h6, .slice s6 t6 u6])) (blkW (.agg #[.bool h7, .slice s7 t7 u7])) := apart_of (fun k hk => (ownsW.ltb op11 k hk).2) (fun k hk => (ownsW.ltb oq k hk).1)
      replace oq := ownsW_mono oq B11.size
      have B12 := B11.trans (bb12.mono B11.size)
      have X12 := X11.below bb12 (Nat.le_refl _)
      have R12 := R11.below bb12 (Nat.le_refl _)
      have Q12 := Q11.below bb12 (Nat.le_refl _)
      have oe12 := ownsW.below oe11 bb12 (Nat.le_refl _)
      have of12 := ownsW.below of11 bb12 (Nat.le_refl _)
      have op12 := ownsW.below op11 bb12 (Nat.le_refl _)
      clear B11 X11 R11 Q11 oe11 of11 op11 bb12 hH
      have oq12 := oq
      clear oq
      clear of12 op12
      have hH : (fun W : World => W.cell? ⟨w.heap.size, 0, none⟩ = some (.bool gx) ∧ W.cell? ⟨w.heap.size, 1, none⟩ = some (.slice ax nx cx) ∧ W.cell? ⟨w.heap.size, 2, none⟩ = some (.bool gy) ∧ W.cell? ⟨w.heap.size, 3, none⟩ = some (.slice ay ny cy) ∧ W.cell? ⟨w.heap.size, 4, none⟩ = some (.int .i64 a.2)) w12 := ⟨X12.c 0 _ rfl, X12.c 1 _ rfl, X12.c 2 _ rfl, X12.c 3 _ rfl, X12.c 4 _ rfl⟩
      refine hK _ _ hH ?_
      clear hK
      refine takeH 24 (some 51) (.agg #[.bool h3, .slice s3 t3 u3, .bool h7, .slice s7 t7 u7, .int .i64 (a.2 + (k : Int))]) rfl rfl (by kernel_rfl) (by kernel_rfl) (by kernel_rfl) (fun _ _ _ h => h) (Or.inl ⟨rfl, fun W hW => by go_simp⟩) hH ?_
      simp only [Act.put, List.setIfInBounds_toArray, List.set_cons_zero, List.set_cons_succ]
      have c_Q_0 := Q12.c 0 _ rfl
      have f_Q_0 := Q12.f 0 _ rfl
      have c_Q_1 := Q12.c 1 _ rfl
      have f_Q_1 := Q12.f 1 _ rfl
      have c_Q_2 := Q12.c 2 _ rfl
      have f_Q_2 := Q12.f 2 _ rfl
      have c_Q_3 := Q12.c 3 _ rfl
      have f_Q_3 := Q12.f 3 _ rfl
      have c_Q_4 := Q12.c 4 _ rfl
      have f_Q_4 := Q12.f 4 _ rfl
      refine oneH 26 rfl (by kernel_rfl) (fun K' hK => ?_)
      go_simp
      obtain ⟨w13, hw13⟩ : ∃ v, v = ((((w12.setCell ⟨qb4, 0, none⟩ (.bool h3)).setCell ⟨qb4, 1, none⟩ (.slice s3 t3 u3)).setCell ⟨qb4, 2, none⟩ (.bool h7)).setCell ⟨qb4, 3, none⟩ (.slice s7 t7 u7)).setCell ⟨qb4, 4, none⟩ (.int .i64 (a.2 + (k : Int))) := ⟨_, rfl⟩
      have tn13 : Tn [qb4] w12 w13 := by rw [hw13]; exact (((((tnL w12 qb4 0 (.bool h3)).trans (tnL _ qb4 1 (.slice s3 t3 u3))).trans (tnL _ qb4 2 (.bool h7))).trans (tnL _ qb4 3 (.slice s7 t7 u7))).trans (tnL _ qb4 4 (.int .i64 (a.2 + (k : Int)))))
      have Q13 : BoxL w13 w.heap.size qb4 [.bool h3, .slice s3 t3 u3, .bool h7, .slice s7 t7 u7, .int .i64 (a.2 + (k : Int))] := by rw [hw13]; exact (((((Q12.set 0 (.bool h3) (by simp)).set 1 (.slice s3 t3 u3) (by simp)).set 2 (.bool h7) (by simp)).set 3 (.slice s7 t7 u7) (by simp)).set 4 (.int .i64 (a.2 + (k : Int))) (by simp))
      have blo13 := Q12.lo
      rw [← hw13]
      clear hw13
      have B13 := tn13.below B12 B12.size (fun q hq => by simp at hq; omega)
      have X13 := X12.tn tn13 (not_one (by omega))
      have R13 := R12.tn tn13 (not_one (by omega))
      have oe13 := ownsW.tn oe12 tn13 ap_Q_oe
      have oq13 := ownsW.tn oq12 tn13 ap_Q_oq
      clear B12 X12 R12 Q12 oe12 oq12 tn13 blo13
      clear c_Q_0 f_Q_0 c_Q_1 f_Q_1 c_Q_2 f_Q_2 c_Q_3 f_Q_3 c_Q_4 f_Q_4
      clear hH
      have hH : (fun W : World => W.cell? ⟨w.heap.size, 0, none⟩ = some (.bool gx) ∧ W.cell? ⟨w.heap.size, 1, none⟩ = some (.slice ax nx cx) ∧ W.cell? ⟨w.heap.size, 2, none⟩ = some (.bool gy) ∧ W.cell? ⟨w.heap.size, 3, none⟩ = some (.slice ay ny cy) ∧ W.cell? ⟨w.heap.size, 4, none⟩ = some (.int .i64 a.2)) w13 := ⟨X13.c 0 _ rfl, X13.c 1 _ rfl, X13.c 2 _ rfl, X13.c 3 _ rfl, X13.c 4 _ rfl⟩
      refine hK _ _ hH ?_
      clear hK
      clear hH
      refine wpAnyH_done (by kernel_rfl) ?_ _
      exact CutBANNBANNBANNBANNBANNBANNBANNBANNN.mk h0 s0 t0 u0 h1 s1 t1 u1 h2 s2 t2 u2 h3 s3 t3 u3 h4 s4 t4 u4 h5 s5 t5 u5 h6 s6 t6 u6 h7 s7 t7 u7 qb4 rfl ⟨B13, Q13, R13, X13, oe13, oq13, ap_Q_oe, ap_Q_oq, ap_R_oe, ap_R_oq, ap_X_oe, ap_X_oq, ap_oe_oq, lt_R_Q, lt_X_Q⟩
    exact AllReadyH.nil
  case hB =>
    rintro h0 s0 t0 u0 h1 s1 t1 u1 h2 s2 t2 u2 h3 s3 t3 u3 h4 s4 t4 u4 h5 s5 t5 u5 h6 s6 t6 u6 h7 s7 t7 u7 qb12 w14 ⟨B14, Q14, R14, X14, oe14, oq14, ap_Q_oe, ap_Q_oq, ap_R_oe, ap_R_oq, ap_X_oe, ap_X_oq, ap_oe_oq, lt_R_Q, lt_X_Q⟩
    clear kU kV kD kM kN kS kT
    have c_Q_0 := Q14.c 0 _ rfl
    have c_Q_1 := Q14.c 1 _ rfl
    have c_Q_2 := Q14.c 2 _ rfl
    have c_Q_3 := Q14.c 3 _ rfl
    have c_Q_4 := Q14.c 4 _ rfl
    go_wp2_with fail
    refine (kO _ _ (ownsP.mk oe14 oq14 ap_oe_oq).row (mk_len lX) (mk_len lY)).mono ?_
    rintro e w15 ⟨rfl, bb15⟩
    clear c_Q_0 c_Q_1 c_Q_2 c_Q_3 c_Q_4
    have B15 := B14.trans (bb15.mono B14.size)
    have X15 := X14.below bb15 (Nat.le_refl _)
    have R15 := R14.below bb15 (Nat.le_refl _)
    have oe15 := ownsW.below oe14 bb15 (Nat.le_refl _)
    have oq15 := ownsW.below oq14 bb15 (Nat.le_refl _)
    have Q15 := Q14.below bb15 (Nat.le_refl _)
    clear B14 X14 R14 oe14 oq14 Q14 bb15
    clear kO lX lY
    by_cases c3 : okP ((mkW X, mkW Y), a.2 + (k : Int)) = true
    · rw [if_pos c3] at HQ
      rw [c3]
      clear c3 kC
      clear X15
      have c_Q_0 := Q15.c 0 _ rfl
      have c_Q_1 := Q15.c 1 _ rfl
      have c_Q_2 := Q15.c 2 _ rfl
      have c_Q_3 := Q15.c 3 _ rfl
      have c_Q_4 := Q15.c 4 _ rfl
      have c_R_0 := R15.c 0 _ rfl
      have f_R_0 := R15.f 0 _ rfl
      have c_R_1 := R15.c 1 _ rfl
      have f_R_1 := R15.f 1 _ rfl
      have c_R_2 := R15.c 2 _ rfl
      have f_R_2 := R15.f 2 _ rfl
      have c_R_3 := R15.c 3 _ rfl
      have f_R_3 := R15.f 3 _ rfl
      have c_R_4 := R15.c 4 _ rfl
      have f_R_4 := R15.f 4 _ rfl
      obtain ⟨w16, hw16⟩ : ∃ v, v = ((((w15.setCell ⟨w.heap.size + 1, 0, none⟩ (.bool h3)).setCell ⟨w.heap.size + 1, 1, none⟩ (.slice s3 t3 u3)).setCell ⟨w.heap.size + 1, 2, none⟩ (.bool h7)).setCell ⟨w.heap.size + 1, 3, none⟩ (.slice s7 t7 u7)).setCell ⟨w.heap.size + 1, 4, none⟩ (.int .i64 (a.2 + (k : Int))) := ⟨_, rfl⟩
      have tn16 : Tn [w.heap.size + 1] w15 w16 := by rw [hw16]; exact (((((tnL w15 (w.heap.size + 1) 0 (.bool h3)).trans (tnL _ (w.heap.size + 1) 1 (.slice s3 t3 u3))).trans (tnL _ (w.heap.size + 1) 2 (.bool h7))).trans (tnL _ (w.heap.size + 1) 3 (.slice s7 t7 u7))).trans (tnL _ (w.heap.size + 1) 4 (.int .i64 (a.2 + (k : Int)))))
      have R16 : BoxL w16 w.heap.size (w.heap.size + 1) [.bool h3, .slice s3 t3 u3, .bool h7, .slice s7 t7 u7, .int .i64 (a.2 + (k : Int))] := by rw [hw16]; exact (((((R15.set 0 (.bool h3) (by simp)).set 1 (.slice s3 t3 u3) (by simp)).set 2 (.bool h7) (by simp)).set 3 (.slice s7 t7 u7) (by simp)).set 4 (.int .i64 (a.2 + (k : Int))) (by simp))
      have blo16 := R15.lo
      have B16 := tn16.below B15 B15.size (fun q hq => by simp at hq; omega)
      have oe16 := ownsW.tn oe15 tn16 ap_R_oe
      have oq16 := ownsW.tn oq15 tn16 ap_R_oq
      have Q16 := Q15.tn tn16 (not_one (by omega))
      clear B15 R15 oe15 oq15 Q15 tn16 blo16
      subst hw16
      go_wp2
      (try simp only [Exit.inBlock, Exit.then])
      refine bodyPost_ret (v := .tuple #[.agg #[.bool h3, .slice s3 t3 u3, .bool h7, .slice s7 t7 u7, .int .i64 (a.2 + (k : Int))], .bool true]) ?_ rfl ⟨_, by rw [HQ.out], by rw [HQ.out]; exact ownsP.mk oe16 oq16 ap_oe_oq, B16⟩
      rw [results_cell_tmp rfl]
      go_simp
    · rw [if_neg c3] at HQ
      have hf : okP ((mkW X, mkW Y), a.2 + (k : Int)) = false := by simpa using c3
      rw [hf]
      clear hf c3
      have HR := HQ
      clear HQ
      clear oe15 oq15 Q15
      have c_X_0 := X15.c 0 _ rfl
      have c_X_1 := X15.c 1 _ rfl
      have c_X_2 := X15.c 2 _ rfl
      have c_X_3 := X15.c 3 _ rfl
      have c_X_4 := X15.c 4 _ rfl
      go_wp2_with fail
      refine (kC _ B15).mono ?_
      rintro e w16 ⟨v, rfl, oz, bb16⟩
      clear c_X_0 c_X_1 c_X_2 c_X_3 c_X_4
      obtain ⟨h8, s8, t8, u8, h9, s9, t9, u9, eqz⟩ := oz.cell
      subst eqz
      generalize hkz : a.2 = kk9 at *
      replace hkz : Hid (a.2 = kk9) := hkz
      have ap_X_oz : Apart (blkP (.agg #[.bool h8, .slice s8 t8 u8, .bool h9, .slice s9 t9 u9, .int .i64 kk9])) [w.heap.size] := apart_one fun q hq => by have h1 := (ownsP.ltb oz q hq).1; have h2 := X15.hi; omega
      have ap_R_oz : Apart (blkP (.agg #[.bool h8, .slice s8 t8 u8, .bool h9, .slice s9 t9 u9, .int .i64 kk9])) [w.heap.size + 1] := apart_one fun q hq => by have h1 := (ownsP.ltb oz q hq).1; have h2 := R15.hi; omega
      replace oz := ownsP_mono oz B15.size
      have B16 := B15.trans (bb16.mono B15.size)
      have X16 := X15.below bb16 (Nat.le_refl _)
      have R16 := R15.below bb16 (Nat.le_refl _)
      clear B15 X15 R15 bb16
      have oz16 := oz
      clear oz
      clear kC
      clear X16
      have c_R_0 := R16.c 0 _ rfl
      have f_R_0 := R16.f 0 _ rfl
      have c_R_1 := R16.c 1 _ rfl
      have f_R_1 := R16.f 1 _ rfl
      have c_R_2 := R16.c 2 _ rfl
      have f_R_2 := R16.f 2 _ rfl
      have c_R_3 := R16.c 3 _ rfl
      have f_R_3 := R16.f 3 _ rfl
      have c_R_4 := R16.c 4 _ rfl
      have f_R_4 := R16.f 4 _ rfl
      obtain ⟨w17, hw17⟩ : ∃ v, v = ((((w16.setCell ⟨w.heap.size + 1, 0, none⟩ (.bool h8)).setCell ⟨w.heap.size + 1, 1, none⟩ (.slice s8 t8 u8)).setCell ⟨w.heap.size + 1, 2, none⟩ (.bool h9)).setCell ⟨w.heap.size + 1, 3, none⟩ (.slice s9 t9 u9)).setCell ⟨w.heap.size + 1, 4, none⟩ (.int .i64 kk9) := ⟨_, rfl⟩
      have tn17 : Tn [w.heap.size + 1] w16 w17 := by rw [hw17]; exact (((((tnL w16 (w.heap.size + 1) 0 (.bool h8)).trans (tnL _ (w.heap.size + 1) 1 (.slice s8 t8 u8))).trans (tnL _ (w.heap.size + 1) 2 (.bool h9))).trans (tnL _ (w.heap.size + 1) 3 (.slice s9 t9 u9))).trans (tnL _ (w.heap.size + 1) 4 (.int .i64 kk9)))
      have R17 : BoxL w17 w.heap.size (w.heap.size + 1) [.bool h8, .slice s8 t8 u8, .bool h9, .slice s9 t9 u9, .int .i64 kk9] := by rw [hw17]; exact (((((R16.set 0 (.bool h8) (by simp)).set 1 (.slice s8 t8 u8) (by simp)).set 2 (.bool h9) (by simp)).set 3 (.slice s9 t9 u9) (by simp)).set 4 (.int .i64 kk9) (by simp))
      have blo17 := R16.lo
      have B17 := tn17.below B16 B16.size (fun q hq => by simp at hq; omega)
      have oz17 := ownsP.tn oz16 tn17 ap_R_oz
      clear B16 R16 oz16 tn17 blo17
      subst hw17
      go_wp2
      (try simp only [Exit.inBlock, Exit.then])
      refine bodyPost_ret (v := .tuple #[.agg #[.bool h8, .slice s8 t8 u8, .bool h9, .slice s9 t9 u9, .int .i64 kk9], .bool false]) ?_ rfl ⟨_, by rw [HR.out], by rw [HR.out]; exact oz17, B17⟩
      rw [results_cell_tmp rfl]
      go_simp

end Go.Proofs.Ytlpfjpbnedankaa
