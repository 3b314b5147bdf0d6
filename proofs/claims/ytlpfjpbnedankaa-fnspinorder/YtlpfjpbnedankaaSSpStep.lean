/- SpinStep of the specification, by its contract. -/
import Derived.Test.YtlpfjpbnedankaaSSpStep1
import Derived.Test.YtlpfjpbnedankaaSSpStep2
namespace Go.Proofs.Ytlpfjpbnedankaa
open Go.RowKit
set_option linter.unusedSimpArgs false
set_option linter.unusedVariables false

set_option maxRecDepth 20000 in
set_option maxHeartbeats 6400000 in
theorem sSpinStep (va : Value) (a : Ph) (i d : Int) (w : World) (ha : rowP w va a) (hl0 : a.1.1.2.length ≤ 1048576) (hl1 : a.1.2.2.length ≤ 1048576) :
    Calls Try.prog 19 #[va, .int .i64 i, .int .i64 d] w fun e w' => ∃ v, e = .returned (.tuple #[v, .bool (stepR a i d).2]) ∧ ownsP w' w.heap.size v (stepR a i d).1 ∧ Below w.heap.size w w' := by
  have kC := fun W (h : Below w.heap.size w W) => sCopyP va a W (ha.below h (Nat.le_refl _)) hl0 hl1
  have kA := fun W (h : Below w.heap.size w W) => sSpinOk va a W (ha.below h (Nat.le_refl _)) hl0 hl1
  have kI := fun W => inAt i 0 30 W
  by_cases c0 : okP a = true
  case neg =>
    have HR : Hid (stepR a i d = (a, false)) := by show _ = _; unfold stepR; rw [if_neg (fun h => c0 h.1)]
    obtain ⟨rr, hrr⟩ : ∃ r, stepR a i d = r := ⟨_, rfl⟩
    rw [hrr] at HR
    rw [hrr]
    clear hrr
    have hf : okP a = false := by simpa using c0
    rw [hf] at kA
    clear hf c0
    obtain ⟨gx, ax, nx, cx, gy, ay, ny, cy, eq⟩ := ha.cell
    subst eq
    clear ha hl0 hl1
    have B0_0 : Below w.heap.size w w := Below.refl _ _
    obtain ⟨ww1, hww1⟩ : ∃ v, v = w.alloc (.cells #[.bool gx, .slice ax nx cx, .bool gy, .slice ay ny cy, .int .i64 a.2] 34) := ⟨_, rfl⟩
    have sz1 : ww1.heap.size = w.heap.size + 1 := by rw [hww1]; simp
    have bw1 : Below w.heap.size w ww1 := by rw [hww1]; exact below1 _ _
    have B0_1 := B0_0.trans (bw1.mono B0_0.size)
    have X0_1 : BoxL ww1 w.heap.size w.heap.size [.bool gx, .slice ax nx cx, .bool gy, .slice ay ny cy, .int .i64 a.2] := by rw [hww1]; have h := BoxL.made w [.bool gx, .slice ax nx cx, .bool gy, .slice ay ny cy, .int .i64 a.2] 34; exact h
    obtain ⟨ww2, hww2⟩ : ∃ v, v = ww1.alloc (.cells #[.bool false, .slice none 0 0, .bool false, .slice none 0 0, .int .i64 0] 34) := ⟨_, rfl⟩
    have sz2 : ww2.heap.size = w.heap.size + 1 + 1 := by rw [hww2]; simp [sz1]
    have bw2 : Below ww1.heap.size ww1 ww2 := by rw [hww2]; exact below1 _ _
    have B0_2 := B0_1.trans (bw2.mono B0_1.size)
    have X0_2 := X0_1.below bw2 (Nat.le_refl _)
    have R0_2 : BoxL ww2 (w.heap.size + 1) (w.heap.size + 1) [.bool false, .slice none 0 0, .bool false, .slice none 0 0, .int .i64 0] := by rw [hww2]; have h := BoxL.made ww1 [.bool false, .slice none 0 0, .bool false, .slice none 0 0, .int .i64 0] 34; rw [sz1] at h; exact h
    have X0 := X0_2
    have R0 := R0_2.mono (by omega : w.heap.size ≤ w.heap.size + 1)
    have B0 := B0_2
    clear B0_0 B0_1 B0_2 bw1 bw2 X0_1 X0_2 R0_2
    go_enter Try.func19, Try.ntmps19
    go_wp2_with fail
    have hvv : (w.alloc (.cells #[.bool gx, .slice ax nx cx, .bool gy, .slice ay ny cy, .int .i64 a.2] 34)).alloc (.cells #[.bool false, .slice none 0 0, .bool false, .slice none 0 0, .int .i64 0] 34) = ww2 := by rw [hww2]; rw [hww1]
    rw [hvv]
    clear hvv hww1 hww2 sz1
    clear ww1
    have hz0 : w.heap.size + 2 ≤ ww2.heap.size := by omega
    clear sz2
    refine (kA _ B0).mono ?_
    rintro e w1 ⟨rfl, bb1⟩
    have B1 := B0.trans (bb1.mono B0.size)
    have X1 := X0.below bb1 (Nat.le_refl _)
    have R1 := R0.below bb1 (Nat.le_refl _)
    clear B0 X0 R0 bb1
    clear kA kI
    have c_X_0 := X1.c 0 _ rfl
    have c_X_1 := X1.c 1 _ rfl
    have c_X_2 := X1.c 2 _ rfl
    have c_X_3 := X1.c 3 _ rfl
    have c_X_4 := X1.c 4 _ rfl
    go_wp2_with fail
    refine (kC _ B1).mono ?_
    rintro e w2 ⟨v, rfl, oz, bb2⟩
    clear c_X_0 c_X_1 c_X_2 c_X_3 c_X_4
    obtain ⟨h8, s8, t8, u8, h9, s9, t9, u9, eqz⟩ := oz.cell
    subst eqz
    generalize hkz : a.2 = kk9 at *
    replace hkz : Hid (a.2 = kk9) := hkz
    have ap_X_oz : Apart (blkP (.agg #[.bool h8, .slice s8 t8 u8, .bool h9, .slice s9 t9 u9, .int .i64 kk9])) [w.heap.size] := apart_one fun q hq => by have h1 := (ownsP.ltb oz q hq).1; have h2 := X1.hi; omega
    have ap_R_oz : Apart (blkP (.agg #[.bool h8, .slice s8 t8 u8, .bool h9, .slice s9 t9 u9, .int .i64 kk9])) [w.heap.size + 1] := apart_one fun q hq => by have h1 := (ownsP.ltb oz q hq).1; have h2 := R1.hi; omega
    replace oz := ownsP_mono oz B1.size
    have B2 := B1.trans (bb2.mono B1.size)
    have X2 := X1.below bb2 (Nat.le_refl _)
    have R2 := R1.below bb2 (Nat.le_refl _)
    clear B1 X1 R1 bb2
    have oz2 := oz
    clear oz
    clear kC
    clear X2
    have c_R_0 := R2.c 0 _ rfl
    have f_R_0 := R2.f 0 _ rfl
    have c_R_1 := R2.c 1 _ rfl
    have f_R_1 := R2.f 1 _ rfl
    have c_R_2 := R2.c 2 _ rfl
    have f_R_2 := R2.f 2 _ rfl
    have c_R_3 := R2.c 3 _ rfl
    have f_R_3 := R2.f 3 _ rfl
    have c_R_4 := R2.c 4 _ rfl
    have f_R_4 := R2.f 4 _ rfl
    obtain ⟨w3, hw3⟩ : ∃ v, v = ((((w2.setCell ⟨w.heap.size + 1, 0, none⟩ (.bool h8)).setCell ⟨w.heap.size + 1, 1, none⟩ (.slice s8 t8 u8)).setCell ⟨w.heap.size + 1, 2, none⟩ (.bool h9)).setCell ⟨w.heap.size + 1, 3, none⟩ (.slice s9 t9 u9)).setCell ⟨w.heap.size + 1, 4, none⟩ (.int .i64 kk9) := ⟨_, rfl⟩
    have tn3 : Tn [w.heap.size + 1] w2 w3 := by rw [hw3]; exact (((((tnL w2 (w.heap.size + 1) 0 (.bool h8)).trans (tnL _ (w.heap.size + 1) 1 (.slice s8 t8 u8))).trans (tnL _ (w.heap.size + 1) 2 (.bool h9))).trans (tnL _ (w.heap.size + 1) 3 (.slice s9 t9 u9))).trans (tnL _ (w.heap.size + 1) 4 (.int .i64 kk9)))
    have R3 : BoxL w3 w.heap.size (w.heap.size + 1) [.bool h8, .slice s8 t8 u8, .bool h9, .slice s9 t9 u9, .int .i64 kk9] := by rw [hw3]; exact (((((R2.set 0 (.bool h8) (by simp)).set 1 (.slice s8 t8 u8) (by simp)).set 2 (.bool h9) (by simp)).set 3 (.slice s9 t9 u9) (by simp)).set 4 (.int .i64 kk9) (by simp))
    have blo3 := R2.lo
    have B3 := tn3.below B2 B2.size (fun q hq => by simp at hq; omega)
    have oz3 := ownsP.tn oz2 tn3 ap_R_oz
    clear B2 R2 oz2 tn3 blo3
    subst hw3
    go_wp2
    (try simp only [Exit.inBlock, Exit.then])
    refine bodyPost_ret (v := .tuple #[.agg #[.bool h8, .slice s8 t8 u8, .bool h9, .slice s9 t9 u9, .int .i64 kk9], .bool false]) ?_ rfl ⟨_, by rw [HR.out], by rw [HR.out]; exact oz3, B3⟩
    rw [results_cell_tmp rfl]
    go_simp
  rw [c0] at kA
  by_cases c1 : 0 ≤ i ∧ i ≤ 30
  case neg =>
    have HR : Hid (stepR a i d = (a, false)) := by show _ = _; unfold stepR; rw [if_neg (fun h => c1 h.2.1)]
    obtain ⟨rr, hrr⟩ : ∃ r, stepR a i d = r := ⟨_, rfl⟩
    rw [hrr] at HR
    rw [hrr]
    clear hrr
    have kI := fun W => inAt_b i 0 30 W
    rw [decide_eq_false c1] at kI
    obtain ⟨gx, ax, nx, cx, gy, ay, ny, cy, eq⟩ := ha.cell
    subst eq
    clear ha hl0 hl1 c0 c1
    have B0_0 : Below w.heap.size w w := Below.refl _ _
    obtain ⟨ww1, hww1⟩ : ∃ v, v = w.alloc (.cells #[.bool gx, .slice ax nx cx, .bool gy, .slice ay ny cy, .int .i64 a.2] 34) := ⟨_, rfl⟩
    have sz1 : ww1.heap.size = w.heap.size + 1 := by rw [hww1]; simp
    have bw1 : Below w.heap.size w ww1 := by rw [hww1]; exact below1 _ _
    have B0_1 := B0_0.trans (bw1.mono B0_0.size)
    have X0_1 : BoxL ww1 w.heap.size w.heap.size [.bool gx, .slice ax nx cx, .bool gy, .slice ay ny cy, .int .i64 a.2] := by rw [hww1]; have h := BoxL.made w [.bool gx, .slice ax nx cx, .bool gy, .slice ay ny cy, .int .i64 a.2] 34; exact h
    obtain ⟨ww2, hww2⟩ : ∃ v, v = ww1.alloc (.cells #[.bool false, .slice none 0 0, .bool false, .slice none 0 0, .int .i64 0] 34) := ⟨_, rfl⟩
    have sz2 : ww2.heap.size = w.heap.size + 1 + 1 := by rw [hww2]; simp [sz1]
    have bw2 : Below ww1.heap.size ww1 ww2 := by rw [hww2]; exact below1 _ _
    have B0_2 := B0_1.trans (bw2.mono B0_1.size)
    have X0_2 := X0_1.below bw2 (Nat.le_refl _)
    have R0_2 : BoxL ww2 (w.heap.size + 1) (w.heap.size + 1) [.bool false, .slice none 0 0, .bool false, .slice none 0 0, .int .i64 0] := by rw [hww2]; have h := BoxL.made ww1 [.bool false, .slice none 0 0, .bool false, .slice none 0 0, .int .i64 0] 34; rw [sz1] at h; exact h
    have X0 := X0_2
    have R0 := R0_2.mono (by omega : w.heap.size ≤ w.heap.size + 1)
    have B0 := B0_2
    clear B0_0 B0_1 B0_2 bw1 bw2 X0_1 X0_2 R0_2
    go_enter Try.func19, Try.ntmps19
    go_wp2_with fail
    have hvv : (w.alloc (.cells #[.bool gx, .slice ax nx cx, .bool gy, .slice ay ny cy, .int .i64 a.2] 34)).alloc (.cells #[.bool false, .slice none 0 0, .bool false, .slice none 0 0, .int .i64 0] 34) = ww2 := by rw [hww2]; rw [hww1]
    rw [hvv]
    clear hvv hww1 hww2 sz1
    clear ww1
    have hz0 : w.heap.size + 2 ≤ ww2.heap.size := by omega
    clear sz2
    refine (kA _ B0).mono ?_
    rintro e w1 ⟨rfl, bb1⟩
    have B1 := B0.trans (bb1.mono B0.size)
    have X1 := X0.below bb1 (Nat.le_refl _)
    have R1 := R0.below bb1 (Nat.le_refl _)
    clear B0 X0 R0 bb1
    have c_X_0 := X1.c 0 _ rfl
    have c_X_1 := X1.c 1 _ rfl
    have c_X_2 := X1.c 2 _ rfl
    have c_X_3 := X1.c 3 _ rfl
    have c_X_4 := X1.c 4 _ rfl
    go_wp2_with fail
    refine (kI _).mono ?_
    rintro e w2 ⟨rfl, bb2⟩
    clear c_X_0 c_X_1 c_X_2 c_X_3 c_X_4
    have B2 := B1.trans (bb2.mono B1.size)
    have X2 := X1.below bb2 (Nat.le_refl _)
    have R2 := R1.below bb2 (Nat.le_refl _)
    clear B1 X1 R1 bb2
    clear kA kI
    have c_X_0 := X2.c 0 _ rfl
    have c_X_1 := X2.c 1 _ rfl
    have c_X_2 := X2.c 2 _ rfl
    have c_X_3 := X2.c 3 _ rfl
    have c_X_4 := X2.c 4 _ rfl
    go_wp2_with fail
    refine (kC _ B2).mono ?_
    rintro e w3 ⟨v, rfl, oz, bb3⟩
    clear c_X_0 c_X_1 c_X_2 c_X_3 c_X_4
    obtain ⟨h8, s8, t8, u8, h9, s9, t9, u9, eqz⟩ := oz.cell
    subst eqz
    generalize hkz : a.2 = kk9 at *
    replace hkz : Hid (a.2 = kk9) := hkz
    have ap_X_oz : Apart (blkP (.agg #[.bool h8, .slice s8 t8 u8, .bool h9, .slice s9 t9 u9, .int .i64 kk9])) [w.heap.size] := apart_one fun q hq => by have h1 := (ownsP.ltb oz q hq).1; have h2 := X2.hi; omega
    have ap_R_oz : Apart (blkP (.agg #[.bool h8, .slice s8 t8 u8, .bool h9, .slice s9 t9 u9, .int .i64 kk9])) [w.heap.size + 1] := apart_one fun q hq => by have h1 := (ownsP.ltb oz q hq).1; have h2 := R2.hi; omega
    replace oz := ownsP_mono oz B2.size
    have B3 := B2.trans (bb3.mono B2.size)
    have X3 := X2.below bb3 (Nat.le_refl _)
    have R3 := R2.below bb3 (Nat.le_refl _)
    clear B2 X2 R2 bb3
    have oz3 := oz
    clear oz
    clear kC
    clear X3
    have c_R_0 := R3.c 0 _ rfl
    have f_R_0 := R3.f 0 _ rfl
    have c_R_1 := R3.c 1 _ rfl
    have f_R_1 := R3.f 1 _ rfl
    have c_R_2 := R3.c 2 _ rfl
    have f_R_2 := R3.f 2 _ rfl
    have c_R_3 := R3.c 3 _ rfl
    have f_R_3 := R3.f 3 _ rfl
    have c_R_4 := R3.c 4 _ rfl
    have f_R_4 := R3.f 4 _ rfl
    obtain ⟨w4, hw4⟩ : ∃ v, v = ((((w3.setCell ⟨w.heap.size + 1, 0, none⟩ (.bool h8)).setCell ⟨w.heap.size + 1, 1, none⟩ (.slice s8 t8 u8)).setCell ⟨w.heap.size + 1, 2, none⟩ (.bool h9)).setCell ⟨w.heap.size + 1, 3, none⟩ (.slice s9 t9 u9)).setCell ⟨w.heap.size + 1, 4, none⟩ (.int .i64 kk9) := ⟨_, rfl⟩
    have tn4 : Tn [w.heap.size + 1] w3 w4 := by rw [hw4]; exact (((((tnL w3 (w.heap.size + 1) 0 (.bool h8)).trans (tnL _ (w.heap.size + 1) 1 (.slice s8 t8 u8))).trans (tnL _ (w.heap.size + 1) 2 (.bool h9))).trans (tnL _ (w.heap.size + 1) 3 (.slice s9 t9 u9))).trans (tnL _ (w.heap.size + 1) 4 (.int .i64 kk9)))
    have R4 : BoxL w4 w.heap.size (w.heap.size + 1) [.bool h8, .slice s8 t8 u8, .bool h9, .slice s9 t9 u9, .int .i64 kk9] := by rw [hw4]; exact (((((R3.set 0 (.bool h8) (by simp)).set 1 (.slice s8 t8 u8) (by simp)).set 2 (.bool h9) (by simp)).set 3 (.slice s9 t9 u9) (by simp)).set 4 (.int .i64 kk9) (by simp))
    have blo4 := R3.lo
    have B4 := tn4.below B3 B3.size (fun q hq => by simp at hq; omega)
    have oz4 := ownsP.tn oz3 tn4 ap_R_oz
    clear B3 R3 oz3 tn4 blo4
    subst hw4
    go_wp2
    (try simp only [Exit.inBlock, Exit.then])
    refine bodyPost_ret (v := .tuple #[.agg #[.bool h8, .slice s8 t8 u8, .bool h9, .slice s9 t9 u9, .int .i64 kk9], .bool false]) ?_ rfl ⟨_, by rw [HR.out], by rw [HR.out]; exact oz4, B4⟩
    rw [results_cell_tmp rfl]
    go_simp
  have kI := fun W => inAt_b i 0 30 W
  rw [decide_eq_true c1] at kI
  by_cases c2 : d = 1 ∨ d = -1
  case neg =>
    have HR : Hid (stepR a i d = (a, false)) := by show _ = _; unfold stepR; rw [if_neg (fun h => c2 h.2.2.1)]
    obtain ⟨rr, hrr⟩ : ∃ r, stepR a i d = r := ⟨_, rfl⟩
    rw [hrr] at HR
    rw [hrr]
    clear hrr
    have n1 : ¬ d = 1 := by omega
    have n2 : ¬ d = -1 := by omega
    have d1 : (d != 1) = true := by simpa using n1
    have d2 : (d != -1) = true := by simpa using n2
    obtain ⟨gx, ax, nx, cx, gy, ay, ny, cy, eq⟩ := ha.cell
    subst eq
    clear ha hl0 hl1 c0 c1 c2
    have B0_0 : Below w.heap.size w w := Below.refl _ _
    obtain ⟨ww1, hww1⟩ : ∃ v, v = w.alloc (.cells #[.bool gx, .slice ax nx cx, .bool gy, .slice ay ny cy, .int .i64 a.2] 34) := ⟨_, rfl⟩
    have sz1 : ww1.heap.size = w.heap.size + 1 := by rw [hww1]; simp
    have bw1 : Below w.heap.size w ww1 := by rw [hww1]; exact below1 _ _
    have B0_1 := B0_0.trans (bw1.mono B0_0.size)
    have X0_1 : BoxL ww1 w.heap.size w.heap.size [.bool gx, .slice ax nx cx, .bool gy, .slice ay ny cy, .int .i64 a.2] := by rw [hww1]; have h := BoxL.made w [.bool gx, .slice ax nx cx, .bool gy, .slice ay ny cy, .int .i64 a.2] 34; exact h
    obtain ⟨ww2, hww2⟩ : ∃ v, v = ww1.alloc (.cells #[.bool false, .slice none 0 0, .bool false, .slice none 0 0, .int .i64 0] 34) := ⟨_, rfl⟩
    have sz2 : ww2.heap.size = w.heap.size + 1 + 1 := by rw [hww2]; simp [sz1]
    have bw2 : Below ww1.heap.size ww1 ww2 := by rw [hww2]; exact below1 _ _
    have B0_2 := B0_1.trans (bw2.mono B0_1.size)
    have X0_2 := X0_1.below bw2 (Nat.le_refl _)
    have R0_2 : BoxL ww2 (w.heap.size + 1) (w.heap.size + 1) [.bool false, .slice none 0 0, .bool false, .slice none 0 0, .int .i64 0] := by rw [hww2]; have h := BoxL.made ww1 [.bool false, .slice none 0 0, .bool false, .slice none 0 0, .int .i64 0] 34; rw [sz1] at h; exact h
    have X0 := X0_2
    have R0 := R0_2.mono (by omega : w.heap.size ≤ w.heap.size + 1)
    have B0 := B0_2
    clear B0_0 B0_1 B0_2 bw1 bw2 X0_1 X0_2 R0_2
    go_enter Try.func19, Try.ntmps19
    go_wp2_with fail
    have hvv : (w.alloc (.cells #[.bool gx, .slice ax nx cx, .bool gy, .slice ay ny cy, .int .i64 a.2] 34)).alloc (.cells #[.bool false, .slice none 0 0, .bool false, .slice none 0 0, .int .i64 0] 34) = ww2 := by rw [hww2]; rw [hww1]
    rw [hvv]
    clear hvv hww1 hww2 sz1
    clear ww1
    have hz0 : w.heap.size + 2 ≤ ww2.heap.size := by omega
    clear sz2
    refine (kA _ B0).mono ?_
    rintro e w1 ⟨rfl, bb1⟩
    have B1 := B0.trans (bb1.mono B0.size)
    have X1 := X0.below bb1 (Nat.le_refl _)
    have R1 := R0.below bb1 (Nat.le_refl _)
    clear B0 X0 R0 bb1
    have c_X_0 := X1.c 0 _ rfl
    have c_X_1 := X1.c 1 _ rfl
    have c_X_2 := X1.c 2 _ rfl
    have c_X_3 := X1.c 3 _ rfl
    have c_X_4 := X1.c 4 _ rfl
    go_wp2_with fail
    refine (kI _).mono ?_
    rintro e w2 ⟨rfl, bb2⟩
    clear c_X_0 c_X_1 c_X_2 c_X_3 c_X_4
    have B2 := B1.trans (bb2.mono B1.size)
    have X2 := X1.below bb2 (Nat.le_refl _)
    have R2 := R1.below bb2 (Nat.le_refl _)
    clear B1 X1 R1 bb2
    clear kA kI
    have c_X_0 := X2.c 0 _ rfl
    have c_X_1 := X2.c 1 _ rfl
    have c_X_2 := X2.c 2 _ rfl
    have c_X_3 := X2.c 3 _ rfl
    have c_X_4 := X2.c 4 _ rfl
    go_wp2_with fail
    refine (kC _ B2).mono ?_
    rintro e w3 ⟨v, rfl, oz, bb3⟩
    clear c_X_0 c_X_1 c_X_2 c_X_3 c_X_4
    obtain ⟨h8, s8, t8, u8, h9, s9, t9, u9, eqz⟩ := oz.cell
    subst eqz
    generalize hkz : a.2 = kk9 at *
    replace hkz : Hid (a.2 = kk9) := hkz
    have ap_X_oz : Apart (blkP (.agg #[.bool h8, .slice s8 t8 u8, .bool h9, .slice s9 t9 u9, .int .i64 kk9])) [w.heap.size] := apart_one fun q hq => by have h1 := (ownsP.ltb oz q hq).1; have h2 := X2.hi; omega
    have ap_R_oz : Apart (blkP (.agg #[.bool h8, .slice s8 t8 u8, .bool h9, .slice s9 t9 u9, .int .i64 kk9])) [w.heap.size + 1] := apart_one fun q hq => by have h1 := (ownsP.ltb oz q hq).1; have h2 := R2.hi; omega
    replace oz := ownsP_mono oz B2.size
    have B3 := B2.trans (bb3.mono B2.size)
    have X3 := X2.below bb3 (Nat.le_refl _)
    have R3 := R2.below bb3 (Nat.le_refl _)
    clear B2 X2 R2 bb3
    have oz3 := oz
    clear oz
    clear kC
    clear X3
    have c_R_0 := R3.c 0 _ rfl
    have f_R_0 := R3.f 0 _ rfl
    have c_R_1 := R3.c 1 _ rfl
    have f_R_1 := R3.f 1 _ rfl
    have c_R_2 := R3.c 2 _ rfl
    have f_R_2 := R3.f 2 _ rfl
    have c_R_3 := R3.c 3 _ rfl
    have f_R_3 := R3.f 3 _ rfl
    have c_R_4 := R3.c 4 _ rfl
    have f_R_4 := R3.f 4 _ rfl
    obtain ⟨w4, hw4⟩ : ∃ v, v = ((((w3.setCell ⟨w.heap.size + 1, 0, none⟩ (.bool h8)).setCell ⟨w.heap.size + 1, 1, none⟩ (.slice s8 t8 u8)).setCell ⟨w.heap.size + 1, 2, none⟩ (.bool h9)).setCell ⟨w.heap.size + 1, 3, none⟩ (.slice s9 t9 u9)).setCell ⟨w.heap.size + 1, 4, none⟩ (.int .i64 kk9) := ⟨_, rfl⟩
    have tn4 : Tn [w.heap.size + 1] w3 w4 := by rw [hw4]; exact (((((tnL w3 (w.heap.size + 1) 0 (.bool h8)).trans (tnL _ (w.heap.size + 1) 1 (.slice s8 t8 u8))).trans (tnL _ (w.heap.size + 1) 2 (.bool h9))).trans (tnL _ (w.heap.size + 1) 3 (.slice s9 t9 u9))).trans (tnL _ (w.heap.size + 1) 4 (.int .i64 kk9)))
    have R4 : BoxL w4 w.heap.size (w.heap.size + 1) [.bool h8, .slice s8 t8 u8, .bool h9, .slice s9 t9 u9, .int .i64 kk9] := by rw [hw4]; exact (((((R3.set 0 (.bool h8) (by simp)).set 1 (.slice s8 t8 u8) (by simp)).set 2 (.bool h9) (by simp)).set 3 (.slice s9 t9 u9) (by simp)).set 4 (.int .i64 kk9) (by simp))
    have blo4 := R3.lo
    have B4 := tn4.below B3 B3.size (fun q hq => by simp at hq; omega)
    have oz4 := ownsP.tn oz3 tn4 ap_R_oz
    clear B3 R3 oz3 tn4 blo4
    subst hw4
    go_wp2
    (try simp only [Exit.inBlock, Exit.then])
    refine bodyPost_ret (v := .tuple #[.agg #[.bool h8, .slice s8 t8 u8, .bool h9, .slice s9 t9 u9, .int .i64 kk9], .bool false]) ?_ rfl ⟨_, by rw [HR.out], by rw [HR.out]; exact oz4, B4⟩
    rw [results_cell_tmp rfl]
    go_simp
  obtain ⟨k, rfl⟩ : ∃ k : Nat, i = (k : Int) := ⟨i.toNat, by omega⟩
  rcases c2 with rfl | rfl
  · exact sSpStep1 va a k w ha hl0 hl1 c0 c1
  · exact sSpStep2 va a k w ha hl0 hl1 c0 c1

end Go.Proofs.Ytlpfjpbnedankaa
