/- SpinStep of the program, by its contract. -/
import Derived.Test.YtlpfjpbnedankaaSpStepM
import Derived.Test.YtlpfjpbnedankaaPCopy
import Derived.Test.YtlpfjpbnedankaaSpTurn
import Derived.Test.YtlpfjpbnedankaaFB
namespace Go.Proofs.Ytlpfjpbnedankaa
open Go.RowKit
set_option linter.unusedSimpArgs false
set_option linter.unusedVariables false

theorem okW_mkI (z : Int) : okW (mkW z) = (fitW z).2 := by
  unfold fitW
  by_cases h : (limbs z.natAbs).length ≤ 48
  · rw [if_pos h, okW_iff]
    refine ⟨okL_limbs h, fun hn => ?_⟩
    have hz : z < 0 := by simpa [mkW] using hn
    show 0 < (limbs z.natAbs).length
    rw [limbs_pos _ (by omega)]
    simp
  · rw [if_neg h]
    cases e : okW (mkW z)
    · rfl
    · exfalso
      have h2 : okB (mkW z).2 = true := by unfold okW at e; simp at e; exact e.1
      unfold okB at h2
      simp at h2
      exact h h2.1.1
theorem fitW_of {z : Int} (h : (fitW z).2 = true) : (fitW z).1 = mkW z := by
  unfold fitW at h ⊢
  split at h
  · rename_i q; rw [if_pos q]
  · cases h
/-- The program's answer is the specification's: what fits is right. -/
theorem spinF_ok (x y kk : Int) : (okP ((mkW x, mkW y), kk) = true ∧ spinF x y kk = (((mkW x, mkW y), kk), true)) ∨ (okP ((mkW x, mkW y), kk) = false ∧ (spinF x y kk).2 = false) := by
  unfold spinF
  by_cases h : (fitW x).2 = true ∧ (fitW y).2 = true ∧ 0 ≤ kk ∧ kk ≤ 2000
  · rw [if_pos h]
    obtain ⟨h1, h2, h3, h4⟩ := h
    refine .inl ⟨?_, ?_⟩
    · unfold okP
      rw [okW_mkI, okW_mkI, h1, h2]
      simp [h3, h4]
    · rw [fitW_of h1, fitW_of h2]
  · rw [if_neg h]
    refine .inr ⟨?_, rfl⟩
    unfold okP
    rw [okW_mkI, okW_mkI]
    cases h1 : (fitW x).2
    · simp
    · cases h2 : (fitW y).2
      · simp
      · have h3 : ¬ (0 ≤ kk ∧ kk ≤ 2000) := fun q => h ⟨h1, h2, q.1, q.2⟩
        simp
        omega
set_option maxRecDepth 20000 in
set_option maxHeartbeats 6400000 in
theorem iSpinStep (va : Value) (a : Ph) (i d : Int) (w : World) (ha : rowP w va a) (hl0 : a.1.1.2.length ≤ 1048576) (hl1 : a.1.2.2.length ≤ 1048576) :
    Calls Try.prog 18 #[va, .int .i64 i, .int .i64 d] w fun e w' => ∃ v, e = .returned (.tuple #[v, .bool (stepR a i d).2]) ∧ ownsP w' w.heap.size v (stepR a i d).1 ∧ Below w.heap.size w w' := by
  have kC := fun W (h : Below w.heap.size w W) => iCopyP va a W (ha.below h (Nat.le_refl _)) hl0 hl1
  have kA := fun W (h : Below w.heap.size w W) => spinFrom_b va a W (ha.below h (Nat.le_refl _)) hl0 hl1
  by_cases c0 : okP a = true
  case neg =>
    have HR : Hid (stepR a i d = (a, false)) := by show _ = _; unfold stepR; rw [if_neg (fun h => c0 h.1)]
    obtain ⟨rr, hrr⟩ : ∃ r, stepR a i d = r := ⟨_, rfl⟩
    rw [hrr] at HR
    rw [hrr]
    clear hrr
    have hf : okP a = false := by simpa using c0
    rw [hf] at kA
    clear hf c0
    obtain ⟨gx, ax, nx, cx, gy, ay, ny, cy, eq⟩ := ha.cell
    subst eq
    clear ha hl0 hl1
    have B0_0 : Below w.heap.size w w := Below.refl _ _
    obtain ⟨ww1, hww1⟩ : ∃ v, v = w.alloc (.cells #[.bool gx, .slice ax nx cx, .bool gy, .slice ay ny cy, .int .i64 a.2] 34) := ⟨_, rfl⟩
    have sz1 : ww1.heap.size = w.heap.size + 1 := by rw [hww1]; simp
    have bw1 : Below w.heap.size w ww1 := by rw [hww1]; exact below1 _ _
    have B0_1 := B0_0.trans (bw1.mono B0_0.size)
    have X0_1 : BoxL ww1 w.heap.size w.heap.size [.bool gx, .slice ax nx cx, .bool gy, .slice ay ny cy, .int .i64 a.2] := by rw [hww1]; have h := BoxL.made w [.bool gx, .slice ax nx cx, .bool gy, .slice ay ny cy, .int .i64 a.2] 34; exact h
    obtain ⟨ww2, hww2⟩ : ∃ v, v = ww1.alloc (.cells #[.bool false, .slice none 0 0, .bool false, .slice none 0 0, .int .i64 0] 34) := ⟨_, rfl⟩
    have sz2 : ww2.heap.size = w.heap.size + 1 + 1 := by rw [hww2]; simp [sz1]
    have bw2 : Below ww1.heap.size ww1 ww2 := by rw [hww2]; exact below1 _ _
    have B0_2 := B0_1.trans (bw2.mono B0_1.size)
    have X0_2 := X0_1.below bw2 (Nat.le_refl _)
    have R0_2 : BoxL ww2 (w.heap.size + 1) (w.heap.size + 1) [.bool false, .slice none 0 0, .bool false, .slice none 0 0, .int .i64 0] := by rw [hww2]; have h := BoxL.made ww1 [.bool false, .slice none 0 0, .bool false, .slice none 0 0, .int .i64 0] 34; rw [sz1] at h; exact h
    have X0 := X0_2
    have R0 := R0_2.mono (by omega : w.heap.size ≤ w.heap.size + 1)
    have B0 := B0_2
    clear B0_0 B0_1 B0_2 bw1 bw2 X0_1 X0_2 R0_2
    go_enter Try.func18, Try.ntmps18
    go_wp2_with fail
    have hvv : (w.alloc (.cells #[.bool gx, .slice ax nx cx, .bool gy, .slice ay ny cy, .int .i64 a.2] 34)).alloc (.cells #[.bool false, .slice none 0 0, .bool false, .slice none 0 0, .int .i64 0] 34) = ww2 := by rw [hww2]; rw [hww1]
    rw [hvv]
    clear hvv hww1 hww2 sz1
    clear ww1
    have hz0 : w.heap.size + 2 ≤ ww2.heap.size := by omega
    clear sz2
    refine (kA _ B0).mono ?_
    rintro e w1 ⟨ox, oy, rfl, bb1, hXY⟩
    have B1 := B0.trans (bb1.mono B0.size)
    have X1 := X0.below bb1 (Nat.le_refl _)
    have R1 := R0.below bb1 (Nat.le_refl _)
    clear B0 X0 R0 bb1
    clear hXY
    clear kA
    obtain ⟨w2, hw2⟩ : ∃ v, Hid (v = w1.alloc (.cells #[.pointer ox, .pointer oy, .int .i64 a.2] 65)) := ⟨_, rfl⟩
    have bb2 : Below w1.heap.size w1 w2 := by rw [hw2.out]; exact below1 _ _
    obtain ⟨qb2, hq2⟩ : ∃ v, Hid (v = w1.heap.size) := ⟨_, rfl⟩
    have F2 : BoxL w2 w.heap.size qb2 [.pointer ox, .pointer oy, .int .i64 a.2] := by rw [hw2.out, hq2.out]; exact (BoxL.made w1 [.pointer ox, .pointer oy, .int .i64 a.2] 65).mono B1.size
    have B2 := B1.trans (bb2.mono B1.size)
    have X2 := X1.below bb2 (Nat.le_refl _)
    have R2 := R1.below bb2 (Nat.le_refl _)
    have lt_X_F : w.heap.size < qb2 := by rw [hq2.out]; exact X1.hi
    have lt_R_F : w.heap.size + 1 < qb2 := by rw [hq2.out]; exact R1.hi
    clear B1 X1 R1 bb2
    have c_X_0 := X2.c 0 _ rfl
    have c_X_1 := X2.c 1 _ rfl
    have c_X_2 := X2.c 2 _ rfl
    have c_X_3 := X2.c 3 _ rfl
    have c_X_4 := X2.c 4 _ rfl
    rw [hw2.out] at c_X_0
    rw [hw2.out] at c_X_1
    rw [hw2.out] at c_X_2
    rw [hw2.out] at c_X_3
    rw [hw2.out] at c_X_4
    go_wp2_with fail
    rw [← hw2.out]
    (try rw [← hq2.out])
    clear c_X_0 c_X_1 c_X_2 c_X_3 c_X_4
    clear hw2 hq2
    refine (kC _ B2).mono ?_
    rintro e w3 ⟨v, rfl, oz, bb3⟩
    obtain ⟨h8, s8, t8, u8, h9, s9, t9, u9, eqz⟩ := oz.cell
    subst eqz
    generalize hkz : a.2 = kk9 at *
    replace hkz : Hid (a.2 = kk9) := hkz
    have ap_X_oz : Apart (blkP (.agg #[.bool h8, .slice s8 t8 u8, .bool h9, .slice s9 t9 u9, .int .i64 kk9])) [w.heap.size] := apart_one fun q hq => by have h1 := (ownsP.ltb oz q hq).1; have h2 := X2.hi; omega
    have ap_R_oz : Apart (blkP (.agg #[.bool h8, .slice s8 t8 u8, .bool h9, .slice s9 t9 u9, .int .i64 kk9])) [w.heap.size + 1] := apart_one fun q hq => by have h1 := (ownsP.ltb oz q hq).1; have h2 := R2.hi; omega
    have ap_F_oz : Apart (blkP (.agg #[.bool h8, .slice s8 t8 u8, .bool h9, .slice s9 t9 u9, .int .i64 kk9])) [qb2] := apart_one fun q hq => by have h1 := (ownsP.ltb oz q hq).1; have h2 := F2.hi; omega
    replace oz := ownsP_mono oz B2.size
    have B3 := B2.trans (bb3.mono B2.size)
    have X3 := X2.below bb3 (Nat.le_refl _)
    have R3 := R2.below bb3 (Nat.le_refl _)
    have F3 := F2.below bb3 (Nat.le_refl _)
    clear B2 X2 R2 F2 bb3
    have oz3 := oz
    clear oz
    clear kC
    clear X3
    have c_R_0 := R3.c 0 _ rfl
    have f_R_0 := R3.f 0 _ rfl
    have c_R_1 := R3.c 1 _ rfl
    have f_R_1 := R3.f 1 _ rfl
    have c_R_2 := R3.c 2 _ rfl
    have f_R_2 := R3.f 2 _ rfl
    have c_R_3 := R3.c 3 _ rfl
    have f_R_3 := R3.f 3 _ rfl
    have c_R_4 := R3.c 4 _ rfl
    have f_R_4 := R3.f 4 _ rfl
    obtain ⟨w4, hw4⟩ : ∃ v, v = ((((w3.setCell ⟨w.heap.size + 1, 0, none⟩ (.bool h8)).setCell ⟨w.heap.size + 1, 1, none⟩ (.slice s8 t8 u8)).setCell ⟨w.heap.size + 1, 2, none⟩ (.bool h9)).setCell ⟨w.heap.size + 1, 3, none⟩ (.slice s9 t9 u9)).setCell ⟨w.heap.size + 1, 4, none⟩ (.int .i64 kk9) := ⟨_, rfl⟩
    have tn4 : Tn [w.heap.size + 1] w3 w4 := by rw [hw4]; exact (((((tnL w3 (w.heap.size + 1) 0 (.bool h8)).trans (tnL _ (w.heap.size + 1) 1 (.slice s8 t8 u8))).trans (tnL _ (w.heap.size + 1) 2 (.bool h9))).trans (tnL _ (w.heap.size + 1) 3 (.slice s9 t9 u9))).trans (tnL _ (w.heap.size + 1) 4 (.int .i64 kk9)))
    have R4 : BoxL w4 w.heap.size (w.heap.size + 1) [.bool h8, .slice s8 t8 u8, .bool h9, .slice s9 t9 u9, .int .i64 kk9] := by rw [hw4]; exact (((((R3.set 0 (.bool h8) (by simp)).set 1 (.slice s8 t8 u8) (by simp)).set 2 (.bool h9) (by simp)).set 3 (.slice s9 t9 u9) (by simp)).set 4 (.int .i64 kk9) (by simp))
    have blo4 := R3.lo
    have B4 := tn4.below B3 B3.size (fun q hq => by simp at hq; omega)
    have F4 := F3.tn tn4 (not_one (by omega))
    have oz4 := ownsP.tn oz3 tn4 ap_R_oz
    clear B3 R3 F3 oz3 tn4 blo4
    subst hw4
    go_wp2
    (try simp only [Exit.inBlock, Exit.then])
    refine bodyPost_ret (v := .tuple #[.agg #[.bool h8, .slice s8 t8 u8, .bool h9, .slice s9 t9 u9, .int .i64 kk9], .bool false]) ?_ rfl ⟨_, by rw [HR.out], by rw [HR.out]; exact oz4, B4⟩
    rw [results_cell_tmp rfl]
    go_simp
  rw [c0] at kA
  by_cases c1 : 0 ≤ i ∧ i ≤ 30
  case neg =>
    have HR : Hid (stepR a i d = (a, false)) := by show _ = _; unfold stepR; rw [if_neg (fun h => c1 h.2.1)]
    obtain ⟨rr, hrr⟩ : ∃ r, stepR a i d = r := ⟨_, rfl⟩
    rw [hrr] at HR
    rw [hrr]
    clear hrr
    have nn : i < 0 ∨ (0 ≤ i ∧ 30 < i) := by omega
    obtain ⟨gx, ax, nx, cx, gy, ay, ny, cy, eq⟩ := ha.cell
    subst eq
    clear ha hl0 hl1 c0 c1
    rcases nn with nn | nn
    · skip
      have B0_0 : Below w.heap.size w w := Below.refl _ _
      obtain ⟨ww1, hww1⟩ : ∃ v, v = w.alloc (.cells #[.bool gx, .slice ax nx cx, .bool gy, .slice ay ny cy, .int .i64 a.2] 34) := ⟨_, rfl⟩
      have sz1 : ww1.heap.size = w.heap.size + 1 := by rw [hww1]; simp
      have bw1 : Below w.heap.size w ww1 := by rw [hww1]; exact below1 _ _
      have B0_1 := B0_0.trans (bw1.mono B0_0.size)
      have X0_1 : BoxL ww1 w.heap.size w.heap.size [.bool gx, .slice ax nx cx, .bool gy, .slice ay ny cy, .int .i64 a.2] := by rw [hww1]; have h := BoxL.made w [.bool gx, .slice ax nx cx, .bool gy, .slice ay ny cy, .int .i64 a.2] 34; exact h
      obtain ⟨ww2, hww2⟩ : ∃ v, v = ww1.alloc (.cells #[.bool false, .slice none 0 0, .bool false, .slice none 0 0, .int .i64 0] 34) := ⟨_, rfl⟩
      have sz2 : ww2.heap.size = w.heap.size + 1 + 1 := by rw [hww2]; simp [sz1]
      have bw2 : Below ww1.heap.size ww1 ww2 := by rw [hww2]; exact below1 _ _
      have B0_2 := B0_1.trans (bw2.mono B0_1.size)
      have X0_2 := X0_1.below bw2 (Nat.le_refl _)
      have R0_2 : BoxL ww2 (w.heap.size + 1) (w.heap.size + 1) [.bool false, .slice none 0 0, .bool false, .slice none 0 0, .int .i64 0] := by rw [hww2]; have h := BoxL.made ww1 [.bool false, .slice none 0 0, .bool false, .slice none 0 0, .int .i64 0] 34; rw [sz1] at h; exact h
      have X0 := X0_2
      have R0 := R0_2.mono (by omega : w.heap.size ≤ w.heap.size + 1)
      have B0 := B0_2
      clear B0_0 B0_1 B0_2 bw1 bw2 X0_1 X0_2 R0_2
      go_enter Try.func18, Try.ntmps18
      go_wp2_with fail
      have hvv : (w.alloc (.cells #[.bool gx, .slice ax nx cx, .bool gy, .slice ay ny cy, .int .i64 a.2] 34)).alloc (.cells #[.bool false, .slice none 0 0, .bool false, .slice none 0 0, .int .i64 0] 34) = ww2 := by rw [hww2]; rw [hww1]
      rw [hvv]
      clear hvv hww1 hww2 sz1
      clear ww1
      have hz0 : w.heap.size + 2 ≤ ww2.heap.size := by omega
      clear sz2
      refine (kA _ B0).mono ?_
      rintro e w1 ⟨ox, oy, rfl, bb1, hXY⟩
      obtain ⟨p1, q1, rfl, rfl, sp, sq⟩ := hXY (by first | exact trivial | rfl)
      have B1 := B0.trans (bb1.mono B0.size)
      have X1 := X0.below bb1 (Nat.le_refl _)
      have R1 := R0.below bb1 (Nat.le_refl _)
      clear B0 X0 R0 bb1
      have sp1 := sp
      clear sp
      have sq1 := sq
      clear sq
      clear kA
      obtain ⟨w2, hw2⟩ : ∃ v, Hid (v = w1.alloc (.cells #[.pointer (some ⟨p1, 0, none⟩), .pointer (some ⟨q1, 0, none⟩), .int .i64 a.2] 65)) := ⟨_, rfl⟩
      have bb2 : Below w1.heap.size w1 w2 := by rw [hw2.out]; exact below1 _ _
      obtain ⟨qb2, hq2⟩ : ∃ v, Hid (v = w1.heap.size) := ⟨_, rfl⟩
      have F2 : BoxL w2 w.heap.size qb2 [.pointer (some ⟨p1, 0, none⟩), .pointer (some ⟨q1, 0, none⟩), .int .i64 a.2] := by rw [hw2.out, hq2.out]; exact (BoxL.made w1 [.pointer (some ⟨p1, 0, none⟩), .pointer (some ⟨q1, 0, none⟩), .int .i64 a.2] 65).mono B1.size
      have B2 := B1.trans (bb2.mono B1.size)
      have X2 := X1.below bb2 (Nat.le_refl _)
      have R2 := R1.below bb2 (Nat.le_refl _)
      have sp2 := sp1.below bb2 sp1.lt
      have sq2 := sq1.below bb2 sq1.lt
      have lt_X_F : w.heap.size < qb2 := by rw [hq2.out]; exact X1.hi
      have lt_R_F : w.heap.size + 1 < qb2 := by rw [hq2.out]; exact R1.hi
      have ne_F_sp : ¬ (p1 = qb2) := fun e => by rw [hq2.out] at e; have h1 := sp1.lt; omega
      have ne_F_sq : ¬ (q1 = qb2) := fun e => by rw [hq2.out] at e; have h1 := sq1.lt; omega
      clear B1 X1 R1 sp1 sq1 bb2
      have c_X_0 := X2.c 0 _ rfl
      have c_X_1 := X2.c 1 _ rfl
      have c_X_2 := X2.c 2 _ rfl
      have c_X_3 := X2.c 3 _ rfl
      have c_X_4 := X2.c 4 _ rfl
      rw [hw2.out] at c_X_0
      rw [hw2.out] at c_X_1
      rw [hw2.out] at c_X_2
      rw [hw2.out] at c_X_3
      rw [hw2.out] at c_X_4
      go_wp2_with fail
      rw [← hw2.out]
      (try rw [← hq2.out])
      clear c_X_0 c_X_1 c_X_2 c_X_3 c_X_4
      clear hw2 hq2
      clear sp2 sq2
      refine (kC _ B2).mono ?_
      rintro e w3 ⟨v, rfl, oz, bb3⟩
      obtain ⟨h8, s8, t8, u8, h9, s9, t9, u9, eqz⟩ := oz.cell
      subst eqz
      generalize hkz : a.2 = kk9 at *
      replace hkz : Hid (a.2 = kk9) := hkz
      have ap_X_oz : Apart (blkP (.agg #[.bool h8, .slice s8 t8 u8, .bool h9, .slice s9 t9 u9, .int .i64 kk9])) [w.heap.size] := apart_one fun q hq => by have h1 := (ownsP.ltb oz q hq).1; have h2 := X2.hi; omega
      have ap_R_oz : Apart (blkP (.agg #[.bool h8, .slice s8 t8 u8, .bool h9, .slice s9 t9 u9, .int .i64 kk9])) [w.heap.size + 1] := apart_one fun q hq => by have h1 := (ownsP.ltb oz q hq).1; have h2 := R2.hi; omega
      have ap_F_oz : Apart (blkP (.agg #[.bool h8, .slice s8 t8 u8, .bool h9, .slice s9 t9 u9, .int .i64 kk9])) [qb2] := apart_one fun q hq => by have h1 := (ownsP.ltb oz q hq).1; have h2 := F2.hi; omega
      replace oz := ownsP_mono oz B2.size
      have B3 := B2.trans (bb3.mono B2.size)
      have X3 := X2.below bb3 (Nat.le_refl _)
      have R3 := R2.below bb3 (Nat.le_refl _)
      have F3 := F2.below bb3 (Nat.le_refl _)
      clear B2 X2 R2 F2 bb3
      have oz3 := oz
      clear oz
      clear kC
      clear X3
      have c_R_0 := R3.c 0 _ rfl
      have f_R_0 := R3.f 0 _ rfl
      have c_R_1 := R3.c 1 _ rfl
      have f_R_1 := R3.f 1 _ rfl
      have c_R_2 := R3.c 2 _ rfl
      have f_R_2 := R3.f 2 _ rfl
      have c_R_3 := R3.c 3 _ rfl
      have f_R_3 := R3.f 3 _ rfl
      have c_R_4 := R3.c 4 _ rfl
      have f_R_4 := R3.f 4 _ rfl
      obtain ⟨w4, hw4⟩ : ∃ v, v = ((((w3.setCell ⟨w.heap.size + 1, 0, none⟩ (.bool h8)).setCell ⟨w.heap.size + 1, 1, none⟩ (.slice s8 t8 u8)).setCell ⟨w.heap.size + 1, 2, none⟩ (.bool h9)).setCell ⟨w.heap.size + 1, 3, none⟩ (.slice s9 t9 u9)).setCell ⟨w.heap.size + 1, 4, none⟩ (.int .i64 kk9) := ⟨_, rfl⟩
      have tn4 : Tn [w.heap.size + 1] w3 w4 := by rw [hw4]; exact (((((tnL w3 (w.heap.size + 1) 0 (.bool h8)).trans (tnL _ (w.heap.size + 1) 1 (.slice s8 t8 u8))).trans (tnL _ (w.heap.size + 1) 2 (.bool h9))).trans (tnL _ (w.heap.size + 1) 3 (.slice s9 t9 u9))).trans (tnL _ (w.heap.size + 1) 4 (.int .i64 kk9)))
      have R4 : BoxL w4 w.heap.size (w.heap.size + 1) [.bool h8, .slice s8 t8 u8, .bool h9, .slice s9 t9 u9, .int .i64 kk9] := by rw [hw4]; exact (((((R3.set 0 (.bool h8) (by simp)).set 1 (.slice s8 t8 u8) (by simp)).set 2 (.bool h9) (by simp)).set 3 (.slice s9 t9 u9) (by simp)).set 4 (.int .i64 kk9) (by simp))
      have blo4 := R3.lo
      have B4 := tn4.below B3 B3.size (fun q hq => by simp at hq; omega)
      have F4 := F3.tn tn4 (not_one (by omega))
      have oz4 := ownsP.tn oz3 tn4 ap_R_oz
      clear B3 R3 F3 oz3 tn4 blo4
      subst hw4
      go_wp2
      (try simp only [Exit.inBlock, Exit.then])
      refine bodyPost_ret (v := .tuple #[.agg #[.bool h8, .slice s8 t8 u8, .bool h9, .slice s9 t9 u9, .int .i64 kk9], .bool false]) ?_ rfl ⟨_, by rw [HR.out], by rw [HR.out]; exact oz4, B4⟩
      rw [results_cell_tmp rfl]
      go_simp
    · obtain ⟨n0, nn⟩ := nn
      have n3 : ¬ i < 0 := by omega
      have B0_0 : Below w.heap.size w w := Below.refl _ _
      obtain ⟨ww1, hww1⟩ : ∃ v, v = w.alloc (.cells #[.bool gx, .slice ax nx cx, .bool gy, .slice ay ny cy, .int .i64 a.2] 34) := ⟨_, rfl⟩
      have sz1 : ww1.heap.size = w.heap.size + 1 := by rw [hww1]; simp
      have bw1 : Below w.heap.size w ww1 := by rw [hww1]; exact below1 _ _
      have B0_1 := B0_0.trans (bw1.mono B0_0.size)
      have X0_1 : BoxL ww1 w.heap.size w.heap.size [.bool gx, .slice ax nx cx, .bool gy, .slice ay ny cy, .int .i64 a.2] := by rw [hww1]; have h := BoxL.made w [.bool gx, .slice ax nx cx, .bool gy, .slice ay ny cy, .int .i64 a.2] 34; exact h
      obtain ⟨ww2, hww2⟩ : ∃ v, v = ww1.alloc (.cells #[.bool false, .slice none 0 0, .bool false, .slice none 0 0, .int .i64 0] 34) := ⟨_, rfl⟩
      have sz2 : ww2.heap.size = w.heap.size + 1 + 1 := by rw [hww2]; simp [sz1]
      have bw2 : Below ww1.heap.size ww1 ww2 := by rw [hww2]; exact below1 _ _
      have B0_2 := B0_1.trans (bw2.mono B0_1.size)
      have X0_2 := X0_1.below bw2 (Nat.le_refl _)
      have R0_2 : BoxL ww2 (w.heap.size + 1) (w.heap.size + 1) [.bool false, .slice none 0 0, .bool false, .slice none 0 0, .int .i64 0] := by rw [hww2]; have h := BoxL.made ww1 [.bool false, .slice none 0 0, .bool false, .slice none 0 0, .int .i64 0] 34; rw [sz1] at h; exact h
      have X0 := X0_2
      have R0 := R0_2.mono (by omega : w.heap.size ≤ w.heap.size + 1)
      have B0 := B0_2
      clear B0_0 B0_1 B0_2 bw1 bw2 X0_1 X0_2 R0_2
      go_enter Try.func18, Try.ntmps18
      go_wp2_with fail
      have hvv : (w.alloc (.cells #[.bool gx, .slice ax nx cx, .bool gy, .slice ay ny cy, .int .i64 a.2] 34)).alloc (.cells #[.bool false, .slice none 0 0, .bool false, .slice none 0 0, .int .i64 0] 34) = ww2 := by rw [hww2]; rw [hww1]
      rw [hvv]
      clear hvv hww1 hww2 sz1
      clear ww1
      have hz0 : w.heap.size + 2 ≤ ww2.heap.size := by omega
      clear sz2
      refine (kA _ B0).mono ?_
      rintro e w1 ⟨ox, oy, rfl, bb1, hXY⟩
      obtain ⟨p1, q1, rfl, rfl, sp, sq⟩ := hXY (by first | exact trivial | rfl)
      have B1 := B0.trans (bb1.mono B0.size)
      have X1 := X0.below bb1 (Nat.le_refl _)
      have R1 := R0.below bb1 (Nat.le_refl _)
      clear B0 X0 R0 bb1
      have sp1 := sp
      clear sp
      have sq1 := sq
      clear sq
      clear kA
      obtain ⟨w2, hw2⟩ : ∃ v, Hid (v = w1.alloc (.cells #[.pointer (some ⟨p1, 0, none⟩), .pointer (some ⟨q1, 0, none⟩), .int .i64 a.2] 65)) := ⟨_, rfl⟩
      have bb2 : Below w1.heap.size w1 w2 := by rw [hw2.out]; exact below1 _ _
      obtain ⟨qb2, hq2⟩ : ∃ v, Hid (v = w1.heap.size) := ⟨_, rfl⟩
      have F2 : BoxL w2 w.heap.size qb2 [.pointer (some ⟨p1, 0, none⟩), .pointer (some ⟨q1, 0, none⟩), .int .i64 a.2] := by rw [hw2.out, hq2.out]; exact (BoxL.made w1 [.pointer (some ⟨p1, 0, none⟩), .pointer (some ⟨q1, 0, none⟩), .int .i64 a.2] 65).mono B1.size
      have B2 := B1.trans (bb2.mono B1.size)
      have X2 := X1.below bb2 (Nat.le_refl _)
      have R2 := R1.below bb2 (Nat.le_refl _)
      have sp2 := sp1.below bb2 sp1.lt
      have sq2 := sq1.below bb2 sq1.lt
      have lt_X_F : w.heap.size < qb2 := by rw [hq2.out]; exact X1.hi
      have lt_R_F : w.heap.size + 1 < qb2 := by rw [hq2.out]; exact R1.hi
      have ne_F_sp : ¬ (p1 = qb2) := fun e => by rw [hq2.out] at e; have h1 := sp1.lt; omega
      have ne_F_sq : ¬ (q1 = qb2) := fun e => by rw [hq2.out] at e; have h1 := sq1.lt; omega
      clear B1 X1 R1 sp1 sq1 bb2
      have c_X_0 := X2.c 0 _ rfl
      have c_X_1 := X2.c 1 _ rfl
      have c_X_2 := X2.c 2 _ rfl
      have c_X_3 := X2.c 3 _ rfl
      have c_X_4 := X2.c 4 _ rfl
      rw [hw2.out] at c_X_0
      rw [hw2.out] at c_X_1
      rw [hw2.out] at c_X_2
      rw [hw2.out] at c_X_3
      rw [hw2.out] at c_X_4
      go_wp2_with fail
      rw [← hw2.out]
      (try rw [← hq2.out])
      clear c_X_0 c_X_1 c_X_2 c_X_3 c_X_4
      clear hw2 hq2
      clear sp2 sq2
      refine (kC _ B2).mono ?_
      rintro e w3 ⟨v, rfl, oz, bb3⟩
      obtain ⟨h8, s8, t8, u8, h9, s9, t9, u9, eqz⟩ := oz.cell
      subst eqz
      generalize hkz : a.2 = kk9 at *
      replace hkz : Hid (a.2 = kk9) := hkz
      have ap_X_oz : Apart (blkP (.agg #[.bool h8, .slice s8 t8 u8, .bool h9, .slice s9 t9 u9, .int .i64 kk9])) [w.heap.size] := apart_one fun q hq => by have h1 := (ownsP.ltb oz q hq).1; have h2 := X2.hi; omega
      have ap_R_oz : Apart (blkP (.agg #[.bool h8, .slice s8 t8 u8, .bool h9, .slice s9 t9 u9, .int .i64 kk9])) [w.heap.size + 1] := apart_one fun q hq => by have h1 := (ownsP.ltb oz q hq).1; have h2 := R2.hi; omega
      have ap_F_oz : Apart (blkP (.agg #[.bool h8, .slice s8 t8 u8, .bool h9, .slice s9 t9 u9, .int .i64 kk9])) [qb2] := apart_one fun q hq => by have h1 := (ownsP.ltb oz q hq).1; have h2 := F2.hi; omega
      replace oz := ownsP_mono oz B2.size
      have B3 := B2.trans (bb3.mono B2.size)
      have X3 := X2.below bb3 (Nat.le_refl _)
      have R3 := R2.below bb3 (Nat.le_refl _)
      have F3 := F2.below bb3 (Nat.le_refl _)
      clear B2 X2 R2 F2 bb3
      have oz3 := oz
      clear oz
      clear kC
      clear X3
      have c_R_0 := R3.c 0 _ rfl
      have f_R_0 := R3.f 0 _ rfl
      have c_R_1 := R3.c 1 _ rfl
      have f_R_1 := R3.f 1 _ rfl
      have c_R_2 := R3.c 2 _ rfl
      have f_R_2 := R3.f 2 _ rfl
      have c_R_3 := R3.c 3 _ rfl
      have f_R_3 := R3.f 3 _ rfl
      have c_R_4 := R3.c 4 _ rfl
      have f_R_4 := R3.f 4 _ rfl
      obtain ⟨w4, hw4⟩ : ∃ v, v = ((((w3.setCell ⟨w.heap.size + 1, 0, none⟩ (.bool h8)).setCell ⟨w.heap.size + 1, 1, none⟩ (.slice s8 t8 u8)).setCell ⟨w.heap.size + 1, 2, none⟩ (.bool h9)).setCell ⟨w.heap.size + 1, 3, none⟩ (.slice s9 t9 u9)).setCell ⟨w.heap.size + 1, 4, none⟩ (.int .i64 kk9) := ⟨_, rfl⟩
      have tn4 : Tn [w.heap.size + 1] w3 w4 := by rw [hw4]; exact (((((tnL w3 (w.heap.size + 1) 0 (.bool h8)).trans (tnL _ (w.heap.size + 1) 1 (.slice s8 t8 u8))).trans (tnL _ (w.heap.size + 1) 2 (.bool h9))).trans (tnL _ (w.heap.size + 1) 3 (.slice s9 t9 u9))).trans (tnL _ (w.heap.size + 1) 4 (.int .i64 kk9)))
      have R4 : BoxL w4 w.heap.size (w.heap.size + 1) [.bool h8, .slice s8 t8 u8, .bool h9, .slice s9 t9 u9, .int .i64 kk9] := by rw [hw4]; exact (((((R3.set 0 (.bool h8) (by simp)).set 1 (.slice s8 t8 u8) (by simp)).set 2 (.bool h9) (by simp)).set 3 (.slice s9 t9 u9) (by simp)).set 4 (.int .i64 kk9) (by simp))
      have blo4 := R3.lo
      have B4 := tn4.below B3 B3.size (fun q hq => by simp at hq; omega)
      have F4 := F3.tn tn4 (not_one (by omega))
      have oz4 := ownsP.tn oz3 tn4 ap_R_oz
      clear B3 R3 F3 oz3 tn4 blo4
      subst hw4
      go_wp2
      (try simp only [Exit.inBlock, Exit.then])
      refine bodyPost_ret (v := .tuple #[.agg #[.bool h8, .slice s8 t8 u8, .bool h9, .slice s9 t9 u9, .int .i64 kk9], .bool false]) ?_ rfl ⟨_, by rw [HR.out], by rw [HR.out]; exact oz4, B4⟩
      rw [results_cell_tmp rfl]
      go_simp
  by_cases c2 : d = 1 ∨ d = -1
  case neg =>
    have HR : Hid (stepR a i d = (a, false)) := by show _ = _; unfold stepR; rw [if_neg (fun h => c2 h.2.2.1)]
    obtain ⟨rr, hrr⟩ : ∃ r, stepR a i d = r := ⟨_, rfl⟩
    rw [hrr] at HR
    rw [hrr]
    clear hrr
    have n1 : ¬ d = 1 := by omega
    have n2 : ¬ d = -1 := by omega
    have d1 : (d != 1) = true := by simpa using n1
    have d2 : (d != -1) = true := by simpa using n2
    obtain ⟨gx, ax, nx, cx, gy, ay, ny, cy, eq⟩ := ha.cell
    subst eq
    have n3 : ¬ i < 0 := by omega
    have n4 : ¬ 30 < i := by omega
    clear ha hl0 hl1 c0 c1 c2
    have B0_0 : Below w.heap.size w w := Below.refl _ _
    obtain ⟨ww1, hww1⟩ : ∃ v, v = w.alloc (.cells #[.bool gx, .slice ax nx cx, .bool gy, .slice ay ny cy, .int .i64 a.2] 34) := ⟨_, rfl⟩
    have sz1 : ww1.heap.size = w.heap.size + 1 := by rw [hww1]; simp
    have bw1 : Below w.heap.size w ww1 := by rw [hww1]; exact below1 _ _
    have B0_1 := B0_0.trans (bw1.mono B0_0.size)
    have X0_1 : BoxL ww1 w.heap.size w.heap.size [.bool gx, .slice ax nx cx, .bool gy, .slice ay ny cy, .int .i64 a.2] := by rw [hww1]; have h := BoxL.made w [.bool gx, .slice ax nx cx, .bool gy, .slice ay ny cy, .int .i64 a.2] 34; exact h
    obtain ⟨ww2, hww2⟩ : ∃ v, v = ww1.alloc (.cells #[.bool false, .slice none 0 0, .bool false, .slice none 0 0, .int .i64 0] 34) := ⟨_, rfl⟩
    have sz2 : ww2.heap.size = w.heap.size + 1 + 1 := by rw [hww2]; simp [sz1]
    have bw2 : Below ww1.heap.size ww1 ww2 := by rw [hww2]; exact below1 _ _
    have B0_2 := B0_1.trans (bw2.mono B0_1.size)
    have X0_2 := X0_1.below bw2 (Nat.le_refl _)
    have R0_2 : BoxL ww2 (w.heap.size + 1) (w.heap.size + 1) [.bool false, .slice none 0 0, .bool false, .slice none 0 0, .int .i64 0] := by rw [hww2]; have h := BoxL.made ww1 [.bool false, .slice none 0 0, .bool false, .slice none 0 0, .int .i64 0] 34; rw [sz1] at h; exact h
    have X0 := X0_2
    have R0 := R0_2.mono (by omega : w.heap.size ≤ w.heap.size + 1)
    have B0 := B0_2
    clear B0_0 B0_1 B0_2 bw1 bw2 X0_1 X0_2 R0_2
    go_enter Try.func18, Try.ntmps18
    go_wp2_with fail
    have hvv : (w.alloc (.cells #[.bool gx, .slice ax nx cx, .bool gy, .slice ay ny cy, .int .i64 a.2] 34)).alloc (.cells #[.bool false, .slice none 0 0, .bool false, .slice none 0 0, .int .i64 0] 34) = ww2 := by rw [hww2]; rw [hww1]
    rw [hvv]
    clear hvv hww1 hww2 sz1
    clear ww1
    have hz0 : w.heap.size + 2 ≤ ww2.heap.size := by omega
    clear sz2
    refine (kA _ B0).mono ?_
    rintro e w1 ⟨ox, oy, rfl, bb1, hXY⟩
    obtain ⟨p1, q1, rfl, rfl, sp, sq⟩ := hXY (by first | exact trivial | rfl)
    have B1 := B0.trans (bb1.mono B0.size)
    have X1 := X0.below bb1 (Nat.le_refl _)
    have R1 := R0.below bb1 (Nat.le_refl _)
    clear B0 X0 R0 bb1
    have sp1 := sp
    clear sp
    have sq1 := sq
    clear sq
    clear kA
    obtain ⟨w2, hw2⟩ : ∃ v, Hid (v = w1.alloc (.cells #[.pointer (some ⟨p1, 0, none⟩), .pointer (some ⟨q1, 0, none⟩), .int .i64 a.2] 65)) := ⟨_, rfl⟩
    have bb2 : Below w1.heap.size w1 w2 := by rw [hw2.out]; exact below1 _ _
    obtain ⟨qb2, hq2⟩ : ∃ v, Hid (v = w1.heap.size) := ⟨_, rfl⟩
    have F2 : BoxL w2 w.heap.size qb2 [.pointer (some ⟨p1, 0, none⟩), .pointer (some ⟨q1, 0, none⟩), .int .i64 a.2] := by rw [hw2.out, hq2.out]; exact (BoxL.made w1 [.pointer (some ⟨p1, 0, none⟩), .pointer (some ⟨q1, 0, none⟩), .int .i64 a.2] 65).mono B1.size
    have B2 := B1.trans (bb2.mono B1.size)
    have X2 := X1.below bb2 (Nat.le_refl _)
    have R2 := R1.below bb2 (Nat.le_refl _)
    have sp2 := sp1.below bb2 sp1.lt
    have sq2 := sq1.below bb2 sq1.lt
    have lt_X_F : w.heap.size < qb2 := by rw [hq2.out]; exact X1.hi
    have lt_R_F : w.heap.size + 1 < qb2 := by rw [hq2.out]; exact R1.hi
    have ne_F_sp : ¬ (p1 = qb2) := fun e => by rw [hq2.out] at e; have h1 := sp1.lt; omega
    have ne_F_sq : ¬ (q1 = qb2) := fun e => by rw [hq2.out] at e; have h1 := sq1.lt; omega
    clear B1 X1 R1 sp1 sq1 bb2
    have c_X_0 := X2.c 0 _ rfl
    have c_X_1 := X2.c 1 _ rfl
    have c_X_2 := X2.c 2 _ rfl
    have c_X_3 := X2.c 3 _ rfl
    have c_X_4 := X2.c 4 _ rfl
    rw [hw2.out] at c_X_0
    rw [hw2.out] at c_X_1
    rw [hw2.out] at c_X_2
    rw [hw2.out] at c_X_3
    rw [hw2.out] at c_X_4
    go_wp2_with fail
    rw [← hw2.out]
    (try rw [← hq2.out])
    clear c_X_0 c_X_1 c_X_2 c_X_3 c_X_4
    clear hw2 hq2
    clear sp2 sq2
    refine (kC _ B2).mono ?_
    rintro e w3 ⟨v, rfl, oz, bb3⟩
    obtain ⟨h8, s8, t8, u8, h9, s9, t9, u9, eqz⟩ := oz.cell
    subst eqz
    generalize hkz : a.2 = kk9 at *
    replace hkz : Hid (a.2 = kk9) := hkz
    have ap_X_oz : Apart (blkP (.agg #[.bool h8, .slice s8 t8 u8, .bool h9, .slice s9 t9 u9, .int .i64 kk9])) [w.heap.size] := apart_one fun q hq => by have h1 := (ownsP.ltb oz q hq).1; have h2 := X2.hi; omega
    have ap_R_oz : Apart (blkP (.agg #[.bool h8, .slice s8 t8 u8, .bool h9, .slice s9 t9 u9, .int .i64 kk9])) [w.heap.size + 1] := apart_one fun q hq => by have h1 := (ownsP.ltb oz q hq).1; have h2 := R2.hi; omega
    have ap_F_oz : Apart (blkP (.agg #[.bool h8, .slice s8 t8 u8, .bool h9, .slice s9 t9 u9, .int .i64 kk9])) [qb2] := apart_one fun q hq => by have h1 := (ownsP.ltb oz q hq).1; have h2 := F2.hi; omega
    replace oz := ownsP_mono oz B2.size
    have B3 := B2.trans (bb3.mono B2.size)
    have X3 := X2.below bb3 (Nat.le_refl _)
    have R3 := R2.below bb3 (Nat.le_refl _)
    have F3 := F2.below bb3 (Nat.le_refl _)
    clear B2 X2 R2 F2 bb3
    have oz3 := oz
    clear oz
    clear kC
    clear X3
    have c_R_0 := R3.c 0 _ rfl
    have f_R_0 := R3.f 0 _ rfl
    have c_R_1 := R3.c 1 _ rfl
    have f_R_1 := R3.f 1 _ rfl
    have c_R_2 := R3.c 2 _ rfl
    have f_R_2 := R3.f 2 _ rfl
    have c_R_3 := R3.c 3 _ rfl
    have f_R_3 := R3.f 3 _ rfl
    have c_R_4 := R3.c 4 _ rfl
    have f_R_4 := R3.f 4 _ rfl
    obtain ⟨w4, hw4⟩ : ∃ v, v = ((((w3.setCell ⟨w.heap.size + 1, 0, none⟩ (.bool h8)).setCell ⟨w.heap.size + 1, 1, none⟩ (.slice s8 t8 u8)).setCell ⟨w.heap.size + 1, 2, none⟩ (.bool h9)).setCell ⟨w.heap.size + 1, 3, none⟩ (.slice s9 t9 u9)).setCell ⟨w.heap.size + 1, 4, none⟩ (.int .i64 kk9) := ⟨_, rfl⟩
    have tn4 : Tn [w.heap.size + 1] w3 w4 := by rw [hw4]; exact (((((tnL w3 (w.heap.size + 1) 0 (.bool h8)).trans (tnL _ (w.heap.size + 1) 1 (.slice s8 t8 u8))).trans (tnL _ (w.heap.size + 1) 2 (.bool h9))).trans (tnL _ (w.heap.size + 1) 3 (.slice s9 t9 u9))).trans (tnL _ (w.heap.size + 1) 4 (.int .i64 kk9)))
    have R4 : BoxL w4 w.heap.size (w.heap.size + 1) [.bool h8, .slice s8 t8 u8, .bool h9, .slice s9 t9 u9, .int .i64 kk9] := by rw [hw4]; exact (((((R3.set 0 (.bool h8) (by simp)).set 1 (.slice s8 t8 u8) (by simp)).set 2 (.bool h9) (by simp)).set 3 (.slice s9 t9 u9) (by simp)).set 4 (.int .i64 kk9) (by simp))
    have blo4 := R3.lo
    have B4 := tn4.below B3 B3.size (fun q hq => by simp at hq; omega)
    have F4 := F3.tn tn4 (not_one (by omega))
    have oz4 := ownsP.tn oz3 tn4 ap_R_oz
    clear B3 R3 F3 oz3 tn4 blo4
    subst hw4
    go_wp2
    (try simp only [Exit.inBlock, Exit.then])
    refine bodyPost_ret (v := .tuple #[.agg #[.bool h8, .slice s8 t8 u8, .bool h9, .slice s9 t9 u9, .int .i64 kk9], .bool false]) ?_ rfl ⟨_, by rw [HR.out], by rw [HR.out]; exact oz4, B4⟩
    rw [results_cell_tmp rfl]
    go_simp
  obtain ⟨k, rfl⟩ : ∃ k : Nat, i = (k : Int) := ⟨i.toNat, by omega⟩
  have z := okP_yes c0
  have m1 := okW_len48 z.1
  have m2 := okW_len48 z.2.1
  have z3 := z.2.2.1
  have z4 := z.2.2.2
  have hk30 : k ≤ 30 := by omega
  have HP : Hid (stepP a k d = ((mkW (stX (valW a.1.1) (valW a.1.2) k d), mkW (stY (valW a.1.1) (valW a.1.2) k d)), a.2 + k)) := by show _ = _; unfold stepP; rw [Int.toNat_natCast]
  have HQ : Hid (stepR a k d = if okP (stepP a k d) = true then (stepP a k d, true) else (a, false)) := by
    show _ = _
    unfold stepR
    by_cases h : okP (stepP a k d) = true
    · rw [if_pos ⟨c0, c1, c2, h⟩, if_pos h]
    · rw [if_neg (fun q => h q.2.2.2), if_neg h]
  rw [HP.out] at HQ
  clear HP
  have kS := fun p q W h1 h2 => stepI_c p q (valW a.1.1) (valW a.1.2) a.2 k d W h1 h2 m1 m2 hk30 c2 z3 z4
  have kF := fun p q W h1 h2 => spin_c p q (stX (valW a.1.1) (valW a.1.2) k d) (stY (valW a.1.1) (valW a.1.2) k d) (a.2 + k) W h1 h2
  have hs1 : 0 ≤ a.2 + (k : Int) := by omega
  have hO := spinF_ok (stX (valW a.1.1) (valW a.1.2) k d) (stY (valW a.1.1) (valW a.1.2) k d) (a.2 + k)
  obtain ⟨gx, ax, nx, cx, gy, ay, ny, cy, eq⟩ := ha.cell
  subst eq
  have gi0 : ¬ (k : Int) < 0 := by omega
  have gi1 : ¬ (30 : Int) < (k : Int) := by omega
  have gd : (d != 1 && d != -1) = false := by rcases c2 with rfl | rfl <;> rfl
  generalize stX (valW a.1.1) (valW a.1.2) k d = X at *
  generalize stY (valW a.1.1) (valW a.1.2) k d = Y at *
  generalize valW a.1.1 = x1 at *
  generalize valW a.1.2 = y1 at *
  generalize hff : spinF X Y (a.2 + (k : Int)) = ff at *
  rcases hO with ⟨hO, eO⟩ | ⟨hO, eO⟩
  · rw [if_pos hO] at HQ
    have HR := HQ
    clear HQ hO hff z m1 m2 c0 hk30 z3 z4
    subst eO
    rcases c2 with rfl | rfl
    · clear ha hl0 hl1
      have B0_0 : Below w.heap.size w w := Below.refl _ _
      obtain ⟨ww1, hww1⟩ : ∃ v, v = w.alloc (.cells #[.bool gx, .slice ax nx cx, .bool gy, .slice ay ny cy, .int .i64 a.2] 34) := ⟨_, rfl⟩
      have sz1 : ww1.heap.size = w.heap.size + 1 := by rw [hww1]; simp
      have bw1 : Below w.heap.size w ww1 := by rw [hww1]; exact below1 _ _
      have B0_1 := B0_0.trans (bw1.mono B0_0.size)
      have X0_1 : BoxL ww1 w.heap.size w.heap.size [.bool gx, .slice ax nx cx, .bool gy, .slice ay ny cy, .int .i64 a.2] := by rw [hww1]; have h := BoxL.made w [.bool gx, .slice ax nx cx, .bool gy, .slice ay ny cy, .int .i64 a.2] 34; exact h
      obtain ⟨ww2, hww2⟩ : ∃ v, v = ww1.alloc (.cells #[.bool false, .slice none 0 0, .bool false, .slice none 0 0, .int .i64 0] 34) := ⟨_, rfl⟩
      have sz2 : ww2.heap.size = w.heap.size + 1 + 1 := by rw [hww2]; simp [sz1]
      have bw2 : Below ww1.heap.size ww1 ww2 := by rw [hww2]; exact below1 _ _
      have B0_2 := B0_1.trans (bw2.mono B0_1.size)
      have X0_2 := X0_1.below bw2 (Nat.le_refl _)
      have R0_2 : BoxL ww2 (w.heap.size + 1) (w.heap.size + 1) [.bool false, .slice none 0 0, .bool false, .slice none 0 0, .int .i64 0] := by rw [hww2]; have h := BoxL.made ww1 [.bool false, .slice none 0 0, .bool false, .slice none 0 0, .int .i64 0] 34; rw [sz1] at h; exact h
      have X0 := X0_2
      have R0 := R0_2.mono (by omega : w.heap.size ≤ w.heap.size + 1)
      have B0 := B0_2
      clear B0_0 B0_1 B0_2 bw1 bw2 X0_1 X0_2 R0_2
      go_enter Try.func18, Try.ntmps18
      go_wp2_with fail
      have hvv : (w.alloc (.cells #[.bool gx, .slice ax nx cx, .bool gy, .slice ay ny cy, .int .i64 a.2] 34)).alloc (.cells #[.bool false, .slice none 0 0, .bool false, .slice none 0 0, .int .i64 0] 34) = ww2 := by rw [hww2]; rw [hww1]
      rw [hvv]
      clear hvv hww1 hww2 sz1
      clear ww1
      have hz0 : w.heap.size + 2 ≤ ww2.heap.size := by omega
      clear sz2
      refine (kA _ B0).mono ?_
      rintro e w1 ⟨ox, oy, rfl, bb1, hXY⟩
      obtain ⟨p1, q1, rfl, rfl, sp, sq⟩ := hXY (by first | exact trivial | rfl)
      have B1 := B0.trans (bb1.mono B0.size)
      have X1 := X0.below bb1 (Nat.le_refl _)
      have R1 := R0.below bb1 (Nat.le_refl _)
      clear B0 X0 R0 bb1
      have sp1 := sp
      clear sp
      have sq1 := sq
      clear sq
      clear kA
      obtain ⟨w2, hw2⟩ : ∃ v, Hid (v = w1.alloc (.cells #[.pointer (some ⟨p1, 0, none⟩), .pointer (some ⟨q1, 0, none⟩), .int .i64 a.2] 65)) := ⟨_, rfl⟩
      have bb2 : Below w1.heap.size w1 w2 := by rw [hw2.out]; exact below1 _ _
      obtain ⟨qb2, hq2⟩ : ∃ v, Hid (v = w1.heap.size) := ⟨_, rfl⟩
      have F2 : BoxL w2 w.heap.size qb2 [.pointer (some ⟨p1, 0, none⟩), .pointer (some ⟨q1, 0, none⟩), .int .i64 a.2] := by rw [hw2.out, hq2.out]; exact (BoxL.made w1 [.pointer (some ⟨p1, 0, none⟩), .pointer (some ⟨q1, 0, none⟩), .int .i64 a.2] 65).mono B1.size
      have B2 := B1.trans (bb2.mono B1.size)
      have X2 := X1.below bb2 (Nat.le_refl _)
      have R2 := R1.below bb2 (Nat.le_refl _)
      have sp2 := sp1.below bb2 sp1.lt
      have sq2 := sq1.below bb2 sq1.lt
      have lt_X_F : w.heap.size < qb2 := by rw [hq2.out]; exact X1.hi
      have lt_R_F : w.heap.size + 1 < qb2 := by rw [hq2.out]; exact R1.hi
      have ne_F_sp : ¬ (p1 = qb2) := fun e => by rw [hq2.out] at e; have h1 := sp1.lt; omega
      have ne_F_sq : ¬ (q1 = qb2) := fun e => by rw [hq2.out] at e; have h1 := sq1.lt; omega
      clear B1 X1 R1 sp1 sq1 bb2
      go_wp2_with fail
      rw [← hw2.out]
      (try rw [← hq2.out])
      clear hw2 hq2
      refine (kS _ _ _ sp2 sq2).mono ?_
      rintro e w3 ⟨c, cc, rfl, sx, sy, bb3, hc, hd⟩
      have B3 := B2.trans (bb3.mono B2.size)
      have X3 := X2.below bb3 (Nat.le_refl _)
      have R3 := R2.below bb3 (Nat.le_refl _)
      have sp3 := sp2.below bb3 sp2.lt
      have sq3 := sq2.below bb3 sq2.lt
      have F3 := F2.below bb3 (Nat.le_refl _)
      clear B2 X2 R2 sp2 sq2 F2 bb3
      have sx3 := sx
      clear sx
      have sy3 := sy
      clear sy
      clear kS hc hd
      clear sp3 sq3
      go_wp2_with fail
      refine (kF _ _ _ sx3 sy3).mono ?_
      rintro e w4 ⟨v, rfl, of, bb4⟩
      obtain ⟨h5, s5, t5, u5, h6, s6, t6, u6, eqf⟩ := of.cell
      skip
      obtain ⟨kk5, hk5⟩ : ∃ q, (a.2 + (k : Int)) = q := ⟨_, rfl⟩
      replace eqf : v = .agg #[.bool h5, .slice s5 t5 u5, .bool h6, .slice s6 t6 u6, .int .i64 (a.2 + (k : Int))] := eqf
      rw [hk5] at eqf
      subst eqf
      replace hk5 : Hid (_ = kk5) := hk5
      have ap_X_of : Apart (blkP (.agg #[.bool h5, .slice s5 t5 u5, .bool h6, .slice s6 t6 u6, .int .i64 kk5])) [w.heap.size] := apart_one fun q hq => by have h1 := (ownsP.ltb of q hq).1; have h2 := X3.hi; omega
      have ap_R_of : Apart (blkP (.agg #[.bool h5, .slice s5 t5 u5, .bool h6, .slice s6 t6 u6, .int .i64 kk5])) [w.heap.size + 1] := apart_one fun q hq => by have h1 := (ownsP.ltb of q hq).1; have h2 := R3.hi; omega
      have ap_F_of : Apart (blkP (.agg #[.bool h5, .slice s5 t5 u5, .bool h6, .slice s6 t6 u6, .int .i64 kk5])) [qb2] := apart_one fun q hq => by have h1 := (ownsP.ltb of q hq).1; have h2 := F3.hi; omega
      replace of := ownsP_mono of B3.size
      have B4 := B3.trans (bb4.mono B3.size)
      have X4 := X3.below bb4 (Nat.le_refl _)
      have R4 := R3.below bb4 (Nat.le_refl _)
      have F4 := F3.below bb4 (Nat.le_refl _)
      have sx4 := sx3.below bb4 sx3.lt
      have sy4 := sy3.below bb4 sy3.lt
      clear B3 X3 R3 F3 sx3 sy3 bb4
      have of4 := of
      clear of
      clear kF
      clear sx4 sy4 F4
      clear kC
      clear X4
      skip
      obtain ⟨wN, hwN⟩ : ∃ v, Hid (v = w4.alloc (.cells #[.bool h5, .slice s5 t5 u5, .bool h6, .slice s6 t6 u6, .int .i64 kk5] 34)) := ⟨_, rfl⟩
      have NN : BoxL wN w.heap.size w4.heap.size [.bool h5, .slice s5 t5 u5, .bool h6, .slice s6 t6 u6, .int .i64 kk5] := by rw [hwN.out]; exact (BoxL.made w4 [.bool h5, .slice s5 t5 u5, .bool h6, .slice s6 t6 u6, .int .i64 kk5] 34).mono B4.size
      have RN : BoxL wN w.heap.size (w.heap.size + 1) [.bool false, .slice none 0 0, .bool false, .slice none 0 0, .int .i64 0] := by rw [hwN.out]; exact R4.below (below1 _ _) (Nat.le_refl _)
      have hRlt := R4.hi
      have cN0 := NN.c 0 _ rfl
      have cR0 := RN.c 0 _ rfl
      have fR0 := RN.f 0 _ rfl
      have cN1 := NN.c 1 _ rfl
      have cR1 := RN.c 1 _ rfl
      have fR1 := RN.f 1 _ rfl
      have cN2 := NN.c 2 _ rfl
      have cR2 := RN.c 2 _ rfl
      have fR2 := RN.f 2 _ rfl
      have cN3 := NN.c 3 _ rfl
      have cR3 := RN.c 3 _ rfl
      have fR3 := RN.f 3 _ rfl
      have cN4 := NN.c 4 _ rfl
      have cR4 := RN.c 4 _ rfl
      have fR4 := RN.f 4 _ rfl
      rw [hwN.out] at cN0
      rw [hwN.out] at cR0
      rw [hwN.out] at fR0
      rw [hwN.out] at cN1
      rw [hwN.out] at cR1
      rw [hwN.out] at fR1
      rw [hwN.out] at cN2
      rw [hwN.out] at cR2
      rw [hwN.out] at fR2
      rw [hwN.out] at cN3
      rw [hwN.out] at cR3
      rw [hwN.out] at fR3
      rw [hwN.out] at cN4
      rw [hwN.out] at cR4
      rw [hwN.out] at fR4
      clear NN RN hwN wN
      have dR0 := R4.c 0 _ rfl
      have gR0 := R4.f 0 _ rfl
      have dR1 := R4.c 1 _ rfl
      have gR1 := R4.f 1 _ rfl
      have dR2 := R4.c 2 _ rfl
      have gR2 := R4.f 2 _ rfl
      have dR3 := R4.c 3 _ rfl
      have gR3 := R4.f 3 _ rfl
      have dR4 := R4.c 4 _ rfl
      have gR4 := R4.f 4 _ rfl
      have HB0 := (((((B4.setCell (p := ⟨w.heap.size + 1, 0, none⟩) (by show w.heap.size ≤ w.heap.size + 1; omega) (.bool h5)).setCell (p := ⟨w.heap.size + 1, 1, none⟩) (by show w.heap.size ≤ w.heap.size + 1; omega) (.slice s5 t5 u5)).setCell (p := ⟨w.heap.size + 1, 2, none⟩) (by show w.heap.size ≤ w.heap.size + 1; omega) (.bool h6)).setCell (p := ⟨w.heap.size + 1, 3, none⟩) (by show w.heap.size ≤ w.heap.size + 1; omega) (.slice s6 t6 u6)).setCell (p := ⟨w.heap.size + 1, 4, none⟩) (by show w.heap.size ≤ w.heap.size + 1; omega) (.int .i64 kk5))
      have HT := ownsP.tn of4 (((((tnL w4 (w.heap.size + 1) 0 (.bool h5)).trans (tnL _ (w.heap.size + 1) 1 (.slice s5 t5 u5))).trans (tnL _ (w.heap.size + 1) 2 (.bool h6))).trans (tnL _ (w.heap.size + 1) 3 (.slice s6 t6 u6))).trans (tnL _ (w.heap.size + 1) 4 (.int .i64 kk5))) ap_R_of
      have HF := And.intro (ownsP.below HT (below1 _ (.cells #[.bool h5, .slice s5 t5 u5, .bool h6, .slice s6 t6 u6, .int .i64 kk5] 34)) (Nat.le_refl _)) (HB0.alloc HB0.size (.cells #[.bool h5, .slice s5 t5 u5, .bool h6, .slice s6 t6 u6, .int .i64 kk5] 34))
      replace HF : Hid _ := HF
      clear HB0 HT B4 of4 R4
      go_wp2
      (try simp only [Exit.inBlock, Exit.then])
      refine bodyPost_ret (v := .tuple #[.agg #[.bool h5, .slice s5 t5 u5, .bool h6, .slice s6 t6 u6, .int .i64 kk5], .bool true]) ?_ rfl ⟨_, by rw [HR.out], by rw [HR.out]; exact HF.out.1, HF.out.2⟩
      rw [results_cell_tmp rfl]
      go_simp
    · clear ha hl0 hl1
      have B0_0 : Below w.heap.size w w := Below.refl _ _
      obtain ⟨ww1, hww1⟩ : ∃ v, v = w.alloc (.cells #[.bool gx, .slice ax nx cx, .bool gy, .slice ay ny cy, .int .i64 a.2] 34) := ⟨_, rfl⟩
      have sz1 : ww1.heap.size = w.heap.size + 1 := by rw [hww1]; simp
      have bw1 : Below w.heap.size w ww1 := by rw [hww1]; exact below1 _ _
      have B0_1 := B0_0.trans (bw1.mono B0_0.size)
      have X0_1 : BoxL ww1 w.heap.size w.heap.size [.bool gx, .slice ax nx cx, .bool gy, .slice ay ny cy, .int .i64 a.2] := by rw [hww1]; have h := BoxL.made w [.bool gx, .slice ax nx cx, .bool gy, .slice ay ny cy, .int .i64 a.2] 34; exact h
      obtain ⟨ww2, hww2⟩ : ∃ v, v = ww1.alloc (.cells #[.bool false, .slice none 0 0, .bool false, .slice none 0 0, .int .i64 0] 34) := ⟨_, rfl⟩
      have sz2 : ww2.heap.size = w.heap.size + 1 + 1 := by rw [hww2]; simp [sz1]
      have bw2 : Below ww1.heap.size ww1 ww2 := by rw [hww2]; exact below1 _ _
      have B0_2 := B0_1.trans (bw2.mono B0_1.size)
      have X0_2 := X0_1.below bw2 (Nat.le_refl _)
      have R0_2 : BoxL ww2 (w.heap.size + 1) (w.heap.size + 1) [.bool false, .slice none 0 0, .bool false, .slice none 0 0, .int .i64 0] := by rw [hww2]; have h := BoxL.made ww1 [.bool false, .slice none 0 0, .bool false, .slice none 0 0, .int .i64 0] 34; rw [sz1] at h; exact h
      have X0 := X0_2
      have R0 := R0_2.mono (by omega : w.heap.size ≤ w.heap.size + 1)
      have B0 := B0_2
      clear B0_0 B0_1 B0_2 bw1 bw2 X0_1 X0_2 R0_2
      go_enter Try.func18, Try.ntmps18
      go_wp2_with fail
      have hvv : (w.alloc (.cells #[.bool gx, .slice ax nx cx, .bool gy, .slice ay ny cy, .int .i64 a.2] 34)).alloc (.cells #[.bool false, .slice none 0 0, .bool false, .slice none 0 0, .int .i64 0] 34) = ww2 := by rw [hww2]; rw [hww1]
      rw [hvv]
      clear hvv hww1 hww2 sz1
      clear ww1
      have hz0 : w.heap.size + 2 ≤ ww2.heap.size := by omega
      clear sz2
      refine (kA _ B0).mono ?_
      rintro e w1 ⟨ox, oy, rfl, bb1, hXY⟩
      obtain ⟨p1, q1, rfl, rfl, sp, sq⟩ := hXY (by first | exact trivial | rfl)
      have B1 := B0.trans (bb1.mono B0.size)
      have X1 := X0.below bb1 (Nat.le_refl _)
      have R1 := R0.below bb1 (Nat.le_refl _)
      clear B0 X0 R0 bb1
      have sp1 := sp
      clear sp
      have sq1 := sq
      clear sq
      clear kA
      obtain ⟨w2, hw2⟩ : ∃ v, Hid (v = w1.alloc (.cells #[.pointer (some ⟨p1, 0, none⟩), .pointer (some ⟨q1, 0, none⟩), .int .i64 a.2] 65)) := ⟨_, rfl⟩
      have bb2 : Below w1.heap.size w1 w2 := by rw [hw2.out]; exact below1 _ _
      obtain ⟨qb2, hq2⟩ : ∃ v, Hid (v = w1.heap.size) := ⟨_, rfl⟩
      have F2 : BoxL w2 w.heap.size qb2 [.pointer (some ⟨p1, 0, none⟩), .pointer (some ⟨q1, 0, none⟩), .int .i64 a.2] := by rw [hw2.out, hq2.out]; exact (BoxL.made w1 [.pointer (some ⟨p1, 0, none⟩), .pointer (some ⟨q1, 0, none⟩), .int .i64 a.2] 65).mono B1.size
      have B2 := B1.trans (bb2.mono B1.size)
      have X2 := X1.below bb2 (Nat.le_refl _)
      have R2 := R1.below bb2 (Nat.le_refl _)
      have sp2 := sp1.below bb2 sp1.lt
      have sq2 := sq1.below bb2 sq1.lt
      have lt_X_F : w.heap.size < qb2 := by rw [hq2.out]; exact X1.hi
      have lt_R_F : w.heap.size + 1 < qb2 := by rw [hq2.out]; exact R1.hi
      have ne_F_sp : ¬ (p1 = qb2) := fun e => by rw [hq2.out] at e; have h1 := sp1.lt; omega
      have ne_F_sq : ¬ (q1 = qb2) := fun e => by rw [hq2.out] at e; have h1 := sq1.lt; omega
      clear B1 X1 R1 sp1 sq1 bb2
      go_wp2_with fail
      rw [← hw2.out]
      (try rw [← hq2.out])
      clear hw2 hq2
      refine (kS _ _ _ sp2 sq2).mono ?_
      rintro e w3 ⟨c, cc, rfl, sx, sy, bb3, hc, hd⟩
      have B3 := B2.trans (bb3.mono B2.size)
      have X3 := X2.below bb3 (Nat.le_refl _)
      have R3 := R2.below bb3 (Nat.le_refl _)
      have sp3 := sp2.below bb3 sp2.lt
      have sq3 := sq2.below bb3 sq2.lt
      have F3 := F2.below bb3 (Nat.le_refl _)
      clear B2 X2 R2 sp2 sq2 F2 bb3
      have sx3 := sx
      clear sx
      have sy3 := sy
      clear sy
      clear kS hc hd
      clear sp3 sq3
      go_wp2_with fail
      refine (kF _ _ _ sx3 sy3).mono ?_
      rintro e w4 ⟨v, rfl, of, bb4⟩
      obtain ⟨h5, s5, t5, u5, h6, s6, t6, u6, eqf⟩ := of.cell
      skip
      obtain ⟨kk5, hk5⟩ : ∃ q, (a.2 + (k : Int)) = q := ⟨_, rfl⟩
      replace eqf : v = .agg #[.bool h5, .slice s5 t5 u5, .bool h6, .slice s6 t6 u6, .int .i64 (a.2 + (k : Int))] := eqf
      rw [hk5] at eqf
      subst eqf
      replace hk5 : Hid (_ = kk5) := hk5
      have ap_X_of : Apart (blkP (.agg #[.bool h5, .slice s5 t5 u5, .bool h6, .slice s6 t6 u6, .int .i64 kk5])) [w.heap.size] := apart_one fun q hq => by have h1 := (ownsP.ltb of q hq).1; have h2 := X3.hi; omega
      have ap_R_of : Apart (blkP (.agg #[.bool h5, .slice s5 t5 u5, .bool h6, .slice s6 t6 u6, .int .i64 kk5])) [w.heap.size + 1] := apart_one fun q hq => by have h1 := (ownsP.ltb of q hq).1; have h2 := R3.hi; omega
      have ap_F_of : Apart (blkP (.agg #[.bool h5, .slice s5 t5 u5, .bool h6, .slice s6 t6 u6, .int .i64 kk5])) [qb2] := apart_one fun q hq => by have h1 := (ownsP.ltb of q hq).1; have h2 := F3.hi; omega
      replace of := ownsP_mono of B3.size
      have B4 := B3.trans (bb4.mono B3.size)
      have X4 := X3.below bb4 (Nat.le_refl _)
      have R4 := R3.below bb4 (Nat.le_refl _)
      have F4 := F3.below bb4 (Nat.le_refl _)
      have sx4 := sx3.below bb4 sx3.lt
      have sy4 := sy3.below bb4 sy3.lt
      clear B3 X3 R3 F3 sx3 sy3 bb4
      have of4 := of
      clear of
      clear kF
      clear sx4 sy4 F4
      clear kC
      clear X4
      skip
      obtain ⟨wN, hwN⟩ : ∃ v, Hid (v = w4.alloc (.cells #[.bool h5, .slice s5 t5 u5, .bool h6, .slice s6 t6 u6, .int .i64 kk5] 34)) := ⟨_, rfl⟩
      have NN : BoxL wN w.heap.size w4.heap.size [.bool h5, .slice s5 t5 u5, .bool h6, .slice s6 t6 u6, .int .i64 kk5] := by rw [hwN.out]; exact (BoxL.made w4 [.bool h5, .slice s5 t5 u5, .bool h6, .slice s6 t6 u6, .int .i64 kk5] 34).mono B4.size
      have RN : BoxL wN w.heap.size (w.heap.size + 1) [.bool false, .slice none 0 0, .bool false, .slice none 0 0, .int .i64 0] := by rw [hwN.out]; exact R4.below (below1 _ _) (Nat.le_refl _)
      have hRlt := R4.hi
      have cN0 := NN.c 0 _ rfl
      have cR0 := RN.c 0 _ rfl
      have fR0 := RN.f 0 _ rfl
      have cN1 := NN.c 1 _ rfl
      have cR1 := RN.c 1 _ rfl
      have fR1 := RN.f 1 _ rfl
      have cN2 := NN.c 2 _ rfl
      have cR2 := RN.c 2 _ rfl
      have fR2 := RN.f 2 _ rfl
      have cN3 := NN.c 3 _ rfl
      have cR3 := RN.c 3 _ rfl
      have fR3 := RN.f 3 _ rfl
      have cN4 := NN.c 4 _ rfl
      have cR4 := RN.c 4 _ rfl
      have fR4 := RN.f 4 _ rfl
      rw [hwN.out] at cN0
      rw [hwN.out] at cR0
      rw [hwN.out] at fR0
      rw [hwN.out] at cN1
      rw [hwN.out] at cR1
      rw [hwN.out] at fR1
      rw [hwN.out] at cN2
      rw [hwN.out] at cR2
      rw [hwN.out] at fR2
      rw [hwN.out] at cN3
      rw [hwN.out] at cR3
      rw [hwN.out] at fR3
      rw [hwN.out] at cN4
      rw [hwN.out] at cR4
      rw [hwN.out] at fR4
      clear NN RN hwN wN
      have dR0 := R4.c 0 _ rfl
      have gR0 := R4.f 0 _ rfl
      have dR1 := R4.c 1 _ rfl
      have gR1 := R4.f 1 _ rfl
      have dR2 := R4.c 2 _ rfl
      have gR2 := R4.f 2 _ rfl
      have dR3 := R4.c 3 _ rfl
      have gR3 := R4.f 3 _ rfl
      have dR4 := R4.c 4 _ rfl
      have gR4 := R4.f 4 _ rfl
      have HB0 := (((((B4.setCell (p := ⟨w.heap.size + 1, 0, none⟩) (by show w.heap.size ≤ w.heap.size + 1; omega) (.bool h5)).setCell (p := ⟨w.heap.size + 1, 1, none⟩) (by show w.heap.size ≤ w.heap.size + 1; omega) (.slice s5 t5 u5)).setCell (p := ⟨w.heap.size + 1, 2, none⟩) (by show w.heap.size ≤ w.heap.size + 1; omega) (.bool h6)).setCell (p := ⟨w.heap.size + 1, 3, none⟩) (by show w.heap.size ≤ w.heap.size + 1; omega) (.slice s6 t6 u6)).setCell (p := ⟨w.heap.size + 1, 4, none⟩) (by show w.heap.size ≤ w.heap.size + 1; omega) (.int .i64 kk5))
      have HT := ownsP.tn of4 (((((tnL w4 (w.heap.size + 1) 0 (.bool h5)).trans (tnL _ (w.heap.size + 1) 1 (.slice s5 t5 u5))).trans (tnL _ (w.heap.size + 1) 2 (.bool h6))).trans (tnL _ (w.heap.size + 1) 3 (.slice s6 t6 u6))).trans (tnL _ (w.heap.size + 1) 4 (.int .i64 kk5))) ap_R_of
      have HF := And.intro (ownsP.below HT (below1 _ (.cells #[.bool h5, .slice s5 t5 u5, .bool h6, .slice s6 t6 u6, .int .i64 kk5] 34)) (Nat.le_refl _)) (HB0.alloc HB0.size (.cells #[.bool h5, .slice s5 t5 u5, .bool h6, .slice s6 t6 u6, .int .i64 kk5] 34))
      replace HF : Hid _ := HF
      clear HB0 HT B4 of4 R4
      go_wp2
      (try simp only [Exit.inBlock, Exit.then])
      refine bodyPost_ret (v := .tuple #[.agg #[.bool h5, .slice s5 t5 u5, .bool h6, .slice s6 t6 u6, .int .i64 kk5], .bool true]) ?_ rfl ⟨_, by rw [HR.out], by rw [HR.out]; exact HF.out.1, HF.out.2⟩
      rw [results_cell_tmp rfl]
      go_simp
  · rw [if_neg (fun h => by rw [hO] at h; cases h)] at HQ
    have HR := HQ
    clear HQ hO hff z m1 m2 c0 hk30 z3 z4
    obtain ⟨f1, f2⟩ := ff
    obtain rfl : f2 = false := eO
    rcases c2 with rfl | rfl
    · clear ha hl0 hl1
      have B0_0 : Below w.heap.size w w := Below.refl _ _
      obtain ⟨ww1, hww1⟩ : ∃ v, v = w.alloc (.cells #[.bool gx, .slice ax nx cx, .bool gy, .slice ay ny cy, .int .i64 a.2] 34) := ⟨_, rfl⟩
      have sz1 : ww1.heap.size = w.heap.size + 1 := by rw [hww1]; simp
      have bw1 : Below w.heap.size w ww1 := by rw [hww1]; exact below1 _ _
      have B0_1 := B0_0.trans (bw1.mono B0_0.size)
      have X0_1 : BoxL ww1 w.heap.size w.heap.size [.bool gx, .slice ax nx cx, .bool gy, .slice ay ny cy, .int .i64 a.2] := by rw [hww1]; have h := BoxL.made w [.bool gx, .slice ax nx cx, .bool gy, .slice ay ny cy, .int .i64 a.2] 34; exact h
      obtain ⟨ww2, hww2⟩ : ∃ v, v = ww1.alloc (.cells #[.bool false, .slice none 0 0, .bool false, .slice none 0 0, .int .i64 0] 34) := ⟨_, rfl⟩
      have sz2 : ww2.heap.size = w.heap.size + 1 + 1 := by rw [hww2]; simp [sz1]
      have bw2 : Below ww1.heap.size ww1 ww2 := by rw [hww2]; exact below1 _ _
      have B0_2 := B0_1.trans (bw2.mono B0_1.size)
      have X0_2 := X0_1.below bw2 (Nat.le_refl _)
      have R0_2 : BoxL ww2 (w.heap.size + 1) (w.heap.size + 1) [.bool false, .slice none 0 0, .bool false, .slice none 0 0, .int .i64 0] := by rw [hww2]; have h := BoxL.made ww1 [.bool false, .slice none 0 0, .bool false, .slice none 0 0, .int .i64 0] 34; rw [sz1] at h; exact h
      have X0 := X0_2
      have R0 := R0_2.mono (by omega : w.heap.size ≤ w.heap.size + 1)
      have B0 := B0_2
      clear B0_0 B0_1 B0_2 bw1 bw2 X0_1 X0_2 R0_2
      go_enter Try.func18, Try.ntmps18
      go_wp2_with fail
      have hvv : (w.alloc (.cells #[.bool gx, .slice ax nx cx, .bool gy, .slice ay ny cy, .int .i64 a.2] 34)).alloc (.cells #[.bool false, .slice none 0 0, .bool false, .slice none 0 0, .int .i64 0] 34) = ww2 := by rw [hww2]; rw [hww1]
      rw [hvv]
      clear hvv hww1 hww2 sz1
      clear ww1
      have hz0 : w.heap.size + 2 ≤ ww2.heap.size := by omega
      clear sz2
      refine (kA _ B0).mono ?_
      rintro e w1 ⟨ox, oy, rfl, bb1, hXY⟩
      obtain ⟨p1, q1, rfl, rfl, sp, sq⟩ := hXY (by first | exact trivial | rfl)
      have B1 := B0.trans (bb1.mono B0.size)
      have X1 := X0.below bb1 (Nat.le_refl _)
      have R1 := R0.below bb1 (Nat.le_refl _)
      clear B0 X0 R0 bb1
      have sp1 := sp
      clear sp
      have sq1 := sq
      clear sq
      clear kA
      obtain ⟨w2, hw2⟩ : ∃ v, Hid (v = w1.alloc (.cells #[.pointer (some ⟨p1, 0, none⟩), .pointer (some ⟨q1, 0, none⟩), .int .i64 a.2] 65)) := ⟨_, rfl⟩
      have bb2 : Below w1.heap.size w1 w2 := by rw [hw2.out]; exact below1 _ _
      obtain ⟨qb2, hq2⟩ : ∃ v, Hid (v = w1.heap.size) := ⟨_, rfl⟩
      have F2 : BoxL w2 w.heap.size qb2 [.pointer (some ⟨p1, 0, none⟩), .pointer (some ⟨q1, 0, none⟩), .int .i64 a.2] := by rw [hw2.out, hq2.out]; exact (BoxL.made w1 [.pointer (some ⟨p1, 0, none⟩), .pointer (some ⟨q1, 0, none⟩), .int .i64 a.2] 65).mono B1.size
      have B2 := B1.trans (bb2.mono B1.size)
      have X2 := X1.below bb2 (Nat.le_refl _)
      have R2 := R1.below bb2 (Nat.le_refl _)
      have sp2 := sp1.below bb2 sp1.lt
      have sq2 := sq1.below bb2 sq1.lt
      have lt_X_F : w.heap.size < qb2 := by rw [hq2.out]; exact X1.hi
      have lt_R_F : w.heap.size + 1 < qb2 := by rw [hq2.out]; exact R1.hi
      have ne_F_sp : ¬ (p1 = qb2) := fun e => by rw [hq2.out] at e; have h1 := sp1.lt; omega
      have ne_F_sq : ¬ (q1 = qb2) := fun e => by rw [hq2.out] at e; have h1 := sq1.lt; omega
      clear B1 X1 R1 sp1 sq1 bb2
      go_wp2_with fail
      rw [← hw2.out]
      (try rw [← hq2.out])
      clear hw2 hq2
      refine (kS _ _ _ sp2 sq2).mono ?_
      rintro e w3 ⟨c, cc, rfl, sx, sy, bb3, hc, hd⟩
      have B3 := B2.trans (bb3.mono B2.size)
      have X3 := X2.below bb3 (Nat.le_refl _)
      have R3 := R2.below bb3 (Nat.le_refl _)
      have sp3 := sp2.below bb3 sp2.lt
      have sq3 := sq2.below bb3 sq2.lt
      have F3 := F2.below bb3 (Nat.le_refl _)
      clear B2 X2 R2 sp2 sq2 F2 bb3
      have sx3 := sx
      clear sx
      have sy3 := sy
      clear sy
      clear kS hc hd
      clear sp3 sq3
      go_wp2_with fail
      refine (kF _ _ _ sx3 sy3).mono ?_
      rintro e w4 ⟨v, rfl, of, bb4⟩
      obtain ⟨h5, s5, t5, u5, h6, s6, t6, u6, eqf⟩ := of.cell
      skip
      obtain ⟨kk5, hk5⟩ : ∃ q, f1.2 = q := ⟨_, rfl⟩
      skip
      rw [hk5] at eqf
      subst eqf
      replace hk5 : Hid (_ = kk5) := hk5
      have ap_X_of : Apart (blkP (.agg #[.bool h5, .slice s5 t5 u5, .bool h6, .slice s6 t6 u6, .int .i64 kk5])) [w.heap.size] := apart_one fun q hq => by have h1 := (ownsP.ltb of q hq).1; have h2 := X3.hi; omega
      have ap_R_of : Apart (blkP (.agg #[.bool h5, .slice s5 t5 u5, .bool h6, .slice s6 t6 u6, .int .i64 kk5])) [w.heap.size + 1] := apart_one fun q hq => by have h1 := (ownsP.ltb of q hq).1; have h2 := R3.hi; omega
      have ap_F_of : Apart (blkP (.agg #[.bool h5, .slice s5 t5 u5, .bool h6, .slice s6 t6 u6, .int .i64 kk5])) [qb2] := apart_one fun q hq => by have h1 := (ownsP.ltb of q hq).1; have h2 := F3.hi; omega
      replace of := ownsP_mono of B3.size
      have B4 := B3.trans (bb4.mono B3.size)
      have X4 := X3.below bb4 (Nat.le_refl _)
      have R4 := R3.below bb4 (Nat.le_refl _)
      have F4 := F3.below bb4 (Nat.le_refl _)
      have sx4 := sx3.below bb4 sx3.lt
      have sy4 := sy3.below bb4 sy3.lt
      clear B3 X3 R3 F3 sx3 sy3 bb4
      have of4 := of
      clear of
      clear kF
      clear sx4 sy4 F4
      clear of4
      obtain ⟨w5, hw5⟩ : ∃ v, Hid (v = w4.alloc (.cells #[.bool h5, .slice s5 t5 u5, .bool h6, .slice s6 t6 u6, .int .i64 kk5] 34)) := ⟨_, rfl⟩
      have bb5 : Below w4.heap.size w4 w5 := by rw [hw5.out]; exact below1 _ _
      obtain ⟨qb5, hq5⟩ : ∃ v, Hid (v = w4.heap.size) := ⟨_, rfl⟩
      have N5 : BoxL w5 w.heap.size qb5 [.bool h5, .slice s5 t5 u5, .bool h6, .slice s6 t6 u6, .int .i64 kk5] := by rw [hw5.out, hq5.out]; exact (BoxL.made w4 [.bool h5, .slice s5 t5 u5, .bool h6, .slice s6 t6 u6, .int .i64 kk5] 34).mono B4.size
      have B5 := B4.trans (bb5.mono B4.size)
      have X5 := X4.below bb5 (Nat.le_refl _)
      have R5 := R4.below bb5 (Nat.le_refl _)
      have lt_X_N : w.heap.size < qb5 := by rw [hq5.out]; exact X4.hi
      have lt_R_N : w.heap.size + 1 < qb5 := by rw [hq5.out]; exact R4.hi
      clear B4 X4 R4 bb5
      have c_X_0 := X5.c 0 _ rfl
      have c_X_1 := X5.c 1 _ rfl
      have c_X_2 := X5.c 2 _ rfl
      have c_X_3 := X5.c 3 _ rfl
      have c_X_4 := X5.c 4 _ rfl
      rw [hw5.out] at c_X_0
      rw [hw5.out] at c_X_1
      rw [hw5.out] at c_X_2
      rw [hw5.out] at c_X_3
      rw [hw5.out] at c_X_4
      go_wp2_with fail
      rw [← hw5.out]
      (try rw [← hq5.out])
      clear c_X_0 c_X_1 c_X_2 c_X_3 c_X_4
      clear hw5 hq5
      refine (kC _ B5).mono ?_
      rintro e w6 ⟨v, rfl, oz, bb6⟩
      obtain ⟨h8, s8, t8, u8, h9, s9, t9, u9, eqz⟩ := oz.cell
      subst eqz
      generalize hkz : a.2 = kk9 at *
      replace hkz : Hid (a.2 = kk9) := hkz
      have ap_X_oz : Apart (blkP (.agg #[.bool h8, .slice s8 t8 u8, .bool h9, .slice s9 t9 u9, .int .i64 kk9])) [w.heap.size] := apart_one fun q hq => by have h1 := (ownsP.ltb oz q hq).1; have h2 := X5.hi; omega
      have ap_R_oz : Apart (blkP (.agg #[.bool h8, .slice s8 t8 u8, .bool h9, .slice s9 t9 u9, .int .i64 kk9])) [w.heap.size + 1] := apart_one fun q hq => by have h1 := (ownsP.ltb oz q hq).1; have h2 := R5.hi; omega
      have ap_N_oz : Apart (blkP (.agg #[.bool h8, .slice s8 t8 u8, .bool h9, .slice s9 t9 u9, .int .i64 kk9])) [qb5] := apart_one fun q hq => by have h1 := (ownsP.ltb oz q hq).1; have h2 := N5.hi; omega
      replace oz := ownsP_mono oz B5.size
      have B6 := B5.trans (bb6.mono B5.size)
      have X6 := X5.below bb6 (Nat.le_refl _)
      have R6 := R5.below bb6 (Nat.le_refl _)
      have N6 := N5.below bb6 (Nat.le_refl _)
      clear B5 X5 R5 N5 bb6
      have oz6 := oz
      clear oz
      clear kC
      clear X6
      have c_R_0 := R6.c 0 _ rfl
      have f_R_0 := R6.f 0 _ rfl
      have c_R_1 := R6.c 1 _ rfl
      have f_R_1 := R6.f 1 _ rfl
      have c_R_2 := R6.c 2 _ rfl
      have f_R_2 := R6.f 2 _ rfl
      have c_R_3 := R6.c 3 _ rfl
      have f_R_3 := R6.f 3 _ rfl
      have c_R_4 := R6.c 4 _ rfl
      have f_R_4 := R6.f 4 _ rfl
      obtain ⟨w7, hw7⟩ : ∃ v, v = ((((w6.setCell ⟨w.heap.size + 1, 0, none⟩ (.bool h8)).setCell ⟨w.heap.size + 1, 1, none⟩ (.slice s8 t8 u8)).setCell ⟨w.heap.size + 1, 2, none⟩ (.bool h9)).setCell ⟨w.heap.size + 1, 3, none⟩ (.slice s9 t9 u9)).setCell ⟨w.heap.size + 1, 4, none⟩ (.int .i64 kk9) := ⟨_, rfl⟩
      have tn7 : Tn [w.heap.size + 1] w6 w7 := by rw [hw7]; exact (((((tnL w6 (w.heap.size + 1) 0 (.bool h8)).trans (tnL _ (w.heap.size + 1) 1 (.slice s8 t8 u8))).trans (tnL _ (w.heap.size + 1) 2 (.bool h9))).trans (tnL _ (w.heap.size + 1) 3 (.slice s9 t9 u9))).trans (tnL _ (w.heap.size + 1) 4 (.int .i64 kk9)))
      have R7 : BoxL w7 w.heap.size (w.heap.size + 1) [.bool h8, .slice s8 t8 u8, .bool h9, .slice s9 t9 u9, .int .i64 kk9] := by rw [hw7]; exact (((((R6.set 0 (.bool h8) (by simp)).set 1 (.slice s8 t8 u8) (by simp)).set 2 (.bool h9) (by simp)).set 3 (.slice s9 t9 u9) (by simp)).set 4 (.int .i64 kk9) (by simp))
      have blo7 := R6.lo
      have B7 := tn7.below B6 B6.size (fun q hq => by simp at hq; omega)
      have N7 := N6.tn tn7 (not_one (by omega))
      have oz7 := ownsP.tn oz6 tn7 ap_R_oz
      clear B6 R6 N6 oz6 tn7 blo7
      subst hw7
      go_wp2
      (try simp only [Exit.inBlock, Exit.then])
      refine bodyPost_ret (v := .tuple #[.agg #[.bool h8, .slice s8 t8 u8, .bool h9, .slice s9 t9 u9, .int .i64 kk9], .bool false]) ?_ rfl ⟨_, by rw [HR.out], by rw [HR.out]; exact oz7, B7⟩
      rw [results_cell_tmp rfl]
      go_simp
    · clear ha hl0 hl1
      have B0_0 : Below w.heap.size w w := Below.refl _ _
      obtain ⟨ww1, hww1⟩ : ∃ v, v = w.alloc (.cells #[.bool gx, .slice ax nx cx, .bool gy, .slice ay ny cy, .int .i64 a.2] 34) := ⟨_, rfl⟩
      have sz1 : ww1.heap.size = w.heap.size + 1 := by rw [hww1]; simp
      have bw1 : Below w.heap.size w ww1 := by rw [hww1]; exact below1 _ _
      have B0_1 := B0_0.trans (bw1.mono B0_0.size)
      have X0_1 : BoxL ww1 w.heap.size w.heap.size [.bool gx, .slice ax nx cx, .bool gy, .slice ay ny cy, .int .i64 a.2] := by rw [hww1]; have h := BoxL.made w [.bool gx, .slice ax nx cx, .bool gy, .slice ay ny cy, .int .i64 a.2] 34; exact h
      obtain ⟨ww2, hww2⟩ : ∃ v, v = ww1.alloc (.cells #[.bool false, .slice none 0 0, .bool false, .slice none 0 0, .int .i64 0] 34) := ⟨_, rfl⟩
      have sz2 : ww2.heap.size = w.heap.size + 1 + 1 := by rw [hww2]; simp [sz1]
      have bw2 : Below ww1.heap.size ww1 ww2 := by rw [hww2]; exact below1 _ _
      have B0_2 := B0_1.trans (bw2.mono B0_1.size)
      have X0_2 := X0_1.below bw2 (Nat.le_refl _)
      have R0_2 : BoxL ww2 (w.heap.size + 1) (w.heap.size + 1) [.bool false, .slice none 0 0, .bool false, .slice none 0 0, .int .i64 0] := by rw [hww2]; have h := BoxL.made ww1 [.bool false, .slice none 0 0, .bool false, .slice none 0 0, .int .i64 0] 34; rw [sz1] at h; exact h
      have X0 := X0_2
      have R0 := R0_2.mono (by omega : w.heap.size ≤ w.heap.size + 1)
      have B0 := B0_2
      clear B0_0 B0_1 B0_2 bw1 bw2 X0_1 X0_2 R0_2
      go_enter Try.func18, Try.ntmps18
      go_wp2_with fail
      have hvv : (w.alloc (.cells #[.bool gx, .slice ax nx cx, .bool gy, .slice ay ny cy, .int .i64 a.2] 34)).alloc (.cells #[.bool false, .slice none 0 0, .bool false, .slice none 0 0, .int .i64 0] 34) = ww2 := by rw [hww2]; rw [hww1]
      rw [hvv]
      clear hvv hww1 hww2 sz1
      clear ww1
      have hz0 : w.heap.size + 2 ≤ ww2.heap.size := by omega
      clear sz2
      refine (kA _ B0).mono ?_
      rintro e w1 ⟨ox, oy, rfl, bb1, hXY⟩
      obtain ⟨p1, q1, rfl, rfl, sp, sq⟩ := hXY (by first | exact trivial | rfl)
      have B1 := B0.trans (bb1.mono B0.size)
      have X1 := X0.below bb1 (Nat.le_refl _)
      have R1 := R0.below bb1 (Nat.le_refl _)
      clear B0 X0 R0 bb1
      have sp1 := sp
      clear sp
      have sq1 := sq
      clear sq
      clear kA
      obtain ⟨w2, hw2⟩ : ∃ v, Hid (v = w1.alloc (.cells #[.pointer (some ⟨p1, 0, none⟩), .pointer (some ⟨q1, 0, none⟩), .int .i64 a.2] 65)) := ⟨_, rfl⟩
      have bb2 : Below w1.heap.size w1 w2 := by rw [hw2.out]; exact below1 _ _
      obtain ⟨qb2, hq2⟩ : ∃ v, Hid (v = w1.heap.size) := ⟨_, rfl⟩
      have F2 : BoxL w2 w.heap.size qb2 [.pointer (some ⟨p1, 0, none⟩), .pointer (some ⟨q1, 0, none⟩), .int .i64 a.2] := by rw [hw2.out, hq2.out]; exact (BoxL.made w1 [.pointer (some ⟨p1, 0, none⟩), .pointer (some ⟨q1, 0, none⟩), .int .i64 a.2] 65).mono B1.size
      have B2 := B1.trans (bb2.mono B1.size)
      have X2 := X1.below bb2 (Nat.le_refl _)
      have R2 := R1.below bb2 (Nat.le_refl _)
      have sp2 := sp1.below bb2 sp1.lt
      have sq2 := sq1.below bb2 sq1.lt
      have lt_X_F : w.heap.size < qb2 := by rw [hq2.out]; exact X1.hi
      have lt_R_F : w.heap.size + 1 < qb2 := by rw [hq2.out]; exact R1.hi
      have ne_F_sp : ¬ (p1 = qb2) := fun e => by rw [hq2.out] at e; have h1 := sp1.lt; omega
      have ne_F_sq : ¬ (q1 = qb2) := fun e => by rw [hq2.out] at e; have h1 := sq1.lt; omega
      clear B1 X1 R1 sp1 sq1 bb2
      go_wp2_with fail
      rw [← hw2.out]
      (try rw [← hq2.out])
      clear hw2 hq2
      refine (kS _ _ _ sp2 sq2).mono ?_
      rintro e w3 ⟨c, cc, rfl, sx, sy, bb3, hc, hd⟩
      have B3 := B2.trans (bb3.mono B2.size)
      have X3 := X2.below bb3 (Nat.le_refl _)
      have R3 := R2.below bb3 (Nat.le_refl _)
      have sp3 := sp2.below bb3 sp2.lt
      have sq3 := sq2.below bb3 sq2.lt
      have F3 := F2.below bb3 (Nat.le_refl _)
      clear B2 X2 R2 sp2 sq2 F2 bb3
      have sx3 := sx
      clear sx
      have sy3 := sy
      clear sy
      clear kS hc hd
      clear sp3 sq3
      go_wp2_with fail
      refine (kF _ _ _ sx3 sy3).mono ?_
      rintro e w4 ⟨v, rfl, of, bb4⟩
      obtain ⟨h5, s5, t5, u5, h6, s6, t6, u6, eqf⟩ := of.cell
      skip
      obtain ⟨kk5, hk5⟩ : ∃ q, f1.2 = q := ⟨_, rfl⟩
      skip
      rw [hk5] at eqf
      subst eqf
      replace hk5 : Hid (_ = kk5) := hk5
      have ap_X_of : Apart (blkP (.agg #[.bool h5, .slice s5 t5 u5, .bool h6, .slice s6 t6 u6, .int .i64 kk5])) [w.heap.size] := apart_one fun q hq => by have h1 := (ownsP.ltb of q hq).1; have h2 := X3.hi; omega
      have ap_R_of : Apart (blkP (.agg #[.bool h5, .slice s5 t5 u5, .bool h6, .slice s6 t6 u6, .int .i64 kk5])) [w.heap.size + 1] := apart_one fun q hq => by have h1 := (ownsP.ltb of q hq).1; have h2 := R3.hi; omega
      have ap_F_of : Apart (blkP (.agg #[.bool h5, .slice s5 t5 u5, .bool h6, .slice s6 t6 u6, .int .i64 kk5])) [qb2] := apart_one fun q hq => by have h1 := (ownsP.ltb of q hq).1; have h2 := F3.hi; omega
      replace of := ownsP_mono of B3.size
      have B4 := B3.trans (bb4.mono B3.size)
      have X4 := X3.below bb4 (Nat.le_refl _)
      have R4 := R3.below bb4 (Nat.le_refl _)
      have F4 := F3.below bb4 (Nat.le_refl _)
      have sx4 := sx3.below bb4 sx3.lt
      have sy4 := sy3.below bb4 sy3.lt
      clear B3 X3 R3 F3 sx3 sy3 bb4
      have of4 := of
      clear of
      clear kF
      clear sx4 sy4 F4
      clear of4
      obtain ⟨w5, hw5⟩ : ∃ v, Hid (v = w4.alloc (.cells #[.bool h5, .slice s5 t5 u5, .bool h6, .slice s6 t6 u6, .int .i64 kk5] 34)) := ⟨_, rfl⟩
      have bb5 : Below w4.heap.size w4 w5 := by rw [hw5.out]; exact below1 _ _
      obtain ⟨qb5, hq5⟩ : ∃ v, Hid (v = w4.heap.size) := ⟨_, rfl⟩
      have N5 : BoxL w5 w.heap.size qb5 [.bool h5, .slice s5 t5 u5, .bool h6, .slice s6 t6 u6, .int .i64 kk5] := by rw [hw5.out, hq5.out]; exact (BoxL.made w4 [.bool h5, .slice s5 t5 u5, .bool h6, .slice s6 t6 u6, .int .i64 kk5] 34).mono B4.size
      have B5 := B4.trans (bb5.mono B4.size)
      have X5 := X4.below bb5 (Nat.le_refl _)
      have R5 := R4.below bb5 (Nat.le_refl _)
      have lt_X_N : w.heap.size < qb5 := by rw [hq5.out]; exact X4.hi
      have lt_R_N : w.heap.size + 1 < qb5 := by rw [hq5.out]; exact R4.hi
      clear B4 X4 R4 bb5
      have c_X_0 := X5.c 0 _ rfl
      have c_X_1 := X5.c 1 _ rfl
      have c_X_2 := X5.c 2 _ rfl
      have c_X_3 := X5.c 3 _ rfl
      have c_X_4 := X5.c 4 _ rfl
      rw [hw5.out] at c_X_0
      rw [hw5.out] at c_X_1
      rw [hw5.out] at c_X_2
      rw [hw5.out] at c_X_3
      rw [hw5.out] at c_X_4
      go_wp2_with fail
      rw [← hw5.out]
      (try rw [← hq5.out])
      clear c_X_0 c_X_1 c_X_2 c_X_3 c_X_4
      clear hw5 hq5
      refine (kC _ B5).mono ?_
      rintro e w6 ⟨v, rfl, oz, bb6⟩
      obtain ⟨h8, s8, t8, u8, h9, s9, t9, u9, eqz⟩ := oz.cell
      subst eqz
      generalize hkz : a.2 = kk9 at *
      replace hkz : Hid (a.2 = kk9) := hkz
      have ap_X_oz : Apart (blkP (.agg #[.bool h8, .slice s8 t8 u8, .bool h9, .slice s9 t9 u9, .int .i64 kk9])) [w.heap.size] := apart_one fun q hq => by have h1 := (ownsP.ltb oz q hq).1; have h2 := X5.hi; omega
      have ap_R_oz : Apart (blkP (.agg #[.bool h8, .slice s8 t8 u8, .bool h9, .slice s9 t9 u9, .int .i64 kk9])) [w.heap.size + 1] := apart_one fun q hq => by have h1 := (ownsP.ltb oz q hq).1; have h2 := R5.hi; omega
      have ap_N_oz : Apart (blkP (.agg #[.bool h8, .slice s8 t8 u8, .bool h9, .slice s9 t9 u9, .int .i64 kk9])) [qb5] := apart_one fun q hq => by have h1 := (ownsP.ltb oz q hq).1; have h2 := N5.hi; omega
      replace oz := ownsP_mono oz B5.size
      have B6 := B5.trans (bb6.mono B5.size)
      have X6 := X5.below bb6 (Nat.le_refl _)
      have R6 := R5.below bb6 (Nat.le_refl _)
      have N6 := N5.below bb6 (Nat.le_refl _)
      clear B5 X5 R5 N5 bb6
      have oz6 := oz
      clear oz
      clear kC
      clear X6
      have c_R_0 := R6.c 0 _ rfl
      have f_R_0 := R6.f 0 _ rfl
      have c_R_1 := R6.c 1 _ rfl
      have f_R_1 := R6.f 1 _ rfl
      have c_R_2 := R6.c 2 _ rfl
      have f_R_2 := R6.f 2 _ rfl
      have c_R_3 := R6.c 3 _ rfl
      have f_R_3 := R6.f 3 _ rfl
      have c_R_4 := R6.c 4 _ rfl
      have f_R_4 := R6.f 4 _ rfl
      obtain ⟨w7, hw7⟩ : ∃ v, v = ((((w6.setCell ⟨w.heap.size + 1, 0, none⟩ (.bool h8)).setCell ⟨w.heap.size + 1, 1, none⟩ (.slice s8 t8 u8)).setCell ⟨w.heap.size + 1, 2, none⟩ (.bool h9)).setCell ⟨w.heap.size + 1, 3, none⟩ (.slice s9 t9 u9)).setCell ⟨w.heap.size + 1, 4, none⟩ (.int .i64 kk9) := ⟨_, rfl⟩
      have tn7 : Tn [w.heap.size + 1] w6 w7 := by rw [hw7]; exact (((((tnL w6 (w.heap.size + 1) 0 (.bool h8)).trans (tnL _ (w.heap.size + 1) 1 (.slice s8 t8 u8))).trans (tnL _ (w.heap.size + 1) 2 (.bool h9))).trans (tnL _ (w.heap.size + 1) 3 (.slice s9 t9 u9))).trans (tnL _ (w.heap.size + 1) 4 (.int .i64 kk9)))
      have R7 : BoxL w7 w.heap.size (w.heap.size + 1) [.bool h8, .slice s8 t8 u8, .bool h9, .slice s9 t9 u9, .int .i64 kk9] := by rw [hw7]; exact (((((R6.set 0 (.bool h8) (by simp)).set 1 (.slice s8 t8 u8) (by simp)).set 2 (.bool h9) (by simp)).set 3 (.slice s9 t9 u9) (by simp)).set 4 (.int .i64 kk9) (by simp))
      have blo7 := R6.lo
      have B7 := tn7.below B6 B6.size (fun q hq => by simp at hq; omega)
      have N7 := N6.tn tn7 (not_one (by omega))
      have oz7 := ownsP.tn oz6 tn7 ap_R_oz
      clear B6 R6 N6 oz6 tn7 blo7
      subst hw7
      go_wp2
      (try simp only [Exit.inBlock, Exit.then])
      refine bodyPost_ret (v := .tuple #[.agg #[.bool h8, .slice s8 t8 u8, .bool h9, .slice s9 t9 u9, .int .i64 kk9], .bool false]) ?_ rfl ⟨_, by rw [HR.out], by rw [HR.out]; exact oz7, B7⟩
      rw [results_cell_tmp rfl]
      go_simp

end Go.Proofs.Ytlpfjpbnedankaa
