/- divSpans of the program, by its contract. -/
import Derived.Test.YtjelmbkngjlefaaSharedD
import Derived.Test.YtjelmbkngjlefaaDivM
import Derived.Test.YtjelmbkngjlefaaMovedF
import Derived.Test.YtjelmbkngjlefaaSgShift
import Derived.Test.YtjelmbkngjlefaaFrS
namespace Go.Proofs.Ytjelmbkngjlefaa
open Go.RowKit
set_option linter.unusedSimpArgs false
set_option linter.unusedVariables false

set_option maxRecDepth 20000 in
set_option maxHeartbeats 6400000 in
theorem divSpans_c (p q r s : Nat) (x1 y1 x2 y2 : Int) (k : Nat) (w : World) (sp : SG w p x1) (sq : SG w q y1) (sr : SG w r x2) (ss : SG w s y2) (h0 : 0 < x2) (h1 : x2 ≤ y2) (m1 : (limbs x1.natAbs).length ≤ 48) (m2 : (limbs y1.natAbs).length ≤ 48) (m3 : (limbs x2.natAbs).length ≤ 48) (m4 : (limbs y2.natAbs).length ≤ 48) (hk : k ≤ 480) :
    Calls Try.prog 30 #[.agg #[.pointer (some ⟨p, 0, none⟩), .pointer (some ⟨q, 0, none⟩)], .agg #[.pointer (some ⟨r, 0, none⟩), .pointer (some ⟨s, 0, none⟩)], .int .i64 k] w (spanE (dvLo (x1 * 2 ^ k) x2 y2) (dvHi (y1 * 2 ^ k) x2 y2) w) := by
  have e1 := upI_len x1 k m1 hk
  have e2 := upI_len y1 k m2 hk
  have h2 : 0 < y2 := by omega
  have P2 : (0 : Int) < 2 ^ k := Int.pow_pos (by omega)
  have g1 : decide (x1 < 0) = decide (x1 * 2 ^ k < 0) := up_neg x1 k
  have g2 : decide (y1 < 0) = decide (y1 * 2 ^ k < 0) := up_neg y1 k
  have kU := fun W h => sgUp p x1 k W h (by omega) (by omega)
  have kW := fun W h => sgUp q y1 k W h (by omega) (by omega)
  generalize x1 * 2 ^ k = X at *
  generalize y1 * 2 ^ k = Z at *
  unfold spanE
  have hs1 := sp.sign
  have hs2 := sq.sign
  rw [g1] at hs1
  rw [g2] at hs2
  by_cases c1 : X < 0
  · rw [decide_eq_true c1] at hs1 g1
    by_cases c2 : Z < 0
    · rw [decide_eq_true c2] at hs2 g2
      rw [dvLo_neg c1 h0 h1, dvHi_neg c2 h0 h1]
      have kA := fun c W h1 h2' => shared_d c r X x2 0 W h1 h2' (by omega) (by omega) (by omega) (by omega) (by omega)
      have kB := fun c W h1 h2' => shared_d c s Z y2 1 W h1 h2' (by omega) (by omega) (by omega) (by omega) (by omega)
      rw [frac_lo] at kA
      rw [frac_hi _ _ (by omega)] at kB
      clear hs1 hs2 e1 e2 h0 h1 h2 P2 c1 c2 m1 m2 m3 m4 hk
      generalize X / x2 = d1 at *
      generalize -(-Z / y2) = d2 at *
      have B0_0 : Below w.heap.size w w := Below.refl _ _
      obtain ⟨ww1, hww1⟩ : ∃ v, v = w.alloc (.cells #[.pointer (some ⟨p, 0, none⟩), .pointer (some ⟨q, 0, none⟩)] 45) := ⟨_, rfl⟩
      have sz1 : ww1.heap.size = w.heap.size + 1 := by rw [hww1]; simp
      have bw1 : Below w.heap.size w ww1 := by rw [hww1]; exact below1 _ _
      have B0_1 := B0_0.trans (bw1.mono B0_0.size)
      have X0_1 : BoxL ww1 w.heap.size w.heap.size [.pointer (some ⟨p, 0, none⟩), .pointer (some ⟨q, 0, none⟩)] := by rw [hww1]; have h := BoxL.made w [.pointer (some ⟨p, 0, none⟩), .pointer (some ⟨q, 0, none⟩)] 45; exact h
      obtain ⟨ww2, hww2⟩ : ∃ v, v = ww1.alloc (.cells #[.pointer (some ⟨r, 0, none⟩), .pointer (some ⟨s, 0, none⟩)] 45) := ⟨_, rfl⟩
      have sz2 : ww2.heap.size = w.heap.size + 1 + 1 := by rw [hww2]; simp [sz1]
      have bw2 : Below ww1.heap.size ww1 ww2 := by rw [hww2]; exact below1 _ _
      have B0_2 := B0_1.trans (bw2.mono B0_1.size)
      have X0_2 := X0_1.below bw2 (Nat.le_refl _)
      have Y0_2 : BoxL ww2 (w.heap.size + 1) (w.heap.size + 1) [.pointer (some ⟨r, 0, none⟩), .pointer (some ⟨s, 0, none⟩)] := by rw [hww2]; have h := BoxL.made ww1 [.pointer (some ⟨r, 0, none⟩), .pointer (some ⟨s, 0, none⟩)] 45; rw [sz1] at h; exact h
      obtain ⟨ww3, hww3⟩ : ∃ v, v = ww2.alloc (.cells #[.pointer none, .pointer none] 45) := ⟨_, rfl⟩
      have sz3 : ww3.heap.size = w.heap.size + 1 + 1 + 1 := by rw [hww3]; simp [sz2]
      have bw3 : Below ww2.heap.size ww2 ww3 := by rw [hww3]; exact below1 _ _
      have B0_3 := B0_2.trans (bw3.mono B0_2.size)
      have X0_3 := X0_2.below bw3 (Nat.le_refl _)
      have Y0_3 := Y0_2.below bw3 (Nat.le_refl _)
      have R0_3 : BoxL ww3 (w.heap.size + 1 + 1) (w.heap.size + 1 + 1) [.pointer none, .pointer none] := by rw [hww3]; have h := BoxL.made ww2 [.pointer none, .pointer none] 45; rw [sz2] at h; exact h
      have X0 := X0_3
      have Y0 := Y0_3.mono (by omega : w.heap.size ≤ w.heap.size + 1)
      have R0 := R0_3.mono (by omega : w.heap.size ≤ w.heap.size + 1 + 1)
      have B0 := B0_3
      have sp0 := sp.below B0 sp.lt
      have lt_sp := sp.lt
      have sq0 := sq.below B0 sq.lt
      have lt_sq := sq.lt
      have sr0 := sr.below B0 sr.lt
      have lt_sr := sr.lt
      have ss0 := ss.below B0 ss.lt
      have lt_ss := ss.lt
      clear B0_0 B0_1 B0_2 B0_3 bw1 bw2 bw3 X0_1 X0_2 X0_3 Y0_2 Y0_3 R0_3
      clear sp sq sr ss
      go_enter Try.func30, Try.ntmps30
      go_wp2_with fail
      have hvv : ((w.alloc (.cells #[.pointer (some ⟨p, 0, none⟩), .pointer (some ⟨q, 0, none⟩)] 45)).alloc (.cells #[.pointer (some ⟨r, 0, none⟩), .pointer (some ⟨s, 0, none⟩)] 45)).alloc (.cells #[.pointer none, .pointer none] 45) = ww3 := by rw [hww3]; rw [hww2]; rw [hww1]
      rw [hvv]
      clear hvv hww1 hww2 hww3 sz1 sz2
      clear ww1 ww2
      have hz0 : w.heap.size + 3 ≤ ww3.heap.size := by omega
      clear sz3
      obtain ⟨w1, hw1⟩ : ∃ v, Hid (v = ww3.drew) := ⟨_, rfl⟩
      have bd : Below ww3.heap.size ww3 w1 := by rw [hw1.out]; exact (Below.refl ww3.heap.size ww3).drew
      have B1 := B0.trans (bd.mono B0.size)
      have X1 := X0.below bd (Nat.le_refl _)
      have Y1 := Y0.below bd (Nat.le_refl _)
      have R1 := R0.below bd (Nat.le_refl _)
      have sp1 := sp0.below bd sp0.lt
      have sq1 := sq0.below bd sq0.lt
      have sr1 := sr0.below bd sr0.lt
      have ss1 := ss0.below bd ss0.lt
      clear B0 X0 Y0 R0 sp0 sq0 sr0 ss0 bd
      have hH : (fun W : World => W.cell? ⟨w.heap.size, 0, none⟩ = some (.pointer (some ⟨p, 0, none⟩)) ∧ W.cell? ⟨w.heap.size, 1, none⟩ = some (.pointer (some ⟨q, 0, none⟩)) ∧ W.cell? ⟨w.heap.size + 1, 0, none⟩ = some (.pointer (some ⟨r, 0, none⟩)) ∧ W.cell? ⟨w.heap.size + 1, 1, none⟩ = some (.pointer (some ⟨s, 0, none⟩))) w1 := ⟨X1.c 0 _ rfl, X1.c 1 _ rfl, Y1.c 0 _ rfl, Y1.c 1 _ rfl⟩
      refine wp_region_held_drew (S := fun W => W.cell? ⟨w.heap.size, 0, none⟩ = some (.pointer (some ⟨p, 0, none⟩)) ∧ W.cell? ⟨w.heap.size, 1, none⟩ = some (.pointer (some ⟨q, 0, none⟩)) ∧ W.cell? ⟨w.heap.size + 1, 0, none⟩ = some (.pointer (some ⟨r, 0, none⟩)) ∧ W.cell? ⟨w.heap.size + 1, 1, none⟩ = some (.pointer (some ⟨s, 0, none⟩))) (by kernel_rfl) (by rw [← hw1.out]; exact hH) ?_
      intro _
      rw [← hw1.out]
      clear hw1
      refine takeH 0 (some 9) (.pointer (some ⟨w.heap.size + 1, 1, none⟩)) rfl rfl (by kernel_rfl) (by kernel_rfl) (by kernel_rfl) (fun _ _ _ h => h) (Or.inl ⟨rfl, fun W hW => by go_simp⟩) hH ?_
      simp only [Act.put, List.setIfInBounds_toArray, List.set_cons_zero, List.set_cons_succ]
      refine takeH 1 (some 10) (.pointer (some ⟨s, 0, none⟩)) rfl rfl (by kernel_rfl) (by kernel_rfl) (by kernel_rfl) (fun _ _ _ h => h) (Or.inl ⟨rfl, fun W hW => by obtain ⟨l0, l1, l2, l3⟩ := hW; go_simp⟩) hH ?_
      simp only [Act.put, List.setIfInBounds_toArray, List.set_cons_zero, List.set_cons_succ]
      refine takeH 2 (some 11) (.pointer (some ⟨w.heap.size + 1, 0, none⟩)) rfl rfl (by kernel_rfl) (by kernel_rfl) (by kernel_rfl) (fun _ _ _ h => h) (Or.inl ⟨rfl, fun W hW => by go_simp⟩) hH ?_
      simp only [Act.put, List.setIfInBounds_toArray, List.set_cons_zero, List.set_cons_succ]
      refine takeH 3 (some 12) (.pointer (some ⟨r, 0, none⟩)) rfl rfl (by kernel_rfl) (by kernel_rfl) (by kernel_rfl) (fun _ _ _ h => h) (Or.inl ⟨rfl, fun W hW => by obtain ⟨l0, l1, l2, l3⟩ := hW; go_simp⟩) hH ?_
      simp only [Act.put, List.setIfInBounds_toArray, List.set_cons_zero, List.set_cons_succ]
      refine takeH 4 (some 7) (.pointer (some ⟨s, 0, none⟩)) rfl rfl (by kernel_rfl) (by kernel_rfl) (by kernel_rfl) (fun _ _ _ h => h) (Or.inl ⟨rfl, fun W hW => by go_simp⟩) hH ?_
      simp only [Act.put, List.setIfInBounds_toArray, List.set_cons_zero, List.set_cons_succ]
      refine takeH 5 (some 8) (.pointer (some ⟨r, 0, none⟩)) rfl rfl (by kernel_rfl) (by kernel_rfl) (by kernel_rfl) (fun _ _ _ h => h) (Or.inl ⟨rfl, fun W hW => by go_simp⟩) hH ?_
      simp only [Act.put, List.setIfInBounds_toArray, List.set_cons_zero, List.set_cons_succ]
      clear hH
      refine wpAnyH_done (by kernel_rfl) ?_ _
      have c_s1 : w1.cell? ⟨p, 0, none⟩ = some (.bool true) := by have h := sp1.sign; rw [g1] at h; exact h
      have c_s2 : w1.cell? ⟨q, 0, none⟩ = some (.bool true) := by have h := sq1.sign; rw [g2] at h; exact h
      have c_X_0 := X1.c 0 _ rfl
      have c_X_1 := X1.c 1 _ rfl
      have c_Y_0 := Y1.c 0 _ rfl
      have c_Y_1 := Y1.c 1 _ rfl
      go_wp2_with fail
      clear c_X_0 c_X_1 c_Y_0 c_Y_1
      clear c_s1 c_s2 g1 g2
      obtain ⟨w2, hw2⟩ : ∃ v, Hid (v = w1.drew) := ⟨_, rfl⟩
      have bd : Below w1.heap.size w1 w2 := by rw [hw2.out]; exact (Below.refl w1.heap.size w1).drew
      have B2 := B1.trans (bd.mono B1.size)
      have X2 := X1.below bd (Nat.le_refl _)
      have Y2 := Y1.below bd (Nat.le_refl _)
      have R2 := R1.below bd (Nat.le_refl _)
      have sp2 := sp1.below bd sp1.lt
      have sq2 := sq1.below bd sq1.lt
      have sr2 := sr1.below bd sr1.lt
      have ss2 := ss1.below bd ss1.lt
      clear B1 X1 Y1 R1 sp1 sq1 sr1 ss1 bd
      have hH : (fun W : World => W.cell? ⟨w.heap.size, 0, none⟩ = some (.pointer (some ⟨p, 0, none⟩)) ∧ W.cell? ⟨w.heap.size, 1, none⟩ = some (.pointer (some ⟨q, 0, none⟩))) w2 := ⟨X2.c 0 _ rfl, X2.c 1 _ rfl⟩
      refine wp_region_held_drew (S := fun W => W.cell? ⟨w.heap.size, 0, none⟩ = some (.pointer (some ⟨p, 0, none⟩)) ∧ W.cell? ⟨w.heap.size, 1, none⟩ = some (.pointer (some ⟨q, 0, none⟩))) (by kernel_rfl) (by rw [← hw2.out]; exact hH) ?_
      intro _
      rw [← hw2.out]
      clear hw2
      refine takeH 0 (some 27) (.pointer (some ⟨w.heap.size, 0, none⟩)) rfl rfl (by kernel_rfl) (by kernel_rfl) (by kernel_rfl) (fun _ _ _ h => h) (Or.inl ⟨rfl, fun W hW => by go_simp⟩) hH ?_
      simp only [Act.put, List.setIfInBounds_toArray, List.set_cons_zero, List.set_cons_succ]
      refine takeH 1 (some 28) (.pointer (some ⟨p, 0, none⟩)) rfl rfl (by kernel_rfl) (by kernel_rfl) (by kernel_rfl) (fun _ _ _ h => h) (Or.inl ⟨rfl, fun W hW => by obtain ⟨l0, l1⟩ := hW; go_simp⟩) hH ?_
      simp only [Act.put, List.setIfInBounds_toArray, List.set_cons_zero, List.set_cons_succ]
      refine takeH 2 (some 29) (.int .i64 k) rfl rfl (by kernel_rfl) (by kernel_rfl) (by kernel_rfl) (fun _ _ _ h => h) (Or.inl ⟨rfl, fun W hW => by go_simp⟩) hH ?_
      simp only [Act.put, List.setIfInBounds_toArray, List.set_cons_zero, List.set_cons_succ]
      refine takeH 4 (some 31) (.pointer (some ⟨r, 0, none⟩)) rfl rfl (by kernel_rfl) (by kernel_rfl) (by kernel_rfl) (fun _ _ _ h => h) (Or.inl ⟨rfl, fun W hW => by go_simp⟩) hH ?_
      simp only [Act.put, List.setIfInBounds_toArray, List.set_cons_zero, List.set_cons_succ]
      refine takeH 6 (some 33) (.pointer (some ⟨w.heap.size, 1, none⟩)) rfl rfl (by kernel_rfl) (by kernel_rfl) (by kernel_rfl) (fun _ _ _ h => h) (Or.inl ⟨rfl, fun W hW => by go_simp⟩) hH ?_
      simp only [Act.put, List.setIfInBounds_toArray, List.set_cons_zero, List.set_cons_succ]
      refine takeH 7 (some 34) (.pointer (some ⟨q, 0, none⟩)) rfl rfl (by kernel_rfl) (by kernel_rfl) (by kernel_rfl) (fun _ _ _ h => h) (Or.inl ⟨rfl, fun W hW => by obtain ⟨l0, l1⟩ := hW; go_simp⟩) hH ?_
      simp only [Act.put, List.setIfInBounds_toArray, List.set_cons_zero, List.set_cons_succ]
      refine takeH 8 (some 35) (.int .i64 k) rfl rfl (by kernel_rfl) (by kernel_rfl) (by kernel_rfl) (fun _ _ _ h => h) (Or.inl ⟨rfl, fun W hW => by go_simp⟩) hH ?_
      simp only [Act.put, List.setIfInBounds_toArray, List.set_cons_zero, List.set_cons_succ]
      refine takeH 10 (some 37) (.pointer (some ⟨s, 0, none⟩)) rfl rfl (by kernel_rfl) (by kernel_rfl) (by kernel_rfl) (fun _ _ _ h => h) (Or.inl ⟨rfl, fun W hW => by go_simp⟩) hH ?_
      simp only [Act.put, List.setIfInBounds_toArray, List.set_cons_zero, List.set_cons_succ]
      refine oneH 3 rfl (by kernel_rfl) (fun K' hK => ?_)
      go_simp
      refine (kU _ sp2).mono ?_
      rintro e w3 ⟨c, rfl, hc, su, bb3⟩
      have ge_su : w.heap.size ≤ c := Nat.le_trans B2.size hc
      have ne_X_su : ¬ (c = w.heap.size) := fun e => by have h1 := X2.hi; omega
      have ne_Y_su : ¬ (c = w.heap.size + 1) := fun e => by have h1 := Y2.hi; omega
      have ne_R_su : ¬ (c = w.heap.size + 1 + 1) := fun e => by have h1 := R2.hi; omega
      clear hc
      have B3 := B2.trans (bb3.mono B2.size)
      have X3 := X2.below bb3 (Nat.le_refl _)
      have Y3 := Y2.below bb3 (Nat.le_refl _)
      have R3 := R2.below bb3 (Nat.le_refl _)
      have sp3 := sp2.below bb3 sp2.lt
      have sq3 := sq2.below bb3 sq2.lt
      have sr3 := sr2.below bb3 sr2.lt
      have ss3 := ss2.below bb3 ss2.lt
      clear B2 X2 Y2 R2 sp2 sq2 sr2 ss2 bb3 hH
      have su3 := su
      clear su
      have hH : (fun W : World => W.cell? ⟨w.heap.size, 0, none⟩ = some (.pointer (some ⟨p, 0, none⟩)) ∧ W.cell? ⟨w.heap.size, 1, none⟩ = some (.pointer (some ⟨q, 0, none⟩))) w3 := ⟨X3.c 0 _ rfl, X3.c 1 _ rfl⟩
      refine hK _ _ hH ?_
      clear hK
      refine oneH 5 rfl (by kernel_rfl) (fun K' hK => ?_)
      go_simp
      refine (kA c _ su3 sr3).mono ?_
      rintro e w4 ⟨c2, rfl, hc, sx, bb4⟩
      have ge_sx : w.heap.size ≤ c2 := Nat.le_trans B3.size hc
      have ne_X_sx : ¬ (c2 = w.heap.size) := fun e => by have h1 := X3.hi; omega
      have ne_Y_sx : ¬ (c2 = w.heap.size + 1) := fun e => by have h1 := Y3.hi; omega
      have ne_R_sx : ¬ (c2 = w.heap.size + 1 + 1) := fun e => by have h1 := R3.hi; omega
      clear hc
      have B4 := B3.trans (bb4.mono B3.size)
      have X4 := X3.below bb4 (Nat.le_refl _)
      have Y4 := Y3.below bb4 (Nat.le_refl _)
      have R4 := R3.below bb4 (Nat.le_refl _)
      have sp4 := sp3.below bb4 sp3.lt
      have sq4 := sq3.below bb4 sq3.lt
      have sr4 := sr3.below bb4 sr3.lt
      have ss4 := ss3.below bb4 ss3.lt
      have su4 := su3.below bb4 su3.lt
      clear B3 X3 Y3 R3 sp3 sq3 sr3 ss3 su3 bb4 hH
      have sx4 := sx
      clear sx
      have hH : (fun W : World => W.cell? ⟨w.heap.size, 0, none⟩ = some (.pointer (some ⟨p, 0, none⟩)) ∧ W.cell? ⟨w.heap.size, 1, none⟩ = some (.pointer (some ⟨q, 0, none⟩))) w4 := ⟨X4.c 0 _ rfl, X4.c 1 _ rfl⟩
      refine hK _ _ hH ?_
      clear hK
      refine oneH 9 rfl (by kernel_rfl) (fun K' hK => ?_)
      go_simp
      refine (kW _ sq4).mono ?_
      rintro e w5 ⟨c3, rfl, hc, sv, bb5⟩
      have ge_sv : w.heap.size ≤ c3 := Nat.le_trans B4.size hc
      have ne_X_sv : ¬ (c3 = w.heap.size) := fun e => by have h1 := X4.hi; omega
      have ne_Y_sv : ¬ (c3 = w.heap.size + 1) := fun e => by have h1 := Y4.hi; omega
      have ne_R_sv : ¬ (c3 = w.heap.size + 1 + 1) := fun e => by have h1 := R4.hi; omega
      clear hc
      have B5 := B4.trans (bb5.mono B4.size)
      have X5 := X4.below bb5 (Nat.le_refl _)
      have Y5 := Y4.below bb5 (Nat.le_refl _)
      have R5 := R4.below bb5 (Nat.le_refl _)
      have sp5 := sp4.below bb5 sp4.lt
      have sq5 := sq4.below bb5 sq4.lt
      have sr5 := sr4.below bb5 sr4.lt
      have ss5 := ss4.below bb5 ss4.lt
      have su5 := su4.below bb5 su4.lt
      have sx5 := sx4.below bb5 sx4.lt
      clear B4 X4 Y4 R4 sp4 sq4 sr4 ss4 su4 sx4 bb5 hH
      have sv5 := sv
      clear sv
      have hH : (fun W : World => W.cell? ⟨w.heap.size, 0, none⟩ = some (.pointer (some ⟨p, 0, none⟩)) ∧ W.cell? ⟨w.heap.size, 1, none⟩ = some (.pointer (some ⟨q, 0, none⟩))) w5 := ⟨X5.c 0 _ rfl, X5.c 1 _ rfl⟩
      refine hK _ _ hH ?_
      clear hK
      refine oneH 11 rfl (by kernel_rfl) (fun K' hK => ?_)
      go_simp
      refine (kB c3 _ sv5 ss5).mono ?_
      rintro e w6 ⟨c4, rfl, hc, sy, bb6⟩
      have ge_sy : w.heap.size ≤ c4 := Nat.le_trans B5.size hc
      have ne_X_sy : ¬ (c4 = w.heap.size) := fun e => by have h1 := X5.hi; omega
      have ne_Y_sy : ¬ (c4 = w.heap.size + 1) := fun e => by have h1 := Y5.hi; omega
      have ne_R_sy : ¬ (c4 = w.heap.size + 1 + 1) := fun e => by have h1 := R5.hi; omega
      clear hc
      have B6 := B5.trans (bb6.mono B5.size)
      have X6 := X5.below bb6 (Nat.le_refl _)
      have Y6 := Y5.below bb6 (Nat.le_refl _)
      have R6 := R5.below bb6 (Nat.le_refl _)
      have sp6 := sp5.below bb6 sp5.lt
      have sq6 := sq5.below bb6 sq5.lt
      have sr6 := sr5.below bb6 sr5.lt
      have ss6 := ss5.below bb6 ss5.lt
      have su6 := su5.below bb6 su5.lt
      have sx6 := sx5.below bb6 sx5.lt
      have sv6 := sv5.below bb6 sv5.lt
      clear B5 X5 Y5 R5 sp5 sq5 sr5 ss5 su5 sx5 sv5 bb6 hH
      have sy6 := sy
      clear sy
      have hH : (fun W : World => W.cell? ⟨w.heap.size, 0, none⟩ = some (.pointer (some ⟨p, 0, none⟩)) ∧ W.cell? ⟨w.heap.size, 1, none⟩ = some (.pointer (some ⟨q, 0, none⟩))) w6 := ⟨X6.c 0 _ rfl, X6.c 1 _ rfl⟩
      refine hK _ _ hH ?_
      clear hK
      refine takeH 12 (some 39) (.agg #[.pointer (some ⟨c2, 0, none⟩), .pointer (some ⟨c4, 0, none⟩)]) rfl rfl (by kernel_rfl) (by kernel_rfl) (by kernel_rfl) (fun _ _ _ h => h) (Or.inl ⟨rfl, fun W hW => by go_simp⟩) hH ?_
      simp only [Act.put, List.setIfInBounds_toArray, List.set_cons_zero, List.set_cons_succ]
      have c_R_0 := R6.c 0 _ rfl
      have f_R_0 := R6.f 0 _ rfl
      have c_R_1 := R6.c 1 _ rfl
      have f_R_1 := R6.f 1 _ rfl
      refine oneH 13 rfl (by kernel_rfl) (fun K' hK => ?_)
      go_simp
      obtain ⟨w7, hw7⟩ : ∃ v, v = (w6.setCell ⟨w.heap.size + 1 + 1, 0, none⟩ (.pointer (some ⟨c2, 0, none⟩))).setCell ⟨w.heap.size + 1 + 1, 1, none⟩ (.pointer (some ⟨c4, 0, none⟩)) := ⟨_, rfl⟩
      have tn7 : Tn [w.heap.size + 1 + 1] w6 w7 := by rw [hw7]; exact ((tnL w6 (w.heap.size + 1 + 1) 0 (.pointer (some ⟨c2, 0, none⟩))).trans (tnL _ (w.heap.size + 1 + 1) 1 (.pointer (some ⟨c4, 0, none⟩))))
      have R7 : BoxL w7 w.heap.size (w.heap.size + 1 + 1) [.pointer (some ⟨c2, 0, none⟩), .pointer (some ⟨c4, 0, none⟩)] := by rw [hw7]; exact ((R6.set 0 (.pointer (some ⟨c2, 0, none⟩)) (by simp)).set 1 (.pointer (some ⟨c4, 0, none⟩)) (by simp))
      have blo7 := R6.lo
      rw [← hw7]
      clear hw7
      have B7 := tn7.below B6 B6.size (fun q hq => by simp at hq; omega)
      have X7 := X6.tn tn7 (not_one (by omega))
      have Y7 := Y6.tn tn7 (not_one (by omega))
      have sp7 := sp6.tnL tn7 (not_one (by omega))
      have sq7 := sq6.tnL tn7 (not_one (by omega))
      have sr7 := sr6.tnL tn7 (not_one (by omega))
      have ss7 := ss6.tnL tn7 (not_one (by omega))
      have su7 := su6.tnL tn7 (not_one (by omega))
      have sx7 := sx6.tnL tn7 (not_one (by omega))
      have sv7 := sv6.tnL tn7 (not_one (by omega))
      have sy7 := sy6.tnL tn7 (not_one (by omega))
      clear B6 X6 Y6 R6 sp6 sq6 sr6 ss6 su6 sx6 sv6 sy6 tn7 blo7
      clear c_R_0 f_R_0 c_R_1 f_R_1
      clear hH
      have hH : (fun W : World => W.cell? ⟨w.heap.size, 0, none⟩ = some (.pointer (some ⟨p, 0, none⟩)) ∧ W.cell? ⟨w.heap.size, 1, none⟩ = some (.pointer (some ⟨q, 0, none⟩))) w7 := ⟨X7.c 0 _ rfl, X7.c 1 _ rfl⟩
      refine hK _ _ hH ?_
      clear hK
      clear hH
      refine wpAnyH_done (by kernel_rfl) ?_ _
      clear kU kW kA kB
      have c_R_0 := R7.c 0 _ rfl
      have c_R_1 := R7.c 1 _ rfl
      go_wp2
      (try simp only [Exit.inBlock, Exit.then])
      refine bodyPost_ret (v := .agg #[.pointer (some ⟨c2, 0, none⟩), .pointer (some ⟨c4, 0, none⟩)]) ?_ rfl ⟨_, _, rfl, sx7, sy7, B7⟩
      rw [results_cell1 rfl]
      go_simp
    · rw [decide_eq_false c2] at hs2 g2
      rw [dvLo_neg c1 h0 h1, dvHi_pos (by omega) h0 h1]
      have kA := fun c W h1 h2' => shared_d c r X x2 0 W h1 h2' (by omega) (by omega) (by omega) (by omega) (by omega)
      have kB := fun c W h1 h2' => shared_d c r Z x2 1 W h1 h2' (by omega) (by omega) (by omega) (by omega) (by omega)
      rw [frac_lo] at kA
      rw [frac_hi _ _ (by omega)] at kB
      clear hs1 hs2 e1 e2 h0 h1 h2 P2 c1 c2 m1 m2 m3 m4 hk
      generalize X / x2 = d1 at *
      generalize -(-Z / x2) = d2 at *
      have B0_0 : Below w.heap.size w w := Below.refl _ _
      obtain ⟨ww1, hww1⟩ : ∃ v, v = w.alloc (.cells #[.pointer (some ⟨p, 0, none⟩), .pointer (some ⟨q, 0, none⟩)] 45) := ⟨_, rfl⟩
      have sz1 : ww1.heap.size = w.heap.size + 1 := by rw [hww1]; simp
      have bw1 : Below w.heap.size w ww1 := by rw [hww1]; exact below1 _ _
      have B0_1 := B0_0.trans (bw1.mono B0_0.size)
      have X0_1 : BoxL ww1 w.heap.size w.heap.size [.pointer (some ⟨p, 0, none⟩), .pointer (some ⟨q, 0, none⟩)] := by rw [hww1]; have h := BoxL.made w [.pointer (some ⟨p, 0, none⟩), .pointer (some ⟨q, 0, none⟩)] 45; exact h
      obtain ⟨ww2, hww2⟩ : ∃ v, v = ww1.alloc (.cells #[.pointer (some ⟨r, 0, none⟩), .pointer (some ⟨s, 0, none⟩)] 45) := ⟨_, rfl⟩
      have sz2 : ww2.heap.size = w.heap.size + 1 + 1 := by rw [hww2]; simp [sz1]
      have bw2 : Below ww1.heap.size ww1 ww2 := by rw [hww2]; exact below1 _ _
      have B0_2 := B0_1.trans (bw2.mono B0_1.size)
      have X0_2 := X0_1.below bw2 (Nat.le_refl _)
      have Y0_2 : BoxL ww2 (w.heap.size + 1) (w.heap.size + 1) [.pointer (some ⟨r, 0, none⟩), .pointer (some ⟨s, 0, none⟩)] := by rw [hww2]; have h := BoxL.made ww1 [.pointer (some ⟨r, 0, none⟩), .pointer (some ⟨s, 0, none⟩)] 45; rw [sz1] at h; exact h
      obtain ⟨ww3, hww3⟩ : ∃ v, v = ww2.alloc (.cells #[.pointer none, .pointer none] 45) := ⟨_, rfl⟩
      have sz3 : ww3.heap.size = w.heap.size + 1 + 1 + 1 := by rw [hww3]; simp [sz2]
      have bw3 : Below ww2.heap.size ww2 ww3 := by rw [hww3]; exact below1 _ _
      have B0_3 := B0_2.trans (bw3.mono B0_2.size)
      have X0_3 := X0_2.below bw3 (Nat.le_refl _)
      have Y0_3 := Y0_2.below bw3 (Nat.le_refl _)
      have R0_3 : BoxL ww3 (w.heap.size + 1 + 1) (w.heap.size + 1 + 1) [.pointer none, .pointer none] := by rw [hww3]; have h := BoxL.made ww2 [.pointer none, .pointer none] 45; rw [sz2] at h; exact h
      have X0 := X0_3
      have Y0 := Y0_3.mono (by omega : w.heap.size ≤ w.heap.size + 1)
      have R0 := R0_3.mono (by omega : w.heap.size ≤ w.heap.size + 1 + 1)
      have B0 := B0_3
      have sp0 := sp.below B0 sp.lt
      have lt_sp := sp.lt
      have sq0 := sq.below B0 sq.lt
      have lt_sq := sq.lt
      have sr0 := sr.below B0 sr.lt
      have lt_sr := sr.lt
      have ss0 := ss.below B0 ss.lt
      have lt_ss := ss.lt
      clear B0_0 B0_1 B0_2 B0_3 bw1 bw2 bw3 X0_1 X0_2 X0_3 Y0_2 Y0_3 R0_3
      clear sp sq sr ss
      go_enter Try.func30, Try.ntmps30
      go_wp2_with fail
      have hvv : ((w.alloc (.cells #[.pointer (some ⟨p, 0, none⟩), .pointer (some ⟨q, 0, none⟩)] 45)).alloc (.cells #[.pointer (some ⟨r, 0, none⟩), .pointer (some ⟨s, 0, none⟩)] 45)).alloc (.cells #[.pointer none, .pointer none] 45) = ww3 := by rw [hww3]; rw [hww2]; rw [hww1]
      rw [hvv]
      clear hvv hww1 hww2 hww3 sz1 sz2
      clear ww1 ww2
      have hz0 : w.heap.size + 3 ≤ ww3.heap.size := by omega
      clear sz3
      obtain ⟨w1, hw1⟩ : ∃ v, Hid (v = ww3.drew) := ⟨_, rfl⟩
      have bd : Below ww3.heap.size ww3 w1 := by rw [hw1.out]; exact (Below.refl ww3.heap.size ww3).drew
      have B1 := B0.trans (bd.mono B0.size)
      have X1 := X0.below bd (Nat.le_refl _)
      have Y1 := Y0.below bd (Nat.le_refl _)
      have R1 := R0.below bd (Nat.le_refl _)
      have sp1 := sp0.below bd sp0.lt
      have sq1 := sq0.below bd sq0.lt
      have sr1 := sr0.below bd sr0.lt
      have ss1 := ss0.below bd ss0.lt
      clear B0 X0 Y0 R0 sp0 sq0 sr0 ss0 bd
      have hH : (fun W : World => W.cell? ⟨w.heap.size, 0, none⟩ = some (.pointer (some ⟨p, 0, none⟩)) ∧ W.cell? ⟨w.heap.size, 1, none⟩ = some (.pointer (some ⟨q, 0, none⟩)) ∧ W.cell? ⟨w.heap.size + 1, 0, none⟩ = some (.pointer (some ⟨r, 0, none⟩)) ∧ W.cell? ⟨w.heap.size + 1, 1, none⟩ = some (.pointer (some ⟨s, 0, none⟩))) w1 := ⟨X1.c 0 _ rfl, X1.c 1 _ rfl, Y1.c 0 _ rfl, Y1.c 1 _ rfl⟩
      refine wp_region_held_drew (S := fun W => W.cell? ⟨w.heap.size, 0, none⟩ = some (.pointer (some ⟨p, 0, none⟩)) ∧ W.cell? ⟨w.heap.size, 1, none⟩ = some (.pointer (some ⟨q, 0, none⟩)) ∧ W.cell? ⟨w.heap.size + 1, 0, none⟩ = some (.pointer (some ⟨r, 0, none⟩)) ∧ W.cell? ⟨w.heap.size + 1, 1, none⟩ = some (.pointer (some ⟨s, 0, none⟩))) (by kernel_rfl) (by rw [← hw1.out]; exact hH) ?_
      intro _
      rw [← hw1.out]
      clear hw1
      refine takeH 0 (some 9) (.pointer (some ⟨w.heap.size + 1, 1, none⟩)) rfl rfl (by kernel_rfl) (by kernel_rfl) (by kernel_rfl) (fun _ _ _ h => h) (Or.inl ⟨rfl, fun W hW => by go_simp⟩) hH ?_
      simp only [Act.put, List.setIfInBounds_toArray, List.set_cons_zero, List.set_cons_succ]
      refine takeH 1 (some 10) (.pointer (some ⟨s, 0, none⟩)) rfl rfl (by kernel_rfl) (by kernel_rfl) (by kernel_rfl) (fun _ _ _ h => h) (Or.inl ⟨rfl, fun W hW => by obtain ⟨l0, l1, l2, l3⟩ := hW; go_simp⟩) hH ?_
      simp only [Act.put, List.setIfInBounds_toArray, List.set_cons_zero, List.set_cons_succ]
      refine takeH 2 (some 11) (.pointer (some ⟨w.heap.size + 1, 0, none⟩)) rfl rfl (by kernel_rfl) (by kernel_rfl) (by kernel_rfl) (fun _ _ _ h => h) (Or.inl ⟨rfl, fun W hW => by go_simp⟩) hH ?_
      simp only [Act.put, List.setIfInBounds_toArray, List.set_cons_zero, List.set_cons_succ]
      refine takeH 3 (some 12) (.pointer (some ⟨r, 0, none⟩)) rfl rfl (by kernel_rfl) (by kernel_rfl) (by kernel_rfl) (fun _ _ _ h => h) (Or.inl ⟨rfl, fun W hW => by obtain ⟨l0, l1, l2, l3⟩ := hW; go_simp⟩) hH ?_
      simp only [Act.put, List.setIfInBounds_toArray, List.set_cons_zero, List.set_cons_succ]
      refine takeH 4 (some 7) (.pointer (some ⟨s, 0, none⟩)) rfl rfl (by kernel_rfl) (by kernel_rfl) (by kernel_rfl) (fun _ _ _ h => h) (Or.inl ⟨rfl, fun W hW => by go_simp⟩) hH ?_
      simp only [Act.put, List.setIfInBounds_toArray, List.set_cons_zero, List.set_cons_succ]
      refine takeH 5 (some 8) (.pointer (some ⟨r, 0, none⟩)) rfl rfl (by kernel_rfl) (by kernel_rfl) (by kernel_rfl) (fun _ _ _ h => h) (Or.inl ⟨rfl, fun W hW => by go_simp⟩) hH ?_
      simp only [Act.put, List.setIfInBounds_toArray, List.set_cons_zero, List.set_cons_succ]
      clear hH
      refine wpAnyH_done (by kernel_rfl) ?_ _
      have c_s1 : w1.cell? ⟨p, 0, none⟩ = some (.bool true) := by have h := sp1.sign; rw [g1] at h; exact h
      have c_s2 : w1.cell? ⟨q, 0, none⟩ = some (.bool false) := by have h := sq1.sign; rw [g2] at h; exact h
      have c_X_0 := X1.c 0 _ rfl
      have c_X_1 := X1.c 1 _ rfl
      have c_Y_0 := Y1.c 0 _ rfl
      have c_Y_1 := Y1.c 1 _ rfl
      go_wp2_with fail
      clear c_X_0 c_X_1 c_Y_0 c_Y_1
      clear c_s1 c_s2 g1 g2
      obtain ⟨w2, hw2⟩ : ∃ v, Hid (v = w1.drew) := ⟨_, rfl⟩
      have bd : Below w1.heap.size w1 w2 := by rw [hw2.out]; exact (Below.refl w1.heap.size w1).drew
      have B2 := B1.trans (bd.mono B1.size)
      have X2 := X1.below bd (Nat.le_refl _)
      have Y2 := Y1.below bd (Nat.le_refl _)
      have R2 := R1.below bd (Nat.le_refl _)
      have sp2 := sp1.below bd sp1.lt
      have sq2 := sq1.below bd sq1.lt
      have sr2 := sr1.below bd sr1.lt
      have ss2 := ss1.below bd ss1.lt
      clear B1 X1 Y1 R1 sp1 sq1 sr1 ss1 bd
      have hH : (fun W : World => W.cell? ⟨w.heap.size, 0, none⟩ = some (.pointer (some ⟨p, 0, none⟩)) ∧ W.cell? ⟨w.heap.size, 1, none⟩ = some (.pointer (some ⟨q, 0, none⟩))) w2 := ⟨X2.c 0 _ rfl, X2.c 1 _ rfl⟩
      refine wp_region_held_drew (S := fun W => W.cell? ⟨w.heap.size, 0, none⟩ = some (.pointer (some ⟨p, 0, none⟩)) ∧ W.cell? ⟨w.heap.size, 1, none⟩ = some (.pointer (some ⟨q, 0, none⟩))) (by kernel_rfl) (by rw [← hw2.out]; exact hH) ?_
      intro _
      rw [← hw2.out]
      clear hw2
      refine takeH 0 (some 27) (.pointer (some ⟨w.heap.size, 0, none⟩)) rfl rfl (by kernel_rfl) (by kernel_rfl) (by kernel_rfl) (fun _ _ _ h => h) (Or.inl ⟨rfl, fun W hW => by go_simp⟩) hH ?_
      simp only [Act.put, List.setIfInBounds_toArray, List.set_cons_zero, List.set_cons_succ]
      refine takeH 1 (some 28) (.pointer (some ⟨p, 0, none⟩)) rfl rfl (by kernel_rfl) (by kernel_rfl) (by kernel_rfl) (fun _ _ _ h => h) (Or.inl ⟨rfl, fun W hW => by obtain ⟨l0, l1⟩ := hW; go_simp⟩) hH ?_
      simp only [Act.put, List.setIfInBounds_toArray, List.set_cons_zero, List.set_cons_succ]
      refine takeH 2 (some 29) (.int .i64 k) rfl rfl (by kernel_rfl) (by kernel_rfl) (by kernel_rfl) (fun _ _ _ h => h) (Or.inl ⟨rfl, fun W hW => by go_simp⟩) hH ?_
      simp only [Act.put, List.setIfInBounds_toArray, List.set_cons_zero, List.set_cons_succ]
      refine takeH 4 (some 31) (.pointer (some ⟨r, 0, none⟩)) rfl rfl (by kernel_rfl) (by kernel_rfl) (by kernel_rfl) (fun _ _ _ h => h) (Or.inl ⟨rfl, fun W hW => by go_simp⟩) hH ?_
      simp only [Act.put, List.setIfInBounds_toArray, List.set_cons_zero, List.set_cons_succ]
      refine takeH 6 (some 33) (.pointer (some ⟨w.heap.size, 1, none⟩)) rfl rfl (by kernel_rfl) (by kernel_rfl) (by kernel_rfl) (fun _ _ _ h => h) (Or.inl ⟨rfl, fun W hW => by go_simp⟩) hH ?_
      simp only [Act.put, List.setIfInBounds_toArray, List.set_cons_zero, List.set_cons_succ]
      refine takeH 7 (some 34) (.pointer (some ⟨q, 0, none⟩)) rfl rfl (by kernel_rfl) (by kernel_rfl) (by kernel_rfl) (fun _ _ _ h => h) (Or.inl ⟨rfl, fun W hW => by obtain ⟨l0, l1⟩ := hW; go_simp⟩) hH ?_
      simp only [Act.put, List.setIfInBounds_toArray, List.set_cons_zero, List.set_cons_succ]
      refine takeH 8 (some 35) (.int .i64 k) rfl rfl (by kernel_rfl) (by kernel_rfl) (by kernel_rfl) (fun _ _ _ h => h) (Or.inl ⟨rfl, fun W hW => by go_simp⟩) hH ?_
      simp only [Act.put, List.setIfInBounds_toArray, List.set_cons_zero, List.set_cons_succ]
      refine takeH 10 (some 37) (.pointer (some ⟨r, 0, none⟩)) rfl rfl (by kernel_rfl) (by kernel_rfl) (by kernel_rfl) (fun _ _ _ h => h) (Or.inl ⟨rfl, fun W hW => by go_simp⟩) hH ?_
      simp only [Act.put, List.setIfInBounds_toArray, List.set_cons_zero, List.set_cons_succ]
      refine oneH 3 rfl (by kernel_rfl) (fun K' hK => ?_)
      go_simp
      refine (kU _ sp2).mono ?_
      rintro e w3 ⟨c, rfl, hc, su, bb3⟩
      have ge_su : w.heap.size ≤ c := Nat.le_trans B2.size hc
      have ne_X_su : ¬ (c = w.heap.size) := fun e => by have h1 := X2.hi; omega
      have ne_Y_su : ¬ (c = w.heap.size + 1) := fun e => by have h1 := Y2.hi; omega
      have ne_R_su : ¬ (c = w.heap.size + 1 + 1) := fun e => by have h1 := R2.hi; omega
      clear hc
      have B3 := B2.trans (bb3.mono B2.size)
      have X3 := X2.below bb3 (Nat.le_refl _)
      have Y3 := Y2.below bb3 (Nat.le_refl _)
      have R3 := R2.below bb3 (Nat.le_refl _)
      have sp3 := sp2.below bb3 sp2.lt
      have sq3 := sq2.below bb3 sq2.lt
      have sr3 := sr2.below bb3 sr2.lt
      have ss3 := ss2.below bb3 ss2.lt
      clear B2 X2 Y2 R2 sp2 sq2 sr2 ss2 bb3 hH
      have su3 := su
      clear su
      have hH : (fun W : World => W.cell? ⟨w.heap.size, 0, none⟩ = some (.pointer (some ⟨p, 0, none⟩)) ∧ W.cell? ⟨w.heap.size, 1, none⟩ = some (.pointer (some ⟨q, 0, none⟩))) w3 := ⟨X3.c 0 _ rfl, X3.c 1 _ rfl⟩
      refine hK _ _ hH ?_
      clear hK
      refine oneH 5 rfl (by kernel_rfl) (fun K' hK => ?_)
      go_simp
      refine (kA c _ su3 sr3).mono ?_
      rintro e w4 ⟨c2, rfl, hc, sx, bb4⟩
      have ge_sx : w.heap.size ≤ c2 := Nat.le_trans B3.size hc
      have ne_X_sx : ¬ (c2 = w.heap.size) := fun e => by have h1 := X3.hi; omega
      have ne_Y_sx : ¬ (c2 = w.heap.size + 1) := fun e => by have h1 := Y3.hi; omega
      have ne_R_sx : ¬ (c2 = w.heap.size + 1 + 1) := fun e => by have h1 := R3.hi; omega
      clear hc
      have B4 := B3.trans (bb4.mono B3.size)
      have X4 := X3.below bb4 (Nat.le_refl _)
      have Y4 := Y3.below bb4 (Nat.le_refl _)
      have R4 := R3.below bb4 (Nat.le_refl _)
      have sp4 := sp3.below bb4 sp3.lt
      have sq4 := sq3.below bb4 sq3.lt
      have sr4 := sr3.below bb4 sr3.lt
      have ss4 := ss3.below bb4 ss3.lt
      have su4 := su3.below bb4 su3.lt
      clear B3 X3 Y3 R3 sp3 sq3 sr3 ss3 su3 bb4 hH
      have sx4 := sx
      clear sx
      have hH : (fun W : World => W.cell? ⟨w.heap.size, 0, none⟩ = some (.pointer (some ⟨p, 0, none⟩)) ∧ W.cell? ⟨w.heap.size, 1, none⟩ = some (.pointer (some ⟨q, 0, none⟩))) w4 := ⟨X4.c 0 _ rfl, X4.c 1 _ rfl⟩
      refine hK _ _ hH ?_
      clear hK
      refine oneH 9 rfl (by kernel_rfl) (fun K' hK => ?_)
      go_simp
      refine (kW _ sq4).mono ?_
      rintro e w5 ⟨c3, rfl, hc, sv, bb5⟩
      have ge_sv : w.heap.size ≤ c3 := Nat.le_trans B4.size hc
      have ne_X_sv : ¬ (c3 = w.heap.size) := fun e => by have h1 := X4.hi; omega
      have ne_Y_sv : ¬ (c3 = w.heap.size + 1) := fun e => by have h1 := Y4.hi; omega
      have ne_R_sv : ¬ (c3 = w.heap.size + 1 + 1) := fun e => by have h1 := R4.hi; omega
      clear hc
      have B5 := B4.trans (bb5.mono B4.size)
      have X5 := X4.below bb5 (Nat.le_refl _)
      have Y5 := Y4.below bb5 (Nat.le_refl _)
      have R5 := R4.below bb5 (Nat.le_refl _)
      have sp5 := sp4.below bb5 sp4.lt
      have sq5 := sq4.below bb5 sq4.lt
      have sr5 := sr4.below bb5 sr4.lt
      have ss5 := ss4.below bb5 ss4.lt
      have su5 := su4.below bb5 su4.lt
      have sx5 := sx4.below bb5 sx4.lt
      clear B4 X4 Y4 R4 sp4 sq4 sr4 ss4 su4 sx4 bb5 hH
      have sv5 := sv
      clear sv
      have hH : (fun W : World => W.cell? ⟨w.heap.size, 0, none⟩ = some (.pointer (some ⟨p, 0, none⟩)) ∧ W.cell? ⟨w.heap.size, 1, none⟩ = some (.pointer (some ⟨q, 0, none⟩))) w5 := ⟨X5.c 0 _ rfl, X5.c 1 _ rfl⟩
      refine hK _ _ hH ?_
      clear hK
      refine oneH 11 rfl (by kernel_rfl) (fun K' hK => ?_)
      go_simp
      refine (kB c3 _ sv5 sr5).mono ?_
      rintro e w6 ⟨c4, rfl, hc, sy, bb6⟩
      have ge_sy : w.heap.size ≤ c4 := Nat.le_trans B5.size hc
      have ne_X_sy : ¬ (c4 = w.heap.size) := fun e => by have h1 := X5.hi; omega
      have ne_Y_sy : ¬ (c4 = w.heap.size + 1) := fun e => by have h1 := Y5.hi; omega
      have ne_R_sy : ¬ (c4 = w.heap.size + 1 + 1) := fun e => by have h1 := R5.hi; omega
      clear hc
      have B6 := B5.trans (bb6.mono B5.size)
      have X6 := X5.below bb6 (Nat.le_refl _)
      have Y6 := Y5.below bb6 (Nat.le_refl _)
      have R6 := R5.below bb6 (Nat.le_refl _)
      have sp6 := sp5.below bb6 sp5.lt
      have sq6 := sq5.below bb6 sq5.lt
      have sr6 := sr5.below bb6 sr5.lt
      have ss6 := ss5.below bb6 ss5.lt
      have su6 := su5.below bb6 su5.lt
      have sx6 := sx5.below bb6 sx5.lt
      have sv6 := sv5.below bb6 sv5.lt
      clear B5 X5 Y5 R5 sp5 sq5 sr5 ss5 su5 sx5 sv5 bb6 hH
      have sy6 := sy
      clear sy
      have hH : (fun W : World => W.cell? ⟨w.heap.size, 0, none⟩ = some (.pointer (some ⟨p, 0, none⟩)) ∧ W.cell? ⟨w.heap.size, 1, none⟩ = some (.pointer (some ⟨q, 0, none⟩))) w6 := ⟨X6.c 0 _ rfl, X6.c 1 _ rfl⟩
      refine hK _ _ hH ?_
      clear hK
      refine takeH 12 (some 39) (.agg #[.pointer (some ⟨c2, 0, none⟩), .pointer (some ⟨c4, 0, none⟩)]) rfl rfl (by kernel_rfl) (by kernel_rfl) (by kernel_rfl) (fun _ _ _ h => h) (Or.inl ⟨rfl, fun W hW => by go_simp⟩) hH ?_
      simp only [Act.put, List.setIfInBounds_toArray, List.set_cons_zero, List.set_cons_succ]
      have c_R_0 := R6.c 0 _ rfl
      have f_R_0 := R6.f 0 _ rfl
      have c_R_1 := R6.c 1 _ rfl
      have f_R_1 := R6.f 1 _ rfl
      refine oneH 13 rfl (by kernel_rfl) (fun K' hK => ?_)
      go_simp
      obtain ⟨w7, hw7⟩ : ∃ v, v = (w6.setCell ⟨w.heap.size + 1 + 1, 0, none⟩ (.pointer (some ⟨c2, 0, none⟩))).setCell ⟨w.heap.size + 1 + 1, 1, none⟩ (.pointer (some ⟨c4, 0, none⟩)) := ⟨_, rfl⟩
      have tn7 : Tn [w.heap.size + 1 + 1] w6 w7 := by rw [hw7]; exact ((tnL w6 (w.heap.size + 1 + 1) 0 (.pointer (some ⟨c2, 0, none⟩))).trans (tnL _ (w.heap.size + 1 + 1) 1 (.pointer (some ⟨c4, 0, none⟩))))
      have R7 : BoxL w7 w.heap.size (w.heap.size + 1 + 1) [.pointer (some ⟨c2, 0, none⟩), .pointer (some ⟨c4, 0, none⟩)] := by rw [hw7]; exact ((R6.set 0 (.pointer (some ⟨c2, 0, none⟩)) (by simp)).set 1 (.pointer (some ⟨c4, 0, none⟩)) (by simp))
      have blo7 := R6.lo
      rw [← hw7]
      clear hw7
      have B7 := tn7.below B6 B6.size (fun q hq => by simp at hq; omega)
      have X7 := X6.tn tn7 (not_one (by omega))
      have Y7 := Y6.tn tn7 (not_one (by omega))
      have sp7 := sp6.tnL tn7 (not_one (by omega))
      have sq7 := sq6.tnL tn7 (not_one (by omega))
      have sr7 := sr6.tnL tn7 (not_one (by omega))
      have ss7 := ss6.tnL tn7 (not_one (by omega))
      have su7 := su6.tnL tn7 (not_one (by omega))
      have sx7 := sx6.tnL tn7 (not_one (by omega))
      have sv7 := sv6.tnL tn7 (not_one (by omega))
      have sy7 := sy6.tnL tn7 (not_one (by omega))
      clear B6 X6 Y6 R6 sp6 sq6 sr6 ss6 su6 sx6 sv6 sy6 tn7 blo7
      clear c_R_0 f_R_0 c_R_1 f_R_1
      clear hH
      have hH : (fun W : World => W.cell? ⟨w.heap.size, 0, none⟩ = some (.pointer (some ⟨p, 0, none⟩)) ∧ W.cell? ⟨w.heap.size, 1, none⟩ = some (.pointer (some ⟨q, 0, none⟩))) w7 := ⟨X7.c 0 _ rfl, X7.c 1 _ rfl⟩
      refine hK _ _ hH ?_
      clear hK
      clear hH
      refine wpAnyH_done (by kernel_rfl) ?_ _
      clear kU kW kA kB
      have c_R_0 := R7.c 0 _ rfl
      have c_R_1 := R7.c 1 _ rfl
      go_wp2
      (try simp only [Exit.inBlock, Exit.then])
      refine bodyPost_ret (v := .agg #[.pointer (some ⟨c2, 0, none⟩), .pointer (some ⟨c4, 0, none⟩)]) ?_ rfl ⟨_, _, rfl, sx7, sy7, B7⟩
      rw [results_cell1 rfl]
      go_simp
  · rw [decide_eq_false c1] at hs1 g1
    by_cases c2 : Z < 0
    · rw [decide_eq_true c2] at hs2 g2
      rw [dvLo_pos (by omega) h0 h1, dvHi_neg c2 h0 h1]
      have kA := fun c W h1 h2' => shared_d c s X y2 0 W h1 h2' (by omega) (by omega) (by omega) (by omega) (by omega)
      have kB := fun c W h1 h2' => shared_d c s Z y2 1 W h1 h2' (by omega) (by omega) (by omega) (by omega) (by omega)
      rw [frac_lo] at kA
      rw [frac_hi _ _ (by omega)] at kB
      clear hs1 hs2 e1 e2 h0 h1 h2 P2 c1 c2 m1 m2 m3 m4 hk
      generalize X / y2 = d1 at *
      generalize -(-Z / y2) = d2 at *
      have B0_0 : Below w.heap.size w w := Below.refl _ _
      obtain ⟨ww1, hww1⟩ : ∃ v, v = w.alloc (.cells #[.pointer (some ⟨p, 0, none⟩), .pointer (some ⟨q, 0, none⟩)] 45) := ⟨_, rfl⟩
      have sz1 : ww1.heap.size = w.heap.size + 1 := by rw [hww1]; simp
      have bw1 : Below w.heap.size w ww1 := by rw [hww1]; exact below1 _ _
      have B0_1 := B0_0.trans (bw1.mono B0_0.size)
      have X0_1 : BoxL ww1 w.heap.size w.heap.size [.pointer (some ⟨p, 0, none⟩), .pointer (some ⟨q, 0, none⟩)] := by rw [hww1]; have h := BoxL.made w [.pointer (some ⟨p, 0, none⟩), .pointer (some ⟨q, 0, none⟩)] 45; exact h
      obtain ⟨ww2, hww2⟩ : ∃ v, v = ww1.alloc (.cells #[.pointer (some ⟨r, 0, none⟩), .pointer (some ⟨s, 0, none⟩)] 45) := ⟨_, rfl⟩
      have sz2 : ww2.heap.size = w.heap.size + 1 + 1 := by rw [hww2]; simp [sz1]
      have bw2 : Below ww1.heap.size ww1 ww2 := by rw [hww2]; exact below1 _ _
      have B0_2 := B0_1.trans (bw2.mono B0_1.size)
      have X0_2 := X0_1.below bw2 (Nat.le_refl _)
      have Y0_2 : BoxL ww2 (w.heap.size + 1) (w.heap.size + 1) [.pointer (some ⟨r, 0, none⟩), .pointer (some ⟨s, 0, none⟩)] := by rw [hww2]; have h := BoxL.made ww1 [.pointer (some ⟨r, 0, none⟩), .pointer (some ⟨s, 0, none⟩)] 45; rw [sz1] at h; exact h
      obtain ⟨ww3, hww3⟩ : ∃ v, v = ww2.alloc (.cells #[.pointer none, .pointer none] 45) := ⟨_, rfl⟩
      have sz3 : ww3.heap.size = w.heap.size + 1 + 1 + 1 := by rw [hww3]; simp [sz2]
      have bw3 : Below ww2.heap.size ww2 ww3 := by rw [hww3]; exact below1 _ _
      have B0_3 := B0_2.trans (bw3.mono B0_2.size)
      have X0_3 := X0_2.below bw3 (Nat.le_refl _)
      have Y0_3 := Y0_2.below bw3 (Nat.le_refl _)
      have R0_3 : BoxL ww3 (w.heap.size + 1 + 1) (w.heap.size + 1 + 1) [.pointer none, .pointer none] := by rw [hww3]; have h := BoxL.made ww2 [.pointer none, .pointer none] 45; rw [sz2] at h; exact h
      have X0 := X0_3
      have Y0 := Y0_3.mono (by omega : w.heap.size ≤ w.heap.size + 1)
      have R0 := R0_3.mono (by omega : w.heap.size ≤ w.heap.size + 1 + 1)
      have B0 := B0_3
      have sp0 := sp.below B0 sp.lt
      have lt_sp := sp.lt
      have sq0 := sq.below B0 sq.lt
      have lt_sq := sq.lt
      have sr0 := sr.below B0 sr.lt
      have lt_sr := sr.lt
      have ss0 := ss.below B0 ss.lt
      have lt_ss := ss.lt
      clear B0_0 B0_1 B0_2 B0_3 bw1 bw2 bw3 X0_1 X0_2 X0_3 Y0_2 Y0_3 R0_3
      clear sp sq sr ss
      go_enter Try.func30, Try.ntmps30
      go_wp2_with fail
      have hvv : ((w.alloc (.cells #[.pointer (some ⟨p, 0, none⟩), .pointer (some ⟨q, 0, none⟩)] 45)).alloc (.cells #[.pointer (some ⟨r, 0, none⟩), .pointer (some ⟨s, 0, none⟩)] 45)).alloc (.cells #[.pointer none, .pointer none] 45) = ww3 := by rw [hww3]; rw [hww2]; rw [hww1]
      rw [hvv]
      clear hvv hww1 hww2 hww3 sz1 sz2
      clear ww1 ww2
      have hz0 : w.heap.size + 3 ≤ ww3.heap.size := by omega
      clear sz3
      obtain ⟨w1, hw1⟩ : ∃ v, Hid (v = ww3.drew) := ⟨_, rfl⟩
      have bd : Below ww3.heap.size ww3 w1 := by rw [hw1.out]; exact (Below.refl ww3.heap.size ww3).drew
      have B1 := B0.trans (bd.mono B0.size)
      have X1 := X0.below bd (Nat.le_refl _)
      have Y1 := Y0.below bd (Nat.le_refl _)
      have R1 := R0.below bd (Nat.le_refl _)
      have sp1 := sp0.below bd sp0.lt
      have sq1 := sq0.below bd sq0.lt
      have sr1 := sr0.below bd sr0.lt
      have ss1 := ss0.below bd ss0.lt
      clear B0 X0 Y0 R0 sp0 sq0 sr0 ss0 bd
      have hH : (fun W : World => W.cell? ⟨w.heap.size, 0, none⟩ = some (.pointer (some ⟨p, 0, none⟩)) ∧ W.cell? ⟨w.heap.size, 1, none⟩ = some (.pointer (some ⟨q, 0, none⟩)) ∧ W.cell? ⟨w.heap.size + 1, 0, none⟩ = some (.pointer (some ⟨r, 0, none⟩)) ∧ W.cell? ⟨w.heap.size + 1, 1, none⟩ = some (.pointer (some ⟨s, 0, none⟩))) w1 := ⟨X1.c 0 _ rfl, X1.c 1 _ rfl, Y1.c 0 _ rfl, Y1.c 1 _ rfl⟩
      refine wp_region_held_drew (S := fun W => W.cell? ⟨w.heap.size, 0, none⟩ = some (.pointer (some ⟨p, 0, none⟩)) ∧ W.cell? ⟨w.heap.size, 1, none⟩ = some (.pointer (some ⟨q, 0, none⟩)) ∧ W.cell? ⟨w.heap.size + 1, 0, none⟩ = some (.pointer (some ⟨r, 0, none⟩)) ∧ W.cell? ⟨w.heap.size + 1, 1, none⟩ = some (.pointer (some ⟨s, 0, none⟩))) (by kernel_rfl) (by rw [← hw1.out]; exact hH) ?_
      intro _
      rw [← hw1.out]
      clear hw1
      refine takeH 0 (some 9) (.pointer (some ⟨w.heap.size + 1, 1, none⟩)) rfl rfl (by kernel_rfl) (by kernel_rfl) (by kernel_rfl) (fun _ _ _ h => h) (Or.inl ⟨rfl, fun W hW => by go_simp⟩) hH ?_
      simp only [Act.put, List.setIfInBounds_toArray, List.set_cons_zero, List.set_cons_succ]
      refine takeH 1 (some 10) (.pointer (some ⟨s, 0, none⟩)) rfl rfl (by kernel_rfl) (by kernel_rfl) (by kernel_rfl) (fun _ _ _ h => h) (Or.inl ⟨rfl, fun W hW => by obtain ⟨l0, l1, l2, l3⟩ := hW; go_simp⟩) hH ?_
      simp only [Act.put, List.setIfInBounds_toArray, List.set_cons_zero, List.set_cons_succ]
      refine takeH 2 (some 11) (.pointer (some ⟨w.heap.size + 1, 0, none⟩)) rfl rfl (by kernel_rfl) (by kernel_rfl) (by kernel_rfl) (fun _ _ _ h => h) (Or.inl ⟨rfl, fun W hW => by go_simp⟩) hH ?_
      simp only [Act.put, List.setIfInBounds_toArray, List.set_cons_zero, List.set_cons_succ]
      refine takeH 3 (some 12) (.pointer (some ⟨r, 0, none⟩)) rfl rfl (by kernel_rfl) (by kernel_rfl) (by kernel_rfl) (fun _ _ _ h => h) (Or.inl ⟨rfl, fun W hW => by obtain ⟨l0, l1, l2, l3⟩ := hW; go_simp⟩) hH ?_
      simp only [Act.put, List.setIfInBounds_toArray, List.set_cons_zero, List.set_cons_succ]
      refine takeH 4 (some 7) (.pointer (some ⟨s, 0, none⟩)) rfl rfl (by kernel_rfl) (by kernel_rfl) (by kernel_rfl) (fun _ _ _ h => h) (Or.inl ⟨rfl, fun W hW => by go_simp⟩) hH ?_
      simp only [Act.put, List.setIfInBounds_toArray, List.set_cons_zero, List.set_cons_succ]
      refine takeH 5 (some 8) (.pointer (some ⟨r, 0, none⟩)) rfl rfl (by kernel_rfl) (by kernel_rfl) (by kernel_rfl) (fun _ _ _ h => h) (Or.inl ⟨rfl, fun W hW => by go_simp⟩) hH ?_
      simp only [Act.put, List.setIfInBounds_toArray, List.set_cons_zero, List.set_cons_succ]
      clear hH
      refine wpAnyH_done (by kernel_rfl) ?_ _
      have c_s1 : w1.cell? ⟨p, 0, none⟩ = some (.bool false) := by have h := sp1.sign; rw [g1] at h; exact h
      have c_s2 : w1.cell? ⟨q, 0, none⟩ = some (.bool true) := by have h := sq1.sign; rw [g2] at h; exact h
      have c_X_0 := X1.c 0 _ rfl
      have c_X_1 := X1.c 1 _ rfl
      have c_Y_0 := Y1.c 0 _ rfl
      have c_Y_1 := Y1.c 1 _ rfl
      go_wp2_with fail
      clear c_X_0 c_X_1 c_Y_0 c_Y_1
      clear c_s1 c_s2 g1 g2
      obtain ⟨w2, hw2⟩ : ∃ v, Hid (v = w1.drew) := ⟨_, rfl⟩
      have bd : Below w1.heap.size w1 w2 := by rw [hw2.out]; exact (Below.refl w1.heap.size w1).drew
      have B2 := B1.trans (bd.mono B1.size)
      have X2 := X1.below bd (Nat.le_refl _)
      have Y2 := Y1.below bd (Nat.le_refl _)
      have R2 := R1.below bd (Nat.le_refl _)
      have sp2 := sp1.below bd sp1.lt
      have sq2 := sq1.below bd sq1.lt
      have sr2 := sr1.below bd sr1.lt
      have ss2 := ss1.below bd ss1.lt
      clear B1 X1 Y1 R1 sp1 sq1 sr1 ss1 bd
      have hH : (fun W : World => W.cell? ⟨w.heap.size, 0, none⟩ = some (.pointer (some ⟨p, 0, none⟩)) ∧ W.cell? ⟨w.heap.size, 1, none⟩ = some (.pointer (some ⟨q, 0, none⟩))) w2 := ⟨X2.c 0 _ rfl, X2.c 1 _ rfl⟩
      refine wp_region_held_drew (S := fun W => W.cell? ⟨w.heap.size, 0, none⟩ = some (.pointer (some ⟨p, 0, none⟩)) ∧ W.cell? ⟨w.heap.size, 1, none⟩ = some (.pointer (some ⟨q, 0, none⟩))) (by kernel_rfl) (by rw [← hw2.out]; exact hH) ?_
      intro _
      rw [← hw2.out]
      clear hw2
      refine takeH 0 (some 27) (.pointer (some ⟨w.heap.size, 0, none⟩)) rfl rfl (by kernel_rfl) (by kernel_rfl) (by kernel_rfl) (fun _ _ _ h => h) (Or.inl ⟨rfl, fun W hW => by go_simp⟩) hH ?_
      simp only [Act.put, List.setIfInBounds_toArray, List.set_cons_zero, List.set_cons_succ]
      refine takeH 1 (some 28) (.pointer (some ⟨p, 0, none⟩)) rfl rfl (by kernel_rfl) (by kernel_rfl) (by kernel_rfl) (fun _ _ _ h => h) (Or.inl ⟨rfl, fun W hW => by obtain ⟨l0, l1⟩ := hW; go_simp⟩) hH ?_
      simp only [Act.put, List.setIfInBounds_toArray, List.set_cons_zero, List.set_cons_succ]
      refine takeH 2 (some 29) (.int .i64 k) rfl rfl (by kernel_rfl) (by kernel_rfl) (by kernel_rfl) (fun _ _ _ h => h) (Or.inl ⟨rfl, fun W hW => by go_simp⟩) hH ?_
      simp only [Act.put, List.setIfInBounds_toArray, List.set_cons_zero, List.set_cons_succ]
      refine takeH 4 (some 31) (.pointer (some ⟨s, 0, none⟩)) rfl rfl (by kernel_rfl) (by kernel_rfl) (by kernel_rfl) (fun _ _ _ h => h) (Or.inl ⟨rfl, fun W hW => by go_simp⟩) hH ?_
      simp only [Act.put, List.setIfInBounds_toArray, List.set_cons_zero, List.set_cons_succ]
      refine takeH 6 (some 33) (.pointer (some ⟨w.heap.size, 1, none⟩)) rfl rfl (by kernel_rfl) (by kernel_rfl) (by kernel_rfl) (fun _ _ _ h => h) (Or.inl ⟨rfl, fun W hW => by go_simp⟩) hH ?_
      simp only [Act.put, List.setIfInBounds_toArray, List.set_cons_zero, List.set_cons_succ]
      refine takeH 7 (some 34) (.pointer (some ⟨q, 0, none⟩)) rfl rfl (by kernel_rfl) (by kernel_rfl) (by kernel_rfl) (fun _ _ _ h => h) (Or.inl ⟨rfl, fun W hW => by obtain ⟨l0, l1⟩ := hW; go_simp⟩) hH ?_
      simp only [Act.put, List.setIfInBounds_toArray, List.set_cons_zero, List.set_cons_succ]
      refine takeH 8 (some 35) (.int .i64 k) rfl rfl (by kernel_rfl) (by kernel_rfl) (by kernel_rfl) (fun _ _ _ h => h) (Or.inl ⟨rfl, fun W hW => by go_simp⟩) hH ?_
      simp only [Act.put, List.setIfInBounds_toArray, List.set_cons_zero, List.set_cons_succ]
      refine takeH 10 (some 37) (.pointer (some ⟨s, 0, none⟩)) rfl rfl (by kernel_rfl) (by kernel_rfl) (by kernel_rfl) (fun _ _ _ h => h) (Or.inl ⟨rfl, fun W hW => by go_simp⟩) hH ?_
      simp only [Act.put, List.setIfInBounds_toArray, List.set_cons_zero, List.set_cons_succ]
      refine oneH 3 rfl (by kernel_rfl) (fun K' hK => ?_)
      go_simp
      refine (kU _ sp2).mono ?_
      rintro e w3 ⟨c, rfl, hc, su, bb3⟩
      have ge_su : w.heap.size ≤ c := Nat.le_trans B2.size hc
      have ne_X_su : ¬ (c = w.heap.size) := fun e => by have h1 := X2.hi; omega
      have ne_Y_su : ¬ (c = w.heap.size + 1) := fun e => by have h1 := Y2.hi; omega
      have ne_R_su : ¬ (c = w.heap.size + 1 + 1) := fun e => by have h1 := R2.hi; omega
      clear hc
      have B3 := B2.trans (bb3.mono B2.size)
      have X3 := X2.below bb3 (Nat.le_refl _)
      have Y3 := Y2.below bb3 (Nat.le_refl _)
      have R3 := R2.below bb3 (Nat.le_refl _)
      have sp3 := sp2.below bb3 sp2.lt
      have sq3 := sq2.below bb3 sq2.lt
      have sr3 := sr2.below bb3 sr2.lt
      have ss3 := ss2.below bb3 ss2.lt
      clear B2 X2 Y2 R2 sp2 sq2 sr2 ss2 bb3 hH
      have su3 := su
      clear su
      have hH : (fun W : World => W.cell? ⟨w.heap.size, 0, none⟩ = some (.pointer (some ⟨p, 0, none⟩)) ∧ W.cell? ⟨w.heap.size, 1, none⟩ = some (.pointer (some ⟨q, 0, none⟩))) w3 := ⟨X3.c 0 _ rfl, X3.c 1 _ rfl⟩
      refine hK _ _ hH ?_
      clear hK
      refine oneH 5 rfl (by kernel_rfl) (fun K' hK => ?_)
      go_simp
      refine (kA c _ su3 ss3).mono ?_
      rintro e w4 ⟨c2, rfl, hc, sx, bb4⟩
      have ge_sx : w.heap.size ≤ c2 := Nat.le_trans B3.size hc
      have ne_X_sx : ¬ (c2 = w.heap.size) := fun e => by have h1 := X3.hi; omega
      have ne_Y_sx : ¬ (c2 = w.heap.size + 1) := fun e => by have h1 := Y3.hi; omega
      have ne_R_sx : ¬ (c2 = w.heap.size + 1 + 1) := fun e => by have h1 := R3.hi; omega
      clear hc
      have B4 := B3.trans (bb4.mono B3.size)
      have X4 := X3.below bb4 (Nat.le_refl _)
      have Y4 := Y3.below bb4 (Nat.le_refl _)
      have R4 := R3.below bb4 (Nat.le_refl _)
      have sp4 := sp3.below bb4 sp3.lt
      have sq4 := sq3.below bb4 sq3.lt
      have sr4 := sr3.below bb4 sr3.lt
      have ss4 := ss3.below bb4 ss3.lt
      have su4 := su3.below bb4 su3.lt
      clear B3 X3 Y3 R3 sp3 sq3 sr3 ss3 su3 bb4 hH
      have sx4 := sx
      clear sx
      have hH : (fun W : World => W.cell? ⟨w.heap.size, 0, none⟩ = some (.pointer (some ⟨p, 0, none⟩)) ∧ W.cell? ⟨w.heap.size, 1, none⟩ = some (.pointer (some ⟨q, 0, none⟩))) w4 := ⟨X4.c 0 _ rfl, X4.c 1 _ rfl⟩
      refine hK _ _ hH ?_
      clear hK
      refine oneH 9 rfl (by kernel_rfl) (fun K' hK => ?_)
      go_simp
      refine (kW _ sq4).mono ?_
      rintro e w5 ⟨c3, rfl, hc, sv, bb5⟩
      have ge_sv : w.heap.size ≤ c3 := Nat.le_trans B4.size hc
      have ne_X_sv : ¬ (c3 = w.heap.size) := fun e => by have h1 := X4.hi; omega
      have ne_Y_sv : ¬ (c3 = w.heap.size + 1) := fun e => by have h1 := Y4.hi; omega
      have ne_R_sv : ¬ (c3 = w.heap.size + 1 + 1) := fun e => by have h1 := R4.hi; omega
      clear hc
      have B5 := B4.trans (bb5.mono B4.size)
      have X5 := X4.below bb5 (Nat.le_refl _)
      have Y5 := Y4.below bb5 (Nat.le_refl _)
      have R5 := R4.below bb5 (Nat.le_refl _)
      have sp5 := sp4.below bb5 sp4.lt
      have sq5 := sq4.below bb5 sq4.lt
      have sr5 := sr4.below bb5 sr4.lt
      have ss5 := ss4.below bb5 ss4.lt
      have su5 := su4.below bb5 su4.lt
      have sx5 := sx4.below bb5 sx4.lt
      clear B4 X4 Y4 R4 sp4 sq4 sr4 ss4 su4 sx4 bb5 hH
      have sv5 := sv
      clear sv
      have hH : (fun W : World => W.cell? ⟨w.heap.size, 0, none⟩ = some (.pointer (some ⟨p, 0, none⟩)) ∧ W.cell? ⟨w.heap.size, 1, none⟩ = some (.pointer (some ⟨q, 0, none⟩))) w5 := ⟨X5.c 0 _ rfl, X5.c 1 _ rfl⟩
      refine hK _ _ hH ?_
      clear hK
      refine oneH 11 rfl (by kernel_rfl) (fun K' hK => ?_)
      go_simp
      refine (kB c3 _ sv5 ss5).mono ?_
      rintro e w6 ⟨c4, rfl, hc, sy, bb6⟩
      have ge_sy : w.heap.size ≤ c4 := Nat.le_trans B5.size hc
      have ne_X_sy : ¬ (c4 = w.heap.size) := fun e => by have h1 := X5.hi; omega
      have ne_Y_sy : ¬ (c4 = w.heap.size + 1) := fun e => by have h1 := Y5.hi; omega
      have ne_R_sy : ¬ (c4 = w.heap.size + 1 + 1) := fun e => by have h1 := R5.hi; omega
      clear hc
      have B6 := B5.trans (bb6.mono B5.size)
      have X6 := X5.below bb6 (Nat.le_refl _)
      have Y6 := Y5.below bb6 (Nat.le_refl _)
      have R6 := R5.below bb6 (Nat.le_refl _)
      have sp6 := sp5.below bb6 sp5.lt
      have sq6 := sq5.below bb6 sq5.lt
      have sr6 := sr5.below bb6 sr5.lt
      have ss6 := ss5.below bb6 ss5.lt
      have su6 := su5.below bb6 su5.lt
      have sx6 := sx5.below bb6 sx5.lt
      have sv6 := sv5.below bb6 sv5.lt
      clear B5 X5 Y5 R5 sp5 sq5 sr5 ss5 su5 sx5 sv5 bb6 hH
      have sy6 := sy
      clear sy
      have hH : (fun W : World => W.cell? ⟨w.heap.size, 0, none⟩ = some (.pointer (some ⟨p, 0, none⟩)) ∧ W.cell? ⟨w.heap.size, 1, none⟩ = some (.pointer (some ⟨q, 0, none⟩))) w6 := ⟨X6.c 0 _ rfl, X6.c 1 _ rfl⟩
      refine hK _ _ hH ?_
      clear hK
      refine takeH 12 (some 39) (.agg #[.pointer (some ⟨c2, 0, none⟩), .pointer (some ⟨c4, 0, none⟩)]) rfl rfl (by kernel_rfl) (by kernel_rfl) (by kernel_rfl) (fun _ _ _ h => h) (Or.inl ⟨rfl, fun W hW => by go_simp⟩) hH ?_
      simp only [Act.put, List.setIfInBounds_toArray, List.set_cons_zero, List.set_cons_succ]
      have c_R_0 := R6.c 0 _ rfl
      have f_R_0 := R6.f 0 _ rfl
      have c_R_1 := R6.c 1 _ rfl
      have f_R_1 := R6.f 1 _ rfl
      refine oneH 13 rfl (by kernel_rfl) (fun K' hK => ?_)
      go_simp
      obtain ⟨w7, hw7⟩ : ∃ v, v = (w6.setCell ⟨w.heap.size + 1 + 1, 0, none⟩ (.pointer (some ⟨c2, 0, none⟩))).setCell ⟨w.heap.size + 1 + 1, 1, none⟩ (.pointer (some ⟨c4, 0, none⟩)) := ⟨_, rfl⟩
      have tn7 : Tn [w.heap.size + 1 + 1] w6 w7 := by rw [hw7]; exact ((tnL w6 (w.heap.size + 1 + 1) 0 (.pointer (some ⟨c2, 0, none⟩))).trans (tnL _ (w.heap.size + 1 + 1) 1 (.pointer (some ⟨c4, 0, none⟩))))
      have R7 : BoxL w7 w.heap.size (w.heap.size + 1 + 1) [.pointer (some ⟨c2, 0, none⟩), .pointer (some ⟨c4, 0, none⟩)] := by rw [hw7]; exact ((R6.set 0 (.pointer (some ⟨c2, 0, none⟩)) (by simp)).set 1 (.pointer (some ⟨c4, 0, none⟩)) (by simp))
      have blo7 := R6.lo
      rw [← hw7]
      clear hw7
      have B7 := tn7.below B6 B6.size (fun q hq => by simp at hq; omega)
      have X7 := X6.tn tn7 (not_one (by omega))
      have Y7 := Y6.tn tn7 (not_one (by omega))
      have sp7 := sp6.tnL tn7 (not_one (by omega))
      have sq7 := sq6.tnL tn7 (not_one (by omega))
      have sr7 := sr6.tnL tn7 (not_one (by omega))
      have ss7 := ss6.tnL tn7 (not_one (by omega))
      have su7 := su6.tnL tn7 (not_one (by omega))
      have sx7 := sx6.tnL tn7 (not_one (by omega))
      have sv7 := sv6.tnL tn7 (not_one (by omega))
      have sy7 := sy6.tnL tn7 (not_one (by omega))
      clear B6 X6 Y6 R6 sp6 sq6 sr6 ss6 su6 sx6 sv6 sy6 tn7 blo7
      clear c_R_0 f_R_0 c_R_1 f_R_1
      clear hH
      have hH : (fun W : World => W.cell? ⟨w.heap.size, 0, none⟩ = some (.pointer (some ⟨p, 0, none⟩)) ∧ W.cell? ⟨w.heap.size, 1, none⟩ = some (.pointer (some ⟨q, 0, none⟩))) w7 := ⟨X7.c 0 _ rfl, X7.c 1 _ rfl⟩
      refine hK _ _ hH ?_
      clear hK
      clear hH
      refine wpAnyH_done (by kernel_rfl) ?_ _
      clear kU kW kA kB
      have c_R_0 := R7.c 0 _ rfl
      have c_R_1 := R7.c 1 _ rfl
      go_wp2
      (try simp only [Exit.inBlock, Exit.then])
      refine bodyPost_ret (v := .agg #[.pointer (some ⟨c2, 0, none⟩), .pointer (some ⟨c4, 0, none⟩)]) ?_ rfl ⟨_, _, rfl, sx7, sy7, B7⟩
      rw [results_cell1 rfl]
      go_simp
    · rw [decide_eq_false c2] at hs2 g2
      rw [dvLo_pos (by omega) h0 h1, dvHi_pos (by omega) h0 h1]
      have kA := fun c W h1 h2' => shared_d c s X y2 0 W h1 h2' (by omega) (by omega) (by omega) (by omega) (by omega)
      have kB := fun c W h1 h2' => shared_d c r Z x2 1 W h1 h2' (by omega) (by omega) (by omega) (by omega) (by omega)
      rw [frac_lo] at kA
      rw [frac_hi _ _ (by omega)] at kB
      clear hs1 hs2 e1 e2 h0 h1 h2 P2 c1 c2 m1 m2 m3 m4 hk
      generalize X / y2 = d1 at *
      generalize -(-Z / x2) = d2 at *
      have B0_0 : Below w.heap.size w w := Below.refl _ _
      obtain ⟨ww1, hww1⟩ : ∃ v, v = w.alloc (.cells #[.pointer (some ⟨p, 0, none⟩), .pointer (some ⟨q, 0, none⟩)] 45) := ⟨_, rfl⟩
      have sz1 : ww1.heap.size = w.heap.size + 1 := by rw [hww1]; simp
      have bw1 : Below w.heap.size w ww1 := by rw [hww1]; exact below1 _ _
      have B0_1 := B0_0.trans (bw1.mono B0_0.size)
      have X0_1 : BoxL ww1 w.heap.size w.heap.size [.pointer (some ⟨p, 0, none⟩), .pointer (some ⟨q, 0, none⟩)] := by rw [hww1]; have h := BoxL.made w [.pointer (some ⟨p, 0, none⟩), .pointer (some ⟨q, 0, none⟩)] 45; exact h
      obtain ⟨ww2, hww2⟩ : ∃ v, v = ww1.alloc (.cells #[.pointer (some ⟨r, 0, none⟩), .pointer (some ⟨s, 0, none⟩)] 45) := ⟨_, rfl⟩
      have sz2 : ww2.heap.size = w.heap.size + 1 + 1 := by rw [hww2]; simp [sz1]
      have bw2 : Below ww1.heap.size ww1 ww2 := by rw [hww2]; exact below1 _ _
      have B0_2 := B0_1.trans (bw2.mono B0_1.size)
      have X0_2 := X0_1.below bw2 (Nat.le_refl _)
      have Y0_2 : BoxL ww2 (w.heap.size + 1) (w.heap.size + 1) [.pointer (some ⟨r, 0, none⟩), .pointer (some ⟨s, 0, none⟩)] := by rw [hww2]; have h := BoxL.made ww1 [.pointer (some ⟨r, 0, none⟩), .pointer (some ⟨s, 0, none⟩)] 45; rw [sz1] at h; exact h
      obtain ⟨ww3, hww3⟩ : ∃ v, v = ww2.alloc (.cells #[.pointer none, .pointer none] 45) := ⟨_, rfl⟩
      have sz3 : ww3.heap.size = w.heap.size + 1 + 1 + 1 := by rw [hww3]; simp [sz2]
      have bw3 : Below ww2.heap.size ww2 ww3 := by rw [hww3]; exact below1 _ _
      have B0_3 := B0_2.trans (bw3.mono B0_2.size)
      have X0_3 := X0_2.below bw3 (Nat.le_refl _)
      have Y0_3 := Y0_2.below bw3 (Nat.le_refl _)
      have R0_3 : BoxL ww3 (w.heap.size + 1 + 1) (w.heap.size + 1 + 1) [.pointer none, .pointer none] := by rw [hww3]; have h := BoxL.made ww2 [.pointer none, .pointer none] 45; rw [sz2] at h; exact h
      have X0 := X0_3
      have Y0 := Y0_3.mono (by omega : w.heap.size ≤ w.heap.size + 1)
      have R0 := R0_3.mono (by omega : w.heap.size ≤ w.heap.size + 1 + 1)
      have B0 := B0_3
      have sp0 := sp.below B0 sp.lt
      have lt_sp := sp.lt
      have sq0 := sq.below B0 sq.lt
      have lt_sq := sq.lt
      have sr0 := sr.below B0 sr.lt
      have lt_sr := sr.lt
      have ss0 := ss.below B0 ss.lt
      have lt_ss := ss.lt
      clear B0_0 B0_1 B0_2 B0_3 bw1 bw2 bw3 X0_1 X0_2 X0_3 Y0_2 Y0_3 R0_3
      clear sp sq sr ss
      go_enter Try.func30, Try.ntmps30
      go_wp2_with fail
      have hvv : ((w.alloc (.cells #[.pointer (some ⟨p, 0, none⟩), .pointer (some ⟨q, 0, none⟩)] 45)).alloc (.cells #[.pointer (some ⟨r, 0, none⟩), .pointer (some ⟨s, 0, none⟩)] 45)).alloc (.cells #[.pointer none, .pointer none] 45) = ww3 := by rw [hww3]; rw [hww2]; rw [hww1]
      rw [hvv]
      clear hvv hww1 hww2 hww3 sz1 sz2
      clear ww1 ww2
      have hz0 : w.heap.size + 3 ≤ ww3.heap.size := by omega
      clear sz3
      obtain ⟨w1, hw1⟩ : ∃ v, Hid (v = ww3.drew) := ⟨_, rfl⟩
      have bd : Below ww3.heap.size ww3 w1 := by rw [hw1.out]; exact (Below.refl ww3.heap.size ww3).drew
      have B1 := B0.trans (bd.mono B0.size)
      have X1 := X0.below bd (Nat.le_refl _)
      have Y1 := Y0.below bd (Nat.le_refl _)
      have R1 := R0.below bd (Nat.le_refl _)
      have sp1 := sp0.below bd sp0.lt
      have sq1 := sq0.below bd sq0.lt
      have sr1 := sr0.below bd sr0.lt
      have ss1 := ss0.below bd ss0.lt
      clear B0 X0 Y0 R0 sp0 sq0 sr0 ss0 bd
      have hH : (fun W : World => W.cell? ⟨w.heap.size, 0, none⟩ = some (.pointer (some ⟨p, 0, none⟩)) ∧ W.cell? ⟨w.heap.size, 1, none⟩ = some (.pointer (some ⟨q, 0, none⟩)) ∧ W.cell? ⟨w.heap.size + 1, 0, none⟩ = some (.pointer (some ⟨r, 0, none⟩)) ∧ W.cell? ⟨w.heap.size + 1, 1, none⟩ = some (.pointer (some ⟨s, 0, none⟩))) w1 := ⟨X1.c 0 _ rfl, X1.c 1 _ rfl, Y1.c 0 _ rfl, Y1.c 1 _ rfl⟩
      refine wp_region_held_drew (S := fun W => W.cell? ⟨w.heap.size, 0, none⟩ = some (.pointer (some ⟨p, 0, none⟩)) ∧ W.cell? ⟨w.heap.size, 1, none⟩ = some (.pointer (some ⟨q, 0, none⟩)) ∧ W.cell? ⟨w.heap.size + 1, 0, none⟩ = some (.pointer (some ⟨r, 0, none⟩)) ∧ W.cell? ⟨w.heap.size + 1, 1, none⟩ = some (.pointer (some ⟨s, 0, none⟩))) (by kernel_rfl) (by rw [← hw1.out]; exact hH) ?_
      intro _
      rw [← hw1.out]
      clear hw1
      refine takeH 0 (some 9) (.pointer (some ⟨w.heap.size + 1, 1, none⟩)) rfl rfl (by kernel_rfl) (by kernel_rfl) (by kernel_rfl) (fun _ _ _ h => h) (Or.inl ⟨rfl, fun W hW => by go_simp⟩) hH ?_
      simp only [Act.put, List.setIfInBounds_toArray, List.set_cons_zero, List.set_cons_succ]
      refine takeH 1 (some 10) (.pointer (some ⟨s, 0, none⟩)) rfl rfl (by kernel_rfl) (by kernel_rfl) (by kernel_rfl) (fun _ _ _ h => h) (Or.inl ⟨rfl, fun W hW => by obtain ⟨l0, l1, l2, l3⟩ := hW; go_simp⟩) hH ?_
      simp only [Act.put, List.setIfInBounds_toArray, List.set_cons_zero, List.set_cons_succ]
      refine takeH 2 (some 11) (.pointer (some ⟨w.heap.size + 1, 0, none⟩)) rfl rfl (by kernel_rfl) (by kernel_rfl) (by kernel_rfl) (fun _ _ _ h => h) (Or.inl ⟨rfl, fun W hW => by go_simp⟩) hH ?_
      simp only [Act.put, List.setIfInBounds_toArray, List.set_cons_zero, List.set_cons_succ]
      refine takeH 3 (some 12) (.pointer (some ⟨r, 0, none⟩)) rfl rfl (by kernel_rfl) (by kernel_rfl) (by kernel_rfl) (fun _ _ _ h => h) (Or.inl ⟨rfl, fun W hW => by obtain ⟨l0, l1, l2, l3⟩ := hW; go_simp⟩) hH ?_
      simp only [Act.put, List.setIfInBounds_toArray, List.set_cons_zero, List.set_cons_succ]
      refine takeH 4 (some 7) (.pointer (some ⟨s, 0, none⟩)) rfl rfl (by kernel_rfl) (by kernel_rfl) (by kernel_rfl) (fun _ _ _ h => h) (Or.inl ⟨rfl, fun W hW => by go_simp⟩) hH ?_
      simp only [Act.put, List.setIfInBounds_toArray, List.set_cons_zero, List.set_cons_succ]
      refine takeH 5 (some 8) (.pointer (some ⟨r, 0, none⟩)) rfl rfl (by kernel_rfl) (by kernel_rfl) (by kernel_rfl) (fun _ _ _ h => h) (Or.inl ⟨rfl, fun W hW => by go_simp⟩) hH ?_
      simp only [Act.put, List.setIfInBounds_toArray, List.set_cons_zero, List.set_cons_succ]
      clear hH
      refine wpAnyH_done (by kernel_rfl) ?_ _
      have c_s1 : w1.cell? ⟨p, 0, none⟩ = some (.bool false) := by have h := sp1.sign; rw [g1] at h; exact h
      have c_s2 : w1.cell? ⟨q, 0, none⟩ = some (.bool false) := by have h := sq1.sign; rw [g2] at h; exact h
      have c_X_0 := X1.c 0 _ rfl
      have c_X_1 := X1.c 1 _ rfl
      have c_Y_0 := Y1.c 0 _ rfl
      have c_Y_1 := Y1.c 1 _ rfl
      go_wp2_with fail
      clear c_X_0 c_X_1 c_Y_0 c_Y_1
      clear c_s1 c_s2 g1 g2
      obtain ⟨w2, hw2⟩ : ∃ v, Hid (v = w1.drew) := ⟨_, rfl⟩
      have bd : Below w1.heap.size w1 w2 := by rw [hw2.out]; exact (Below.refl w1.heap.size w1).drew
      have B2 := B1.trans (bd.mono B1.size)
      have X2 := X1.below bd (Nat.le_refl _)
      have Y2 := Y1.below bd (Nat.le_refl _)
      have R2 := R1.below bd (Nat.le_refl _)
      have sp2 := sp1.below bd sp1.lt
      have sq2 := sq1.below bd sq1.lt
      have sr2 := sr1.below bd sr1.lt
      have ss2 := ss1.below bd ss1.lt
      clear B1 X1 Y1 R1 sp1 sq1 sr1 ss1 bd
      have hH : (fun W : World => W.cell? ⟨w.heap.size, 0, none⟩ = some (.pointer (some ⟨p, 0, none⟩)) ∧ W.cell? ⟨w.heap.size, 1, none⟩ = some (.pointer (some ⟨q, 0, none⟩))) w2 := ⟨X2.c 0 _ rfl, X2.c 1 _ rfl⟩
      refine wp_region_held_drew (S := fun W => W.cell? ⟨w.heap.size, 0, none⟩ = some (.pointer (some ⟨p, 0, none⟩)) ∧ W.cell? ⟨w.heap.size, 1, none⟩ = some (.pointer (some ⟨q, 0, none⟩))) (by kernel_rfl) (by rw [← hw2.out]; exact hH) ?_
      intro _
      rw [← hw2.out]
      clear hw2
      refine takeH 0 (some 27) (.pointer (some ⟨w.heap.size, 0, none⟩)) rfl rfl (by kernel_rfl) (by kernel_rfl) (by kernel_rfl) (fun _ _ _ h => h) (Or.inl ⟨rfl, fun W hW => by go_simp⟩) hH ?_
      simp only [Act.put, List.setIfInBounds_toArray, List.set_cons_zero, List.set_cons_succ]
      refine takeH 1 (some 28) (.pointer (some ⟨p, 0, none⟩)) rfl rfl (by kernel_rfl) (by kernel_rfl) (by kernel_rfl) (fun _ _ _ h => h) (Or.inl ⟨rfl, fun W hW => by obtain ⟨l0, l1⟩ := hW; go_simp⟩) hH ?_
      simp only [Act.put, List.setIfInBounds_toArray, List.set_cons_zero, List.set_cons_succ]
      refine takeH 2 (some 29) (.int .i64 k) rfl rfl (by kernel_rfl) (by kernel_rfl) (by kernel_rfl) (fun _ _ _ h => h) (Or.inl ⟨rfl, fun W hW => by go_simp⟩) hH ?_
      simp only [Act.put, List.setIfInBounds_toArray, List.set_cons_zero, List.set_cons_succ]
      refine takeH 4 (some 31) (.pointer (some ⟨s, 0, none⟩)) rfl rfl (by kernel_rfl) (by kernel_rfl) (by kernel_rfl) (fun _ _ _ h => h) (Or.inl ⟨rfl, fun W hW => by go_simp⟩) hH ?_
      simp only [Act.put, List.setIfInBounds_toArray, List.set_cons_zero, List.set_cons_succ]
      refine takeH 6 (some 33) (.pointer (some ⟨w.heap.size, 1, none⟩)) rfl rfl (by kernel_rfl) (by kernel_rfl) (by kernel_rfl) (fun _ _ _ h => h) (Or.inl ⟨rfl, fun W hW => by go_simp⟩) hH ?_
      simp only [Act.put, List.setIfInBounds_toArray, List.set_cons_zero, List.set_cons_succ]
      refine takeH 7 (some 34) (.pointer (some ⟨q, 0, none⟩)) rfl rfl (by kernel_rfl) (by kernel_rfl) (by kernel_rfl) (fun _ _ _ h => h) (Or.inl ⟨rfl, fun W hW => by obtain ⟨l0, l1⟩ := hW; go_simp⟩) hH ?_
      simp only [Act.put, List.setIfInBounds_toArray, List.set_cons_zero, List.set_cons_succ]
      refine takeH 8 (some 35) (.int .i64 k) rfl rfl (by kernel_rfl) (by kernel_rfl) (by kernel_rfl) (fun _ _ _ h => h) (Or.inl ⟨rfl, fun W hW => by go_simp⟩) hH ?_
      simp only [Act.put, List.setIfInBounds_toArray, List.set_cons_zero, List.set_cons_succ]
      refine takeH 10 (some 37) (.pointer (some ⟨r, 0, none⟩)) rfl rfl (by kernel_rfl) (by kernel_rfl) (by kernel_rfl) (fun _ _ _ h => h) (Or.inl ⟨rfl, fun W hW => by go_simp⟩) hH ?_
      simp only [Act.put, List.setIfInBounds_toArray, List.set_cons_zero, List.set_cons_succ]
      refine oneH 3 rfl (by kernel_rfl) (fun K' hK => ?_)
      go_simp
      refine (kU _ sp2).mono ?_
      rintro e w3 ⟨c, rfl, hc, su, bb3⟩
      have ge_su : w.heap.size ≤ c := Nat.le_trans B2.size hc
      have ne_X_su : ¬ (c = w.heap.size) := fun e => by have h1 := X2.hi; omega
      have ne_Y_su : ¬ (c = w.heap.size + 1) := fun e => by have h1 := Y2.hi; omega
      have ne_R_su : ¬ (c = w.heap.size + 1 + 1) := fun e => by have h1 := R2.hi; omega
      clear hc
      have B3 := B2.trans (bb3.mono B2.size)
      have X3 := X2.below bb3 (Nat.le_refl _)
      have Y3 := Y2.below bb3 (Nat.le_refl _)
      have R3 := R2.below bb3 (Nat.le_refl _)
      have sp3 := sp2.below bb3 sp2.lt
      have sq3 := sq2.below bb3 sq2.lt
      have sr3 := sr2.below bb3 sr2.lt
      have ss3 := ss2.below bb3 ss2.lt
      clear B2 X2 Y2 R2 sp2 sq2 sr2 ss2 bb3 hH
      have su3 := su
      clear su
      have hH : (fun W : World => W.cell? ⟨w.heap.size, 0, none⟩ = some (.pointer (some ⟨p, 0, none⟩)) ∧ W.cell? ⟨w.heap.size, 1, none⟩ = some (.pointer (some ⟨q, 0, none⟩))) w3 := ⟨X3.c 0 _ rfl, X3.c 1 _ rfl⟩
      refine hK _ _ hH ?_
      clear hK
      refine oneH 5 rfl (by kernel_rfl) (fun K' hK => ?_)
      go_simp
      refine (kA c _ su3 ss3).mono ?_
      rintro e w4 ⟨c2, rfl, hc, sx, bb4⟩
      have ge_sx : w.heap.size ≤ c2 := Nat.le_trans B3.size hc
      have ne_X_sx : ¬ (c2 = w.heap.size) := fun e => by have h1 := X3.hi; omega
      have ne_Y_sx : ¬ (c2 = w.heap.size + 1) := fun e => by have h1 := Y3.hi; omega
      have ne_R_sx : ¬ (c2 = w.heap.size + 1 + 1) := fun e => by have h1 := R3.hi; omega
      clear hc
      have B4 := B3.trans (bb4.mono B3.size)
      have X4 := X3.below bb4 (Nat.le_refl _)
      have Y4 := Y3.below bb4 (Nat.le_refl _)
      have R4 := R3.below bb4 (Nat.le_refl _)
      have sp4 := sp3.below bb4 sp3.lt
      have sq4 := sq3.below bb4 sq3.lt
      have sr4 := sr3.below bb4 sr3.lt
      have ss4 := ss3.below bb4 ss3.lt
      have su4 := su3.below bb4 su3.lt
      clear B3 X3 Y3 R3 sp3 sq3 sr3 ss3 su3 bb4 hH
      have sx4 := sx
      clear sx
      have hH : (fun W : World => W.cell? ⟨w.heap.size, 0, none⟩ = some (.pointer (some ⟨p, 0, none⟩)) ∧ W.cell? ⟨w.heap.size, 1, none⟩ = some (.pointer (some ⟨q, 0, none⟩))) w4 := ⟨X4.c 0 _ rfl, X4.c 1 _ rfl⟩
      refine hK _ _ hH ?_
      clear hK
      refine oneH 9 rfl (by kernel_rfl) (fun K' hK => ?_)
      go_simp
      refine (kW _ sq4).mono ?_
      rintro e w5 ⟨c3, rfl, hc, sv, bb5⟩
      have ge_sv : w.heap.size ≤ c3 := Nat.le_trans B4.size hc
      have ne_X_sv : ¬ (c3 = w.heap.size) := fun e => by have h1 := X4.hi; omega
      have ne_Y_sv : ¬ (c3 = w.heap.size + 1) := fun e => by have h1 := Y4.hi; omega
      have ne_R_sv : ¬ (c3 = w.heap.size + 1 + 1) := fun e => by have h1 := R4.hi; omega
      clear hc
      have B5 := B4.trans (bb5.mono B4.size)
      have X5 := X4.below bb5 (Nat.le_refl _)
      have Y5 := Y4.below bb5 (Nat.le_refl _)
      have R5 := R4.below bb5 (Nat.le_refl _)
      have sp5 := sp4.below bb5 sp4.lt
      have sq5 := sq4.below bb5 sq4.lt
      have sr5 := sr4.below bb5 sr4.lt
      have ss5 := ss4.below bb5 ss4.lt
      have su5 := su4.below bb5 su4.lt
      have sx5 := sx4.below bb5 sx4.lt
      clear B4 X4 Y4 R4 sp4 sq4 sr4 ss4 su4 sx4 bb5 hH
      have sv5 := sv
      clear sv
      have hH : (fun W : World => W.cell? ⟨w.heap.size, 0, none⟩ = some (.pointer (some ⟨p, 0, none⟩)) ∧ W.cell? ⟨w.heap.size, 1, none⟩ = some (.pointer (some ⟨q, 0, none⟩))) w5 := ⟨X5.c 0 _ rfl, X5.c 1 _ rfl⟩
      refine hK _ _ hH ?_
      clear hK
      refine oneH 11 rfl (by kernel_rfl) (fun K' hK => ?_)
      go_simp
      refine (kB c3 _ sv5 sr5).mono ?_
      rintro e w6 ⟨c4, rfl, hc, sy, bb6⟩
      have ge_sy : w.heap.size ≤ c4 := Nat.le_trans B5.size hc
      have ne_X_sy : ¬ (c4 = w.heap.size) := fun e => by have h1 := X5.hi; omega
      have ne_Y_sy : ¬ (c4 = w.heap.size + 1) := fun e => by have h1 := Y5.hi; omega
      have ne_R_sy : ¬ (c4 = w.heap.size + 1 + 1) := fun e => by have h1 := R5.hi; omega
      clear hc
      have B6 := B5.trans (bb6.mono B5.size)
      have X6 := X5.below bb6 (Nat.le_refl _)
      have Y6 := Y5.below bb6 (Nat.le_refl _)
      have R6 := R5.below bb6 (Nat.le_refl _)
      have sp6 := sp5.below bb6 sp5.lt
      have sq6 := sq5.below bb6 sq5.lt
      have sr6 := sr5.below bb6 sr5.lt
      have ss6 := ss5.below bb6 ss5.lt
      have su6 := su5.below bb6 su5.lt
      have sx6 := sx5.below bb6 sx5.lt
      have sv6 := sv5.below bb6 sv5.lt
      clear B5 X5 Y5 R5 sp5 sq5 sr5 ss5 su5 sx5 sv5 bb6 hH
      have sy6 := sy
      clear sy
      have hH : (fun W : World => W.cell? ⟨w.heap.size, 0, none⟩ = some (.pointer (some ⟨p, 0, none⟩)) ∧ W.cell? ⟨w.heap.size, 1, none⟩ = some (.pointer (some ⟨q, 0, none⟩))) w6 := ⟨X6.c 0 _ rfl, X6.c 1 _ rfl⟩
      refine hK _ _ hH ?_
      clear hK
      refine takeH 12 (some 39) (.agg #[.pointer (some ⟨c2, 0, none⟩), .pointer (some ⟨c4, 0, none⟩)]) rfl rfl (by kernel_rfl) (by kernel_rfl) (by kernel_rfl) (fun _ _ _ h => h) (Or.inl ⟨rfl, fun W hW => by go_simp⟩) hH ?_
      simp only [Act.put, List.setIfInBounds_toArray, List.set_cons_zero, List.set_cons_succ]
      have c_R_0 := R6.c 0 _ rfl
      have f_R_0 := R6.f 0 _ rfl
      have c_R_1 := R6.c 1 _ rfl
      have f_R_1 := R6.f 1 _ rfl
      refine oneH 13 rfl (by kernel_rfl) (fun K' hK => ?_)
      go_simp
      obtain ⟨w7, hw7⟩ : ∃ v, v = (w6.setCell ⟨w.heap.size + 1 + 1, 0, none⟩ (.pointer (some ⟨c2, 0, none⟩))).setCell ⟨w.heap.size + 1 + 1, 1, none⟩ (.pointer (some ⟨c4, 0, none⟩)) := ⟨_, rfl⟩
      have tn7 : Tn [w.heap.size + 1 + 1] w6 w7 := by rw [hw7]; exact ((tnL w6 (w.heap.size + 1 + 1) 0 (.pointer (some ⟨c2, 0, none⟩))).trans (tnL _ (w.heap.size + 1 + 1) 1 (.pointer (some ⟨c4, 0, none⟩))))
      have R7 : BoxL w7 w.heap.size (w.heap.size + 1 + 1) [.pointer (some ⟨c2, 0, none⟩), .pointer (some ⟨c4, 0, none⟩)] := by rw [hw7]; exact ((R6.set 0 (.pointer (some ⟨c2, 0, none⟩)) (by simp)).set 1 (.pointer (some ⟨c4, 0, none⟩)) (by simp))
      have blo7 := R6.lo
      rw [← hw7]
      clear hw7
      have B7 := tn7.below B6 B6.size (fun q hq => by simp at hq; omega)
      have X7 := X6.tn tn7 (not_one (by omega))
      have Y7 := Y6.tn tn7 (not_one (by omega))
      have sp7 := sp6.tnL tn7 (not_one (by omega))
      have sq7 := sq6.tnL tn7 (not_one (by omega))
      have sr7 := sr6.tnL tn7 (not_one (by omega))
      have ss7 := ss6.tnL tn7 (not_one (by omega))
      have su7 := su6.tnL tn7 (not_one (by omega))
      have sx7 := sx6.tnL tn7 (not_one (by omega))
      have sv7 := sv6.tnL tn7 (not_one (by omega))
      have sy7 := sy6.tnL tn7 (not_one (by omega))
      clear B6 X6 Y6 R6 sp6 sq6 sr6 ss6 su6 sx6 sv6 sy6 tn7 blo7
      clear c_R_0 f_R_0 c_R_1 f_R_1
      clear hH
      have hH : (fun W : World => W.cell? ⟨w.heap.size, 0, none⟩ = some (.pointer (some ⟨p, 0, none⟩)) ∧ W.cell? ⟨w.heap.size, 1, none⟩ = some (.pointer (some ⟨q, 0, none⟩))) w7 := ⟨X7.c 0 _ rfl, X7.c 1 _ rfl⟩
      refine hK _ _ hH ?_
      clear hK
      clear hH
      refine wpAnyH_done (by kernel_rfl) ?_ _
      clear kU kW kA kB
      have c_R_0 := R7.c 0 _ rfl
      have c_R_1 := R7.c 1 _ rfl
      go_wp2
      (try simp only [Exit.inBlock, Exit.then])
      refine bodyPost_ret (v := .agg #[.pointer (some ⟨c2, 0, none⟩), .pointer (some ⟨c4, 0, none⟩)]) ?_ rfl ⟨_, _, rfl, sx7, sy7, B7⟩
      rw [results_cell1 rfl]
      go_simp

end Go.Proofs.Ytjelmbkngjlefaa
