/- IvShare of the specification and of the program, each by its contract. -/
import Derived.Test.YtmfoengoahiecaaSVFits
import Derived.Test.YtmfoengoahiecaaSIvOk
import Derived.Test.YtmfoengoahiecaaVTop
import Derived.Test.YtmfoengoahiecaaBRound
import Derived.Test.YtmfoengoahiecaaIRoundF
import Derived.Test.YtmfoengoahiecaaSWDiv
import Derived.Test.YtmfoengoahiecaaWB
import Derived.Test.YtmfoengoahiecaaSWholeOf
import Derived.Test.YtmfoengoahiecaaGB
namespace Go.Proofs.Ytmfoengoahiecaa
open Go.RowKit
set_option linter.unusedSimpArgs false

theorem frac_lo (z D : Int) : fracI z D 0 = z / D := by
  unfold fracI pickI
  split
  · rfl
  · rfl
theorem ediv_is2 {x z P : Int} (hP : 0 < P) (h1 : z * P ≤ x) (h2 : x < z * P + P) : x / P = z := by
  have a : z ≤ x / P := (Int.le_ediv_iff_mul_le hP).2 h1
  have b : x / P < z + 1 := (Int.ediv_lt_iff_lt_mul hP).2 (by rw [Int.add_mul, Int.one_mul]; exact h2)
  omega
theorem frac_hi (z D : Int) (hD : 0 < D) : fracI z D 1 = -(-z / D) := by
  have h1 := Int.emod_nonneg z (Int.ne_of_gt hD)
  have h2 := Int.emod_lt_of_pos z hD
  have h3 := Int.emod_def z D
  have hc : D * (z / D) = z / D * D := Int.mul_comm _ _
  rw [hc] at h3
  unfold fracI pickI
  by_cases h : z - z / D * D = 0
  · rw [decide_eq_true h, if_pos rfl]
    rw [ediv_is2 (x := -z) (z := -(z / D)) hD (by rw [Int.neg_mul]; omega) (by rw [Int.neg_mul]; omega)]
    omega
  · rw [decide_eq_false h, if_neg (by simp), if_pos rfl]
    rw [ediv_is2 (x := -z) (z := -(z / D) - 1) hD (by rw [Int.sub_mul, Int.neg_mul, Int.one_mul]; omega) (by rw [Int.sub_mul, Int.neg_mul, Int.one_mul]; omega)]
    omega
theorem div_abs (z D : Int) (hD : 0 < D) : (z / D).natAbs ≤ z.natAbs := by
  rcases Int.le_total 0 z with h | h
  · have a := Int.ediv_le_self D h
    have b := Int.ediv_nonneg h (Int.le_of_lt hD)
    omega
  · have a : z ≤ z / D := by
      rw [Int.le_ediv_iff_mul_le hD]
      have : z * D ≤ z * 1 := Int.mul_le_mul_of_nonpos_left h (by omega)
      omega
    have b := Int.ediv_nonpos_of_nonpos_of_neg h hD
    omega

set_option maxRecDepth 20000 in
set_option maxHeartbeats 6400000 in
theorem shared_c (p m : Nat) (x n mode : Int) (w : World) (sp : SG w p x) (sm : SG w m n) (hx : (limbs x.natAbs).length ≤ 48) (hn : 0 < n) (hn2 : n ≤ 1000000) (h0 : 0 ≤ mode) (h4 : mode ≤ 4) :
    Calls Try.prog 41 #[.pointer (some ⟨p, 0, none⟩), .pointer (some ⟨m, 0, none⟩), .int .i64 mode] w fun e w' => ∃ c, e = .returned (.pointer (some ⟨c, 0, none⟩)) ∧ w.heap.size ≤ c ∧ SG w' c (fracI x n mode) ∧ Below w.heap.size w w' := by
  obtain ⟨d, rfl⟩ : ∃ d : Nat, n = (d : Int) := ⟨n.toNat, by omega⟩
  have hd : 0 < d := by omega
  have ln : (limbs d).length ≤ 1 := limbs_len_le _ 1 (by omega)
  have kF := fun W (h1 : GA W p 1 x.natAbs) (h2 : GA W m 1 d) => bFrac p 1 m 1 x.natAbs d W hx (by omega) hd h1 h2
  have hfr := frac_round x d hd mode h0 h4
  have hcj := cmpJ_nat (x.natAbs % d * 2) d
  rw [hcj] at hfr
  have hlq : (limbs (x.natAbs / d)).length ≤ 97 := Nat.le_trans (limbs_mono (Nat.div_le_self _ _)) (by omega)
  have kR := fun W => bRounded (x.natAbs / d) (decide (x.natAbs % d = 0)) (cmpI (x.natAbs % d * 2) d) mode (decide (x < 0)) W hlq h0 h4
  rw [← hfr] at kR
  have HP := sp.sgg
  have HM := sm.sgg
  rw [Int.natAbs_natCast] at HM
  clear hfr hcj hlq hx ln h0 h4 hn hn2 sp sm
  generalize fracI x d mode = r at *
  generalize cmpI (x.natAbs % d * 2) d = cm at *
  generalize decide (x.natAbs % d = 0) = wh at *
  generalize x.natAbs / d = qq at *
  generalize decide (x < 0) = g at *
  generalize x.natAbs = mx at *
  generalize decide ((d : Int) < 0) = g2 at *
  go_enter Try.func41, Try.ntmps41
  go_wp2_with fail
  have B1 := (Below.refl w.heap.size w).drew
  refine wp_region_held_drew (S := fun W => SGG W p g mx ∧ SGG W m g2 d) (by kernel_rfl) ⟨HP.drew, HM.drew⟩ ?_
  intro hHeld
  generalize w.drew = w2 at *
  refine takeH 0 (some 7) (.pointer (some ⟨p, 0, none⟩)) rfl rfl (by kernel_rfl) (by kernel_rfl) (by kernel_rfl) (fun _ _ _ h => h) (yg_move rfl (.tmp 0) rfl _ rfl) (by assumption) ?_
  simp only [Act.put, List.setIfInBounds_toArray, List.set_cons_zero, List.set_cons_succ]
  refine takeH 1 (some 8) (.pointer (some ⟨p, 0, none⟩)) rfl rfl (by kernel_rfl) (by kernel_rfl) (by kernel_rfl) (fun _ _ _ h => h) (Or.inl ⟨rfl, fun W hW => by obtain _ := hW; go_simp⟩) (by assumption) ?_
  simp only [Act.put, List.setIfInBounds_toArray, List.set_cons_zero, List.set_cons_succ]
  refine takeH 2 (some 9) (.pointer (some ⟨p, 1, none⟩)) rfl rfl (by kernel_rfl) (by kernel_rfl) (by kernel_rfl) (fun _ _ _ h => h) (Or.inl ⟨rfl, fun W hW => by obtain _ := hW; go_simp⟩) (by assumption) ?_
  simp only [Act.put, List.setIfInBounds_toArray, List.set_cons_zero, List.set_cons_succ]
  refine takeH 3 (some 10) (.pointer (some ⟨m, 0, none⟩)) rfl rfl (by kernel_rfl) (by kernel_rfl) (by kernel_rfl) (fun _ _ _ h => h) (yg_move rfl (.tmp 1) rfl _ rfl) (by assumption) ?_
  simp only [Act.put, List.setIfInBounds_toArray, List.set_cons_zero, List.set_cons_succ]
  refine takeH 4 (some 11) (.pointer (some ⟨m, 0, none⟩)) rfl rfl (by kernel_rfl) (by kernel_rfl) (by kernel_rfl) (fun _ _ _ h => h) (Or.inl ⟨rfl, fun W hW => by obtain _ := hW; go_simp⟩) (by assumption) ?_
  simp only [Act.put, List.setIfInBounds_toArray, List.set_cons_zero, List.set_cons_succ]
  refine takeH 5 (some 12) (.pointer (some ⟨m, 1, none⟩)) rfl rfl (by kernel_rfl) (by kernel_rfl) (by kernel_rfl) (fun _ _ _ h => h) (Or.inl ⟨rfl, fun W hW => by obtain _ := hW; go_simp⟩) (by assumption) ?_
  simp only [Act.put, List.setIfInBounds_toArray, List.set_cons_zero, List.set_cons_succ]
  refine takeH 7 (some 14) (.pointer (some ⟨p, 0, none⟩)) rfl rfl (by kernel_rfl) (by kernel_rfl) (by kernel_rfl) (fun _ _ _ h => h) (yg_move rfl (.tmp 0) rfl _ rfl) (by assumption) ?_
  simp only [Act.put, List.setIfInBounds_toArray, List.set_cons_zero, List.set_cons_succ]
  refine takeH 8 (some 15) (.pointer (some ⟨p, 0, none⟩)) rfl rfl (by kernel_rfl) (by kernel_rfl) (by kernel_rfl) (fun _ _ _ h => h) (Or.inl ⟨rfl, fun W hW => by obtain _ := hW; go_simp⟩) (by assumption) ?_
  simp only [Act.put, List.setIfInBounds_toArray, List.set_cons_zero, List.set_cons_succ]
  refine takeH 9 (some 16) (.pointer (some ⟨p, 0, none⟩)) rfl rfl (by kernel_rfl) (by kernel_rfl) (by kernel_rfl) (fun _ _ _ h => h) (Or.inl ⟨rfl, fun W hW => by obtain _ := hW; go_simp⟩) (by assumption) ?_
  simp only [Act.put, List.setIfInBounds_toArray, List.set_cons_zero, List.set_cons_succ]
  refine takeH 10 (some 17) (.bool g) rfl rfl (by kernel_rfl) (by kernel_rfl) (by kernel_rfl) (fun _ _ _ h => h) (Or.inl ⟨rfl, fun W hW => by obtain ⟨⟨_c, _⟩, _⟩ := hW; go_simp⟩) (by assumption) ?_
  simp only [Act.put, List.setIfInBounds_toArray, List.set_cons_zero, List.set_cons_succ]
  refine takeH 11 (some 18) (.int .i64 mode) rfl rfl (by kernel_rfl) (by kernel_rfl) (by kernel_rfl) (fun _ _ _ h => h) (yg_move rfl (.tmp 2) rfl _ rfl) (by assumption) ?_
  simp only [Act.put, List.setIfInBounds_toArray, List.set_cons_zero, List.set_cons_succ]
  refine oneH 6 rfl (by kernel_rfl) (fun K' hK => ?_)
  go_simp
  refine (kF _ hHeld.1.2 hHeld.2.2).mono ?_
  rintro e w4 ⟨rfl, b4⟩
  have H4 := hHeld.1.below b4 hHeld.1.lt
  have I4 := hHeld.2.below b4 hHeld.2.lt
  refine hK _ _ ⟨H4, I4⟩ ?_
  clear hK
  refine oneH 12 rfl (by kernel_rfl) (fun K' hK => ?_)
  go_simp
  refine (kR _).mono ?_
  rintro e w5 ⟨c, rfl, hc, sc, b5⟩
  have H5 := H4.below b5 H4.lt
  have I5 := I4.below b5 I4.lt
  refine hK _ _ ⟨H5, I5⟩ ?_
  clear hK
  refine takeH 13 (some 6) (.pointer (some ⟨c, 0, none⟩)) rfl rfl (by kernel_rfl) (by kernel_rfl) (by kernel_rfl) (fun _ _ _ h => h) (yg_assign rfl (.tmp 19) rfl _ rfl) ⟨H5, I5⟩ ?_
  simp only [Act.put, List.setIfInBounds_toArray, List.set_cons_zero, List.set_cons_succ]
  refine wpAnyH_done (by kernel_rfl) ?_ _
  have B4 := B1.trans (b4.mono B1.size)
  have HB : Hid (Below w.heap.size w w5) := B4.trans (b5.mono B4.size)
  have HC : Hid (w.heap.size ≤ c) := Nat.le_trans B4.size hc
  have HS : Hid (SG w5 c r) := sc
  clear hHeld H4 H5 I4 I5 B1 B4 b4 b5 sc hc kF kR HP HM
  go_wp2
  go_ret
  exact ⟨c, rfl, HC.out, HS.out, HB.out⟩


set_option maxRecDepth 20000 in
set_option maxHeartbeats 6400000 in
theorem sharedSpan_c (p q : Nat) (x y k : Int) (w : World) (sp : SG w p x) (sq : SG w q y) (m1 : (limbs x.natAbs).length ≤ 48) (m2 : (limbs y.natAbs).length ≤ 48) (h0 : 0 < k) (h1 : k ≤ 1000000) :
    Calls Try.prog 21 #[.agg #[.pointer (some ⟨p, 0, none⟩), .pointer (some ⟨q, 0, none⟩)], .int .i64 k] w (spanE (x / k) (-(-y / k)) w) := by
  have kO := fun W => sOf k W (by omega) (by omega)
  have kS := fun {m} W h1' h2' => shared_c p m x k 0 W h1' h2' m1 h0 h1 (by omega) (by omega)
  have kP := fun {m} W h1' h2' => shared_c q m y k 1 W h1' h2' m2 h0 h1 (by omega) (by omega)
  rw [frac_lo] at kS
  rw [frac_hi _ _ h0] at kP
  unfold spanE
  clear m1 m2
  generalize x / k = d1 at *
  generalize -(-y / k) = d2 at *
  have s1 : (w.alloc (.cells #[.pointer (some ⟨p, 0, none⟩), .pointer (some ⟨q, 0, none⟩)] 44)).heap.size = w.heap.size + 1 := by simp
  have E0 := ((BoxW.made w (.pointer (some ⟨p, 0, none⟩)) (.pointer (some ⟨q, 0, none⟩)) 44).below (below1 _ (.cells #[.pointer none, .pointer none] 44)) (Nat.le_refl _))
  have R0 := BoxW.made (w.alloc (.cells #[.pointer (some ⟨p, 0, none⟩), .pointer (some ⟨q, 0, none⟩)] 44)) (.pointer none) (.pointer none) 44
  rw [s1] at R0
  have B0 := below2 w (.cells #[.pointer (some ⟨p, 0, none⟩), .pointer (some ⟨q, 0, none⟩)] 44) (.cells #[.pointer none, .pointer none] 44)
  have sp0 := sp.below B0 sp.lt
  have sq0 := sq.below B0 sq.lt
  clear s1 sp sq
  go_enter Try.func21, Try.ntmps21
  go_wp2_with fail
  refine (kO _).mono ?_
  generalize (w.alloc (.cells #[.pointer (some ⟨p, 0, none⟩), .pointer (some ⟨q, 0, none⟩)] 44)).alloc (.cells #[.pointer none, .pointer none] 44) = w0 at *
  rintro e w1 ⟨m, rfl, hm, sm, b1⟩
  have E1 := E0.below b1 (Nat.le_refl _)
  have R1 := R0.below b1 (Nat.le_refl _)
  have B1 := B0.trans (b1.mono B0.size)
  have sp1 := sp0.below b1 sp0.lt
  have sq1 := sq0.below b1 sq0.lt
  have sm1 := sm
  clear E0 R0 B0 b1 sm kO sp0 sq0
  go_wp2_with fail
  have bd' := (Below.refl w1.heap.size w1).drew
  have E3 := E1.below bd' (Nat.le_refl _)
  have R3 := R1.below bd' (Nat.le_refl _)
  have B3 := B1.trans (bd'.mono B1.size)
  have sp3 := sp1.below bd' sp1.lt
  have sq3 := sq1.below bd' sq1.lt
  have sm3 := sm1.below bd' sm1.lt
  refine wp_region_held_drew (S := fun W => W.cell? ⟨w.heap.size, 0, none⟩ = some (.pointer (some ⟨p, 0, none⟩)) ∧ W.cell? ⟨w.heap.size, 1, none⟩ = some (.pointer (some ⟨q, 0, none⟩))) (by kernel_rfl) ⟨E3.c0, E3.c1⟩ ?_
  intro hHeld
  generalize w1.drew = w3 at *
  refine takeH 0 (some 8) (.pointer (some ⟨w.heap.size, 0, none⟩)) rfl rfl (by kernel_rfl) (by kernel_rfl) (by kernel_rfl) (fun _ _ _ h => h) (Or.inl ⟨rfl, fun W hW => by obtain _ := hW; go_simp⟩) (by assumption) ?_
  simp only [Act.put, List.setIfInBounds_toArray, List.set_cons_zero, List.set_cons_succ]
  refine takeH 1 (some 9) (.pointer (some ⟨p, 0, none⟩)) rfl rfl (by kernel_rfl) (by kernel_rfl) (by kernel_rfl) (fun _ _ _ h => h) (Or.inl ⟨rfl, fun W hW => by obtain ⟨_c, _⟩ := hW; go_simp⟩) (by assumption) ?_
  simp only [Act.put, List.setIfInBounds_toArray, List.set_cons_zero, List.set_cons_succ]
  refine takeH 2 (some 10) (.pointer (some ⟨m, 0, none⟩)) rfl rfl (by kernel_rfl) (by kernel_rfl) (by kernel_rfl) (fun _ _ _ h => h) (Or.inl ⟨rfl, fun W hW => by obtain _ := hW; go_simp⟩) (by assumption) ?_
  simp only [Act.put, List.setIfInBounds_toArray, List.set_cons_zero, List.set_cons_succ]
  refine takeH 4 (some 12) (.pointer (some ⟨w.heap.size, 1, none⟩)) rfl rfl (by kernel_rfl) (by kernel_rfl) (by kernel_rfl) (fun _ _ _ h => h) (Or.inl ⟨rfl, fun W hW => by obtain _ := hW; go_simp⟩) (by assumption) ?_
  simp only [Act.put, List.setIfInBounds_toArray, List.set_cons_zero, List.set_cons_succ]
  refine takeH 5 (some 13) (.pointer (some ⟨q, 0, none⟩)) rfl rfl (by kernel_rfl) (by kernel_rfl) (by kernel_rfl) (fun _ _ _ h => h) (Or.inl ⟨rfl, fun W hW => by obtain ⟨_, _c⟩ := hW; go_simp⟩) (by assumption) ?_
  simp only [Act.put, List.setIfInBounds_toArray, List.set_cons_zero, List.set_cons_succ]
  refine takeH 6 (some 14) (.pointer (some ⟨m, 0, none⟩)) rfl rfl (by kernel_rfl) (by kernel_rfl) (by kernel_rfl) (fun _ _ _ h => h) (Or.inl ⟨rfl, fun W hW => by obtain _ := hW; go_simp⟩) (by assumption) ?_
  simp only [Act.put, List.setIfInBounds_toArray, List.set_cons_zero, List.set_cons_succ]
  refine oneH 3 rfl (by kernel_rfl) (fun K' hK => ?_)
  go_simp
  refine (kS _ sp3 sm3).mono ?_
  rintro e w4 ⟨c, rfl, hc, sc, b4⟩
  have E4 := E3.below b4 (Nat.le_refl _)
  have R4 := R3.below b4 (Nat.le_refl _)
  have B4 := B3.trans (b4.mono B3.size)
  have sp4 := sp3.below b4 sp3.lt
  have sq4 := sq3.below b4 sq3.lt
  have sm4 := sm3.below b4 sm3.lt
  refine hK _ _ ⟨E4.c0, E4.c1⟩ ?_
  clear hK
  refine oneH 7 rfl (by kernel_rfl) (fun K' hK => ?_)
  go_simp
  refine (kP _ sq4 sm4).mono ?_
  rintro e w5 ⟨d, rfl, hd, sd, b5⟩
  have E5 := E4.below b5 (Nat.le_refl _)
  have R5 := R4.below b5 (Nat.le_refl _)
  have B5 := B4.trans (b5.mono B4.size)
  have sp5 := sp4.below b5 sp4.lt
  have sq5 := sq4.below b5 sq4.lt
  have sm5 := sm4.below b5 sm4.lt
  have sc5 := sc.below b5 sc.lt
  refine hK _ _ ⟨E5.c0, E5.c1⟩ ?_
  clear hK
  have H5 : (fun W => W.cell? ⟨w.heap.size, 0, none⟩ = some (.pointer (some ⟨p, 0, none⟩)) ∧ W.cell? ⟨w.heap.size, 1, none⟩ = some (.pointer (some ⟨q, 0, none⟩))) w5 := ⟨E5.c0, E5.c1⟩
  refine takeH 8 (some 16) (.agg #[.pointer (some ⟨c, 0, none⟩), .pointer (some ⟨d, 0, none⟩)]) rfl rfl (by kernel_rfl) (by kernel_rfl) (by kernel_rfl) (fun _ _ _ h => h) (Or.inl ⟨rfl, fun W hW => by obtain _ := hW; go_simp⟩) (by assumption) ?_
  simp only [Act.put, List.setIfInBounds_toArray, List.set_cons_zero, List.set_cons_succ]
  have hR5 := R5.hi
  have hR3 := R3.hi
  have hR4 := R4.hi
  have E7 := E5.tn ((tnC w5 (w.heap.size + 1) 0 (.pointer (some ⟨c, 0, none⟩))).trans (tnC _ (w.heap.size + 1) 1 (.pointer (some ⟨d, 0, none⟩)))) (fun k hk hs => by simp at hk hs; omega)
  have r0 := R5.c0
  have f0 := R5.f0
  have r1 := R5.c1
  have f1 := R5.f1
  refine oneH 9 rfl (by kernel_rfl) (fun K' hK => ?_)
  go_simp
  refine hK _ _ ⟨E7.c0, E7.c1⟩ ?_
  clear hK
  refine wpAnyH_done (by kernel_rfl) ?_ _
  have HC : Hid (SG _ c _) := sc5.tn ((tnC w5 (w.heap.size + 1) 0 (.pointer (some ⟨c, 0, none⟩))).trans (tnC _ (w.heap.size + 1) 1 (.pointer (some ⟨d, 0, none⟩)))) (fun h => by simp at h; omega)
  have HD : Hid (SG _ d _) := sd.tn ((tnC w5 (w.heap.size + 1) 0 (.pointer (some ⟨c, 0, none⟩))).trans (tnC _ (w.heap.size + 1) 1 (.pointer (some ⟨d, 0, none⟩)))) (fun h => by simp at h; omega)
  have HB : Hid (Below w.heap.size w _) := ((B5.setCell (p := ⟨w.heap.size + 1, 0, none⟩) (by show w.heap.size ≤ w.heap.size + 1; omega) (.pointer (some ⟨c, 0, none⟩))).setCell (p := ⟨w.heap.size + 1, 1, none⟩) (by show w.heap.size ≤ w.heap.size + 1; omega) (.pointer (some ⟨d, 0, none⟩)))
  clear hHeld H5 E1 E3 E4 E5 R1 R3 R4 R5 E7 B1 B3 B4 B5 b4 b5 bd' sc sc5 sd kS kP sp1 sp3 sp4 sp5 sq1 sq3 sq4 sq5 sm1 sm3 sm4 sm5
  go_wp2
  (try simp only [Exit.inBlock, Exit.then])
  refine bodyPost_ret (v := .agg #[.pointer (some ⟨c, 0, none⟩), .pointer (some ⟨d, 0, none⟩)]) ?_ rfl ⟨_, _, rfl, HC.out, HD.out, HB.out⟩
  rw [results_cell1 rfl]
  go_simp

set_option maxRecDepth 20000 in
set_option maxHeartbeats 3200000 in
theorem sWDivUp (va vb : Value) (x y : Int) (w : World) (ha : rowW w va (mkW x)) (hb : rowW w vb (mkW y)) (hlx : (limbs x.natAbs).length ≤ 10000) (hly : (limbs y.natAbs).length ≤ 10000) (hy : 0 < y) :
    Calls Try.prog 35 #[va, vb] w fun e w' => ∃ v, e = .returned v ∧ ownsW w' w.heap.size v (mkW (-(-x / y))) ∧ Below w.heap.size w w' := by
  have kA := fun W (h : Below w.heap.size w W) => sWNeg va x W (ha.below h (Nat.le_refl _)) (by omega)
  have kB := fun v W (h : Below w.heap.size w W) q => sWDiv v vb (-x) y W q (hb.below h (Nat.le_refl _)) (by rw [Int.natAbs_neg]; exact hlx) hly hy
  have hc : (limbs (-x / y).natAbs).length ≤ 10000 := Nat.le_trans (limbs_len_mono (div_abs (-x) y hy)) (by rw [Int.natAbs_neg]; exact hlx)
  have kC := fun va W h => sWNeg va (-x / y) W h (by omega)
  generalize mkW (-(-x / y)) = m at *
  obtain ⟨n1, l1⟩ := m
  obtain ⟨s, rfl, hs⟩ := ha
  obtain ⟨ad, cap, rfl, -⟩ := id hs
  obtain ⟨t, rfl, ht⟩ := hb
  obtain ⟨bd, cap2, rfl, -⟩ := id ht
  obtain ⟨g, hg⟩ : ∃ g, (mkW x).1 = g := ⟨_, rfl⟩
  obtain ⟨len, hlen⟩ : ∃ l, (mkW x).2.length = l := ⟨_, rfl⟩
  obtain ⟨h, hh⟩ : ∃ g, (mkW y).1 = g := ⟨_, rfl⟩
  obtain ⟨lenb, hlenb⟩ : ∃ l, (mkW y).2.length = l := ⟨_, rfl⟩
  rw [hg, hlen] at kA
  rw [hh, hlenb] at kB
  rw [hg, hlen, hh, hlenb]
  clear hs hg hlen ht hh hlenb hc hlx hly hy
  have s1 : (w.alloc (.cells #[.bool g, .slice ad len cap] 28)).heap.size = w.heap.size + 1 := by simp
  have s2 : ((w.alloc (.cells #[.bool g, .slice ad len cap] 28)).alloc (.cells #[.bool h, .slice bd lenb cap2] 28)).heap.size = w.heap.size + 1 + 1 := by simp
  have X0 := ((BoxW.made w (.bool g) (.slice ad len cap) 28).below (below1 _ (.cells #[.bool h, .slice bd lenb cap2] 28)) (Nat.le_refl _)).below (below1 _ (.cells #[.bool false, .slice none 0 0] 28)) (Nat.le_refl _)
  have Y0 := (BoxW.made (w.alloc (.cells #[.bool g, .slice ad len cap] 28)) (.bool h) (.slice bd lenb cap2) 28).below (below1 _ (.cells #[.bool false, .slice none 0 0] 28)) (Nat.le_refl _)
  rw [s1] at Y0
  have R0 := BoxW.made ((w.alloc (.cells #[.bool g, .slice ad len cap] 28)).alloc (.cells #[.bool h, .slice bd lenb cap2] 28)) (.bool false) (.slice none 0 0) 28
  rw [s2] at R0
  have B0 := below3 w (.cells #[.bool g, .slice ad len cap] 28) (.cells #[.bool h, .slice bd lenb cap2] 28) (.cells #[.bool false, .slice none 0 0] 28)
  clear s1 s2
  go_enter Try.func35, Try.ntmps35
  go_wp2_with fail
  generalize ((w.alloc (.cells #[.bool g, .slice ad len cap] 28)).alloc (.cells #[.bool h, .slice bd lenb cap2] 28)).alloc (.cells #[.bool false, .slice none 0 0] 28) = w0 at *
  have bd2 := (Below.refl w0.heap.size w0).drew
  have X3 := X0.below bd2 (Nat.le_refl _)
  have Y3 := Y0.below bd2 (Nat.le_refl _)
  have R3 := R0.below bd2 (Nat.le_refl _)
  have B3 := B0.trans (bd2.mono B0.size)
  refine wp_region_held_drew (S := fun W => W.cell? ⟨w.heap.size, 0, none⟩ = some (.bool g) ∧ W.cell? ⟨w.heap.size, 1, none⟩ = some (.slice ad len cap) ∧ W.cell? ⟨w.heap.size + 1, 0, none⟩ = some (.bool h) ∧ W.cell? ⟨w.heap.size + 1, 1, none⟩ = some (.slice bd lenb cap2)) (by kernel_rfl) ⟨X3.c0, X3.c1, Y3.c0, Y3.c1⟩ ?_
  intro hHeld
  generalize w0.drew = w3 at *
  refine takeH 0 (some 5) (.agg #[.bool g, .slice ad len cap]) rfl rfl (by kernel_rfl) (by kernel_rfl) (by kernel_rfl) (fun _ _ _ h => h) (Or.inl ⟨rfl, fun W hW => by obtain ⟨_a, _b, _⟩ := hW; go_simp⟩) (by assumption) ?_
  simp only [Act.put, List.setIfInBounds_toArray, List.set_cons_zero, List.set_cons_succ]
  refine takeH 2 (some 7) (.agg #[.bool h, .slice bd lenb cap2]) rfl rfl (by kernel_rfl) (by kernel_rfl) (by kernel_rfl) (fun _ _ _ h => h) (Or.inl ⟨rfl, fun W hW => by obtain ⟨_, _, _a, _b⟩ := hW; go_simp⟩) (by assumption) ?_
  simp only [Act.put, List.setIfInBounds_toArray, List.set_cons_zero, List.set_cons_succ]
  refine oneH 1 rfl (by kernel_rfl) (fun K' hK => ?_)
  go_simp
  refine (kA _ B3).mono ?_
  rintro e w4 ⟨v4, rfl, o4, b4⟩
  have X4 := X3.below b4 (Nat.le_refl _)
  have Y4 := Y3.below b4 (Nat.le_refl _)
  have R4 := R3.below b4 (Nat.le_refl _)
  have B4 := B3.trans (b4.mono B3.size)
  have q4 := o4.row
  refine hK _ _ ⟨X4.c0, X4.c1, Y4.c0, Y4.c1⟩ ?_
  clear hK
  refine oneH 3 rfl (by kernel_rfl) (fun K' hK => ?_)
  go_simp
  refine (kB v4 _ B4 q4).mono ?_
  rintro e w5 ⟨v5, rfl, o5, b5⟩
  have X5 := X4.below b5 (Nat.le_refl _)
  have Y5 := Y4.below b5 (Nat.le_refl _)
  have R5 := R4.below b5 (Nat.le_refl _)
  have B5 := B4.trans (b5.mono B4.size)
  have q5 := o5.row
  refine hK _ _ ⟨X5.c0, X5.c1, Y5.c0, Y5.c1⟩ ?_
  clear hK
  refine oneH 4 rfl (by kernel_rfl) (fun K' hK => ?_)
  go_simp
  refine (kC v5 _ q5).mono ?_
  rintro e w6 ⟨v6, rfl, o6, b6⟩
  have X6 := X5.below b6 (Nat.le_refl _)
  have Y6 := Y5.below b6 (Nat.le_refl _)
  have R6 := R5.below b6 (Nat.le_refl _)
  have B6 := B5.trans (b6.mono B5.size)
  refine hK _ _ ⟨X6.c0, X6.c1, Y6.c0, Y6.c1⟩ ?_
  clear hK
  obtain ⟨s3, rfl, q3⟩ := o6
  obtain ⟨ad3, cp3, rfl, -⟩ := q3.row
  have q3' : ownsI w6 w5.heap.size (.slice ad3 l1.length cp3) l1 := q3
  have hR := R5.hi
  have r0 := R6.c0
  have r1 := R6.c1
  have f0 := R6.f0
  have f1 := R6.f1
  have X7 := X6.tn ((tnC w6 (w.heap.size + 1 + 1) 0 (.bool n1)).trans (tnC _ (w.heap.size + 1 + 1) 1 (.slice ad3 l1.length cp3))) (fun k hk hs => by simp at hk hs; omega)
  have Y7 := Y6.tn ((tnC w6 (w.heap.size + 1 + 1) 0 (.bool n1)).trans (tnC _ (w.heap.size + 1 + 1) 1 (.slice ad3 l1.length cp3))) (fun k hk hs => by simp at hk hs; omega)
  refine oneH 5 rfl (by kernel_rfl) (fun K' hK => ?_)
  go_simp
  refine hK _ _ ⟨X7.c0, X7.c1, Y7.c0, Y7.c1⟩ ?_
  clear hK
  refine wpAnyH_done (by kernel_rfl) ?_ _
  have HO : Hid (ownsI _ w5.heap.size (.slice ad3 l1.length cp3) l1) := ((q3'.other (w.heap.size + 1 + 1) 0 (by omega) (.bool n1)).other (w.heap.size + 1 + 1) 1 (by omega) (.slice ad3 l1.length cp3))
  have HB : Hid (Below w.heap.size w _) := (B6.setCell (p := ⟨w.heap.size + 1 + 1, 0, none⟩) (by show w.heap.size ≤ w.heap.size + 1 + 1; omega) (.bool n1)).setCell (p := ⟨w.heap.size + 1 + 1, 1, none⟩) (by show w.heap.size ≤ w.heap.size + 1 + 1; omega) (.slice ad3 l1.length cp3)
  have hb5 := B5.size
  clear hHeld q4 q5 q3 q3' o4 o5 X0 X3 X4 X5 X6 X7 Y0 Y3 Y4 Y5 Y6 Y7 R0 R3 R4 R5 R6 B0 B3 B4 B5 B6 b4 b5 b6 bd2 kA kB kC
  go_wp2
  (try simp only [Exit.inBlock, Exit.then])
  refine bodyPost_ret (v := .agg #[.bool n1, .slice ad3 l1.length cp3]) ?_ rfl ⟨_, rfl, ⟨_, rfl, ownsI_mono HO.out hb5⟩, HB.out⟩
  rw [results_cell1 rfl]
  go_simp

def shareR (a : Vh) (n : Int) : Vh × Bool := if okV a = true ∧ 1 ≤ n ∧ n ≤ 1000000 then ((mkW (valW a.1 / n), mkW (-(-valW a.2 / n))), true) else (((false, []), (false, [])), false)
theorem share_fit (a : Vh) (n : Int) (h : okV a = true) (hn : 0 < n) : (limbs (valW a.1 / n).natAbs).length ≤ 48 ∧ (limbs (-(-valW a.2 / n)).natAbs).length ≤ 48 := by
  have z := okV_yes h
  refine ⟨Nat.le_trans (limbs_len_mono (div_abs _ _ hn)) (okW_lenV z.1), ?_⟩
  rw [Int.natAbs_neg]
  refine Nat.le_trans (limbs_len_mono (div_abs _ _ hn)) ?_
  rw [Int.natAbs_neg]
  exact okW_lenV z.2.1
theorem fitV_both (x y : Int) (hx : (limbs x.natAbs).length ≤ 48) (hy : (limbs y.natAbs).length ≤ 48) : fitV x y = ((mkW x, mkW y), true) := by
  unfold fitV fitW
  rw [if_pos hx, if_pos hy]
  simp
theorem shareR_len (a : Vh) (n : Int) : (shareR a n).1.1.2.length ≤ 1048576 ∧ (shareR a n).1.2.2.length ≤ 1048576 := by
  unfold shareR
  split
  · rename_i h
    have f := share_fit a n h.1 (by omega)
    exact ⟨Nat.le_trans f.1 (by decide), Nat.le_trans f.2 (by decide)⟩
  · simp

set_option maxRecDepth 20000 in
set_option maxHeartbeats 6400000 in
theorem sVShare (va : Value) (a : Vh) (n : Int) (w : World) (ha : rowV w va a) (hok : okV a = true) (h0 : 0 < n) (h1 : n ≤ 1000000) :
    Calls Try.prog 17 #[va, .int .i64 n] w fun e w' => ∃ v, e = .returned v ∧ ownsV w' w.heap.size v (mkW (valW a.1 / n), mkW (-(-valW a.2 / n))) ∧ Below w.heap.size w w' := by
  have z := okV_yes hok
  have l1' := okW_lenV z.1
  have l2' := okW_lenV z.2.1
  have ln : (limbs n.natAbs).length ≤ 1 := limbs_len_le _ 1 (by omega)
  have kO := fun W => sWholeOf n W (by omega) (by omega)
  have kO : ∀ W, Calls Try.prog 34 #[.int .i64 n] W fun e w' => ∃ v, e = .returned v ∧ ownsW w' W.heap.size v (mkW n) ∧ Below W.heap.size W w' := kO
  have kS : ∀ s, rowI w s a.1.2 → ∀ v W, Below w.heap.size w W → rowW W v (mkW n) → Calls Try.prog 33 #[.agg #[.bool a.1.1, s], v] W fun e w' => ∃ v, e = .returned v ∧ ownsW w' W.heap.size v (mkW (valW a.1 / n)) ∧ Below W.heap.size W w' :=
    fun s hs v W h q => sWDiv _ v (valW a.1) n W (by rw [← mkW_of z.1]; exact ⟨_, rfl, hs.below h (Nat.le_refl _)⟩) q (by omega) (by omega) h0
  have kP : ∀ t, rowI w t a.2.2 → ∀ v W, Below w.heap.size w W → rowW W v (mkW n) → Calls Try.prog 35 #[.agg #[.bool a.2.1, t], v] W fun e w' => ∃ v, e = .returned v ∧ ownsW w' W.heap.size v (mkW (-(-valW a.2 / n))) ∧ Below W.heap.size W w' :=
    fun t ht v W h q => sWDivUp _ v (valW a.2) n W (by rw [← mkW_of z.2.1]; exact ⟨_, rfl, ht.below h (Nat.le_refl _)⟩) q (by omega) (by omega) h0
  clear z l1' l2' ln hok
  generalize mkW (valW a.1 / n) = m1 at *
  generalize mkW (-(-valW a.2 / n)) = m2 at *
  generalize mkW n = mn at *
  obtain ⟨n1, l1⟩ := m1
  obtain ⟨n2, l2⟩ := m2
  obtain ⟨s, t, rfl, hs, ht⟩ := ha
  have kS := kS s hs
  have kP := kP t ht
  obtain ⟨ad, cap, rfl, -⟩ := id hs
  obtain ⟨ae, cbp, rfl, -⟩ := id ht
  obtain ⟨g, hg⟩ : ∃ g, a.1.1 = g := ⟨_, rfl⟩
  obtain ⟨g', hg'⟩ : ∃ g, a.2.1 = g := ⟨_, rfl⟩
  obtain ⟨len, hlen⟩ : ∃ l, a.1.2.length = l := ⟨_, rfl⟩
  obtain ⟨len2, hlen2⟩ : ∃ l, a.2.2.length = l := ⟨_, rfl⟩
  rw [hg, hlen] at kS
  rw [hg', hlen2] at kP
  rw [hg, hg', hlen, hlen2]
  clear hs ht hg hg' hlen hlen2
  have s1 : (w.alloc (.cells #[.bool g, .slice ad len cap, .bool g', .slice ae len2 cbp] 30)).heap.size = w.heap.size + 1 := by simp
  have X0 := (BoxV.made w (.bool g) (.slice ad len cap) (.bool g') (.slice ae len2 cbp) 30).below (below1 _ (.cells #[.bool false, .slice none 0 0, .bool false, .slice none 0 0] 30)) (Nat.le_refl _)
  have R0 := BoxV.made (w.alloc (.cells #[.bool g, .slice ad len cap, .bool g', .slice ae len2 cbp] 30)) (.bool false) (.slice none 0 0) (.bool false) (.slice none 0 0) 30
  rw [s1] at R0
  have B0 := below2 w (.cells #[.bool g, .slice ad len cap, .bool g', .slice ae len2 cbp] 30) (.cells #[.bool false, .slice none 0 0, .bool false, .slice none 0 0] 30)
  clear s1
  go_enter Try.func17, Try.ntmps17
  go_wp2_with fail
  generalize (w.alloc (.cells #[.bool g, .slice ad len cap, .bool g', .slice ae len2 cbp] 30)).alloc (.cells #[.bool false, .slice none 0 0, .bool false, .slice none 0 0] 30) = w1 at *
  have bd := (Below.refl w1.heap.size w1).drew
  have X2 := X0.below bd (Nat.le_refl _)
  have R2 := R0.below bd (Nat.le_refl _)
  have B2 := B0.trans (bd.mono B0.size)
  refine wp_region_held_drew (S := fun W => W.cell? ⟨w.heap.size, 0, none⟩ = some (.bool g) ∧ W.cell? ⟨w.heap.size, 1, none⟩ = some (.slice ad len cap) ∧ W.cell? ⟨w.heap.size, 2, none⟩ = some (.bool g') ∧ W.cell? ⟨w.heap.size, 3, none⟩ = some (.slice ae len2 cbp)) (by kernel_rfl) ⟨X2.c0, X2.c1, X2.c2, X2.c3⟩ ?_
  intro hHeld
  generalize w1.drew = w2 at *
  refine takeH 0 (some 5) (.pointer (some ⟨w.heap.size, 0, none⟩)) rfl rfl (by kernel_rfl) (by kernel_rfl) (by kernel_rfl) (fun _ _ _ h => h) (Or.inl ⟨rfl, fun W hW => by obtain _ := hW; go_simp⟩) (by assumption) ?_
  simp only [Act.put, List.setIfInBounds_toArray, List.set_cons_zero, List.set_cons_succ]
  refine takeH 1 (some 6) (.agg #[.bool g, .slice ad len cap]) rfl rfl (by kernel_rfl) (by kernel_rfl) (by kernel_rfl) (fun _ _ _ h => h) (Or.inl ⟨rfl, fun W hW => by obtain ⟨_a, _b, _, _⟩ := hW; go_simp⟩) (by assumption) ?_
  simp only [Act.put, List.setIfInBounds_toArray, List.set_cons_zero, List.set_cons_succ]
  refine takeH 2 (some 7) (.int .i64 n) rfl rfl (by kernel_rfl) (by kernel_rfl) (by kernel_rfl) (fun _ _ _ h => h) (yg_move rfl (.tmp 1) rfl _ rfl) (by assumption) ?_
  simp only [Act.put, List.setIfInBounds_toArray, List.set_cons_zero, List.set_cons_succ]
  refine takeH 5 (some 10) (.pointer (some ⟨w.heap.size, 2, none⟩)) rfl rfl (by kernel_rfl) (by kernel_rfl) (by kernel_rfl) (fun _ _ _ h => h) (Or.inl ⟨rfl, fun W hW => by obtain _ := hW; go_simp⟩) (by assumption) ?_
  simp only [Act.put, List.setIfInBounds_toArray, List.set_cons_zero, List.set_cons_succ]
  refine takeH 6 (some 11) (.agg #[.bool g', .slice ae len2 cbp]) rfl rfl (by kernel_rfl) (by kernel_rfl) (by kernel_rfl) (fun _ _ _ h => h) (Or.inl ⟨rfl, fun W hW => by obtain ⟨_, _, _a, _b⟩ := hW; go_simp⟩) (by assumption) ?_
  simp only [Act.put, List.setIfInBounds_toArray, List.set_cons_zero, List.set_cons_succ]
  refine takeH 7 (some 12) (.int .i64 n) rfl rfl (by kernel_rfl) (by kernel_rfl) (by kernel_rfl) (fun _ _ _ h => h) (yg_move rfl (.tmp 1) rfl _ rfl) (by assumption) ?_
  simp only [Act.put, List.setIfInBounds_toArray, List.set_cons_zero, List.set_cons_succ]
  refine oneH 3 rfl (by kernel_rfl) (fun K' hK => ?_)
  go_simp
  refine (kO _).mono ?_
  rintro e w3 ⟨v3, rfl, o3, b3⟩
  have X3 := X2.below b3 (Nat.le_refl _)
  have R3 := R2.below b3 (Nat.le_refl _)
  have B3 := B2.trans (b3.mono B2.size)
  refine hK _ _ ⟨X3.c0, X3.c1, X3.c2, X3.c3⟩ ?_
  clear hK
  refine oneH 4 rfl (by kernel_rfl) (fun K' hK => ?_)
  go_simp
  refine (kS _ _ B3 o3.row).mono ?_
  rintro e w4 ⟨v4, rfl, o4, b4⟩
  obtain ⟨s3, rfl, q3⟩ := o4
  obtain ⟨ad3, cp3, rfl, -⟩ := q3.row
  have qq4 : ownsI w4 w3.heap.size (.slice ad3 l1.length cp3) l1 := q3
  have X4 := X3.below b4 (Nat.le_refl _)
  have R4 := R3.below b4 (Nat.le_refl _)
  have B4 := B3.trans (b4.mono B3.size)
  refine hK _ _ ⟨X4.c0, X4.c1, X4.c2, X4.c3⟩ ?_
  clear hK
  refine oneH 8 rfl (by kernel_rfl) (fun K' hK => ?_)
  go_simp
  refine (kO _).mono ?_
  rintro e w5 ⟨v5, rfl, o5, b5⟩
  have X5 := X4.below b5 (Nat.le_refl _)
  have R5 := R4.below b5 (Nat.le_refl _)
  have B5 := B4.trans (b5.mono B4.size)
  have qq5 := ownsI.below qq4 b5 (Nat.le_refl _)
  refine hK _ _ ⟨X5.c0, X5.c1, X5.c2, X5.c3⟩ ?_
  clear hK
  refine oneH 9 rfl (by kernel_rfl) (fun K' hK => ?_)
  go_simp
  refine (kP _ _ B5 o5.row).mono ?_
  rintro e w6 ⟨v6, rfl, o6, b6⟩
  have X6 := X5.below b6 (Nat.le_refl _)
  have R6 := R5.below b6 (Nat.le_refl _)
  have B6 := B5.trans (b6.mono B5.size)
  refine hK _ _ ⟨X6.c0, X6.c1, X6.c2, X6.c3⟩ ?_
  clear hK
  obtain ⟨s4, rfl, q4⟩ := o6
  obtain ⟨ad4, cp4, rfl, -⟩ := q4.row
  have q3' := ownsI.below qq5 b6 (Nat.le_refl _)
  have q4' : ownsI w6 w5.heap.size (.slice ad4 l2.length cp4) l2 := q4
  have hap : Apart (blkI (.slice ad3 l1.length cp3)) (blkI (.slice ad4 l2.length cp4)) := apart_of (fun k hk => (qq5.ltb k hk).2) (fun k hk => (q4'.ltb k hk).1)
  have hh3 := R3.hi
  have hh5 := R5.hi
  have r0 := R6.c0
  have f0 := R6.f0
  have r1 := R6.c1
  have f1 := R6.f1
  have r2 := R6.c2
  have f2 := R6.f2
  have r3 := R6.c3
  have f3 := R6.f3
  have H6 : w6.cell? ⟨w.heap.size, 0, none⟩ = some (.bool g) ∧ w6.cell? ⟨w.heap.size, 1, none⟩ = some (.slice ad len cap) ∧ w6.cell? ⟨w.heap.size, 2, none⟩ = some (.bool g') ∧ w6.cell? ⟨w.heap.size, 3, none⟩ = some (.slice ae len2 cbp) := ⟨X6.c0, X6.c1, X6.c2, X6.c3⟩
  refine takeH 10 (some 15) (.agg #[.bool n1, .slice ad3 l1.length cp3, .bool n2, .slice ad4 l2.length cp4]) rfl rfl (by kernel_rfl) (by kernel_rfl) (by kernel_rfl) (fun _ _ _ h => h) (Or.inl ⟨rfl, fun W hW => by obtain _ := hW; go_simp⟩) (by assumption) ?_
  simp only [Act.put, List.setIfInBounds_toArray, List.set_cons_zero, List.set_cons_succ]
  have X7 := X6.tn ((((tnC w6 (w.heap.size + 1) 0 (.bool n1)).trans (tnC _ (w.heap.size + 1) 1 (.slice ad3 l1.length cp3))).trans (tnC _ (w.heap.size + 1) 2 (.bool n2))).trans (tnC _ (w.heap.size + 1) 3 (.slice ad4 l2.length cp4))) (fun k hk hs => by simp at hk hs; omega)
  refine oneH 11 rfl (by kernel_rfl) (fun K' hK => ?_)
  go_simp
  refine hK _ _ ⟨X7.c0, X7.c1, X7.c2, X7.c3⟩ ?_
  refine wpAnyH_done (by kernel_rfl) ?_ _
  have HA : Hid (ownsI _ w3.heap.size (.slice ad3 l1.length cp3) l1) := ((((q3'.other (w.heap.size + 1) 0 (by omega) (.bool n1)).other (w.heap.size + 1) 1 (by omega) (.slice ad3 l1.length cp3)).other (w.heap.size + 1) 2 (by omega) (.bool n2)).other (w.heap.size + 1) 3 (by omega) (.slice ad4 l2.length cp4))
  have HZ : Hid (ownsI _ w5.heap.size (.slice ad4 l2.length cp4) l2) := ((((q4'.other (w.heap.size + 1) 0 (by omega) (.bool n1)).other (w.heap.size + 1) 1 (by omega) (.slice ad3 l1.length cp3)).other (w.heap.size + 1) 2 (by omega) (.bool n2)).other (w.heap.size + 1) 3 (by omega) (.slice ad4 l2.length cp4))
  have HB : Hid (Below w.heap.size w _) := ((((B6.setCell (p := ⟨w.heap.size + 1, 0, none⟩) (by show w.heap.size ≤ w.heap.size + 1; omega) (.bool n1)).setCell (p := ⟨w.heap.size + 1, 1, none⟩) (by show w.heap.size ≤ w.heap.size + 1; omega) (.slice ad3 l1.length cp3)).setCell (p := ⟨w.heap.size + 1, 2, none⟩) (by show w.heap.size ≤ w.heap.size + 1; omega) (.bool n2)).setCell (p := ⟨w.heap.size + 1, 3, none⟩) (by show w.heap.size ≤ w.heap.size + 1; omega) (.slice ad4 l2.length cp4))
  have HP : Hid (Apart (blkI (.slice ad3 l1.length cp3)) (blkI (.slice ad4 l2.length cp4))) := hap
  have hb3 := B3.size
  have hb5 := B5.size
  clear hK hHeld q3 q4 q3' q4' qq4 qq5 X0 X2 X3 X4 X5 X6 X7 R0 R2 R3 R4 R5 R6 B0 B2 B3 B4 B5 B6 b3 b4 b5 b6 kO kS kP hap bd o3 o5
  go_wp2
  (try simp only [Exit.inBlock, Exit.then])
  refine bodyPost_ret (v := .agg #[.bool n1, .slice ad3 l1.length cp3, .bool n2, .slice ad4 l2.length cp4]) ?_ rfl ⟨_, rfl, ⟨_, _, rfl, ownsI_mono HA.out hb3, ownsI_mono HZ.out hb5, HP.out⟩, HB.out⟩
  rw [results_cell1 rfl]
  go_simp


set_option maxRecDepth 20000 in
set_option maxHeartbeats 6400000 in
theorem sIvShare (va : Value) (a : Vh) (n : Int) (w : World) (ha : rowV w va a) (hl0 : a.1.2.length ≤ 1048576) (hl1 : a.2.2.length ≤ 1048576) :
    Calls Try.prog 6 #[va, .int .i64 n] w fun e w' => ∃ v, e = .returned (.tuple #[v, .bool (shareR a n).2]) ∧ ownsV w' w.heap.size v (shareR a n).1 ∧ Below w.heap.size w w' := by
  have kA := fun W (h : Below w.heap.size w W) => sIvOk va a W (ha.below h (Nat.le_refl _)) hl0 hl1
  obtain ⟨ov, hov⟩ : ∃ o, okV a = o := ⟨_, rfl⟩
  rw [hov] at kA
  cases ov
  · have HR : Hid (shareR a n = (((false, []), (false, [])), false)) := by show _ = _; unfold shareR; rw [if_neg (fun h => by rw [hov] at h; cases h.1)]
    obtain ⟨rr, hr⟩ : ∃ r, shareR a n = r := ⟨_, rfl⟩
    rw [hr] at HR
    rw [hr]
    clear hr
    clear hov hl0 hl1
    obtain ⟨s, t, rfl, hs, ht⟩ := ha
    obtain ⟨ad, cap, rfl, -⟩ := id hs
    obtain ⟨ae, cbp, rfl, -⟩ := id ht
    obtain ⟨g, hg⟩ : ∃ g, a.1.1 = g := ⟨_, rfl⟩
    obtain ⟨g', hg'⟩ : ∃ g, a.2.1 = g := ⟨_, rfl⟩
    obtain ⟨len, hlen⟩ : ∃ l, a.1.2.length = l := ⟨_, rfl⟩
    obtain ⟨len2, hlen2⟩ : ∃ l, a.2.2.length = l := ⟨_, rfl⟩
    rw [hg, hg', hlen, hlen2] at kA
    rw [hg, hg', hlen, hlen2]
    clear hs ht hg hg' hlen hlen2
    have s1 : (w.alloc (.cells #[.bool g, .slice ad len cap, .bool g', .slice ae len2 cbp] 30)).heap.size = w.heap.size + 1 := by simp
    have X0 := (BoxV.made w (.bool g) (.slice ad len cap) (.bool g') (.slice ae len2 cbp) 30).below (below1 _ (.cells #[.bool false, .slice none 0 0, .bool false, .slice none 0 0] 30)) (Nat.le_refl _)
    have R0 := BoxV.made (w.alloc (.cells #[.bool g, .slice ad len cap, .bool g', .slice ae len2 cbp] 30)) (.bool false) (.slice none 0 0) (.bool false) (.slice none 0 0) 30
    rw [s1] at R0
    have B0 := below2 w (.cells #[.bool g, .slice ad len cap, .bool g', .slice ae len2 cbp] 30) (.cells #[.bool false, .slice none 0 0, .bool false, .slice none 0 0] 30)
    clear s1
    go_enter Try.func6, Try.ntmps6
    go_wp2_with fail
    refine (kA _ B0).mono ?_
    generalize (w.alloc (.cells #[.bool g, .slice ad len cap, .bool g', .slice ae len2 cbp] 30)).alloc (.cells #[.bool false, .slice none 0 0, .bool false, .slice none 0 0] 30) = w0 at *
    rintro e w1 ⟨rfl, b1⟩
    have X1 := X0.below b1 (Nat.le_refl _)
    have R1 := R0.below b1 (Nat.le_refl _)
    have B1 := B0.trans (b1.mono B0.size)
    clear kA
    have r0 := R1.c0
    have f0 := R1.f0
    have r1 := R1.c1
    have f1 := R1.f1
    have r2 := R1.c2
    have f2 := R1.f2
    have r3 := R1.c3
    have f3 := R1.f3
    have HB : Hid (Below w.heap.size w _) := ((((B1.setCell (p := ⟨w.heap.size + 1, 0, none⟩) (by show w.heap.size ≤ w.heap.size + 1; omega) (.bool false)).setCell (p := ⟨w.heap.size + 1, 1, none⟩) (by show w.heap.size ≤ w.heap.size + 1; omega) (.slice none 0 0)).setCell (p := ⟨w.heap.size + 1, 2, none⟩) (by show w.heap.size ≤ w.heap.size + 1; omega) (.bool false)).setCell (p := ⟨w.heap.size + 1, 3, none⟩) (by show w.heap.size ≤ w.heap.size + 1; omega) (.slice none 0 0))
    clear R0 R1 B0 B1 b1 X0
    go_wp2
    (try simp only [Exit.inBlock, Exit.then])
    refine bodyPost_ret (v := .tuple #[.agg #[.bool false, .slice none 0 0, .bool false, .slice none 0 0], .bool false]) ?_ rfl ⟨_, by rw [HR.out], by rw [HR.out]; exact nilV _ _, HB.out⟩
    rw [results_cell_tmp rfl]
    go_simp
  · by_cases hn : 1 ≤ n ∧ n ≤ 1000000
    · have kI := fun W => in_yes n 1 1000000 W hn.1 hn.2
      have kG := fun W (h : Below w.heap.size w W) => sVShare va a n W (ha.below h (Nat.le_refl _)) hov (by omega) hn.2
      have HR : Hid (shareR a n = ((mkW (valW a.1 / n), mkW (-(-valW a.2 / n))), true)) := by show _ = _; unfold shareR; rw [if_pos ⟨hov, hn.1, hn.2⟩]
      obtain ⟨rr, hr⟩ : ∃ r, shareR a n = r := ⟨_, rfl⟩
      rw [hr] at HR
      rw [hr]
      clear hr
      clear hov hl0 hl1 hn
      generalize mkW (valW a.1 / n) = m1 at *
      generalize mkW (-(-valW a.2 / n)) = m2 at *
      obtain ⟨n1, l1⟩ := m1
      obtain ⟨n2, l2⟩ := m2
      obtain ⟨s, t, rfl, hs, ht⟩ := ha
      obtain ⟨ad, cap, rfl, -⟩ := id hs
      obtain ⟨ae, cbp, rfl, -⟩ := id ht
      obtain ⟨g, hg⟩ : ∃ g, a.1.1 = g := ⟨_, rfl⟩
      obtain ⟨g', hg'⟩ : ∃ g, a.2.1 = g := ⟨_, rfl⟩
      obtain ⟨len, hlen⟩ : ∃ l, a.1.2.length = l := ⟨_, rfl⟩
      obtain ⟨len2, hlen2⟩ : ∃ l, a.2.2.length = l := ⟨_, rfl⟩
      rw [hg, hg', hlen, hlen2] at kA kG
      rw [hg, hg', hlen, hlen2]
      clear hs ht hg hg' hlen hlen2
      have s1 : (w.alloc (.cells #[.bool g, .slice ad len cap, .bool g', .slice ae len2 cbp] 30)).heap.size = w.heap.size + 1 := by simp
      have X0 := (BoxV.made w (.bool g) (.slice ad len cap) (.bool g') (.slice ae len2 cbp) 30).below (below1 _ (.cells #[.bool false, .slice none 0 0, .bool false, .slice none 0 0] 30)) (Nat.le_refl _)
      have R0 := BoxV.made (w.alloc (.cells #[.bool g, .slice ad len cap, .bool g', .slice ae len2 cbp] 30)) (.bool false) (.slice none 0 0) (.bool false) (.slice none 0 0) 30
      rw [s1] at R0
      have B0 := below2 w (.cells #[.bool g, .slice ad len cap, .bool g', .slice ae len2 cbp] 30) (.cells #[.bool false, .slice none 0 0, .bool false, .slice none 0 0] 30)
      clear s1
      go_enter Try.func6, Try.ntmps6
      go_wp2_with fail
      refine (kA _ B0).mono ?_
      generalize (w.alloc (.cells #[.bool g, .slice ad len cap, .bool g', .slice ae len2 cbp] 30)).alloc (.cells #[.bool false, .slice none 0 0, .bool false, .slice none 0 0] 30) = w0 at *
      rintro e w1 ⟨rfl, b1⟩
      have X1 := X0.below b1 (Nat.le_refl _)
      have R1 := R0.below b1 (Nat.le_refl _)
      have B1 := B0.trans (b1.mono B0.size)
      have x0 := X1.c0
      have x1 := X1.c1
      have x2 := X1.c2
      have x3 := X1.c3
      clear kA X0 R0 B0 b1
      go_wp2_with (first | (go_at_call 16; refine (kI _).mono ?_; rintro e w1 ⟨rfl, rfl⟩))
      refine (kG _ B1).mono ?_
      rintro e w6 ⟨v6, rfl, o6, b6⟩
      have B6 := B1.trans (b6.mono B1.size)
      have R6 := R1.below b6 (Nat.le_refl _)
      have hR1 := R1.hi
      clear x0 x1 x2 x3 X1
      obtain ⟨s3, s4, rfl, q3, q4, hap⟩ := o6
      obtain ⟨ad3, cp3, rfl, -⟩ := q3.row
      obtain ⟨ad4, cp4, rfl, -⟩ := q4.row
      have q3' : ownsI w6 w1.heap.size (.slice ad3 l1.length cp3) l1 := q3
      have q4' : ownsI w6 w1.heap.size (.slice ad4 l2.length cp4) l2 := q4
      have r0 := R6.c0
      have f0 := R6.f0
      have r1 := R6.c1
      have f1 := R6.f1
      have r2 := R6.c2
      have f2 := R6.f2
      have r3 := R6.c3
      have f3 := R6.f3
      have HA : Hid (ownsI _ w1.heap.size (.slice ad3 l1.length cp3) l1) := ((((q3'.other (w.heap.size + 1) 0 (by omega) (.bool n1)).other (w.heap.size + 1) 1 (by omega) (.slice ad3 l1.length cp3)).other (w.heap.size + 1) 2 (by omega) (.bool n2)).other (w.heap.size + 1) 3 (by omega) (.slice ad4 l2.length cp4))
      have HZ : Hid (ownsI _ w1.heap.size (.slice ad4 l2.length cp4) l2) := ((((q4'.other (w.heap.size + 1) 0 (by omega) (.bool n1)).other (w.heap.size + 1) 1 (by omega) (.slice ad3 l1.length cp3)).other (w.heap.size + 1) 2 (by omega) (.bool n2)).other (w.heap.size + 1) 3 (by omega) (.slice ad4 l2.length cp4))
      have HB : Hid (Below w.heap.size w _) := ((((B6.setCell (p := ⟨w.heap.size + 1, 0, none⟩) (by show w.heap.size ≤ w.heap.size + 1; omega) (.bool n1)).setCell (p := ⟨w.heap.size + 1, 1, none⟩) (by show w.heap.size ≤ w.heap.size + 1; omega) (.slice ad3 l1.length cp3)).setCell (p := ⟨w.heap.size + 1, 2, none⟩) (by show w.heap.size ≤ w.heap.size + 1; omega) (.bool n2)).setCell (p := ⟨w.heap.size + 1, 3, none⟩) (by show w.heap.size ≤ w.heap.size + 1; omega) (.slice ad4 l2.length cp4))
      have HP : Hid (Apart (blkI (.slice ad3 l1.length cp3)) (blkI (.slice ad4 l2.length cp4))) := hap
      have hb1 := B1.size
      clear q3 q4 q3' q4' hap R1 R6 B1 B6 b6 kG kI
      go_wp2
      (try simp only [Exit.inBlock, Exit.then])
      refine bodyPost_ret (v := .tuple #[.agg #[.bool n1, .slice ad3 l1.length cp3, .bool n2, .slice ad4 l2.length cp4], .bool true]) ?_ rfl ⟨_, by rw [HR.out], by rw [HR.out]; exact ⟨_, _, rfl, ownsI_mono HA.out hb1, ownsI_mono HZ.out hb1, HP.out⟩, HB.out⟩
      rw [results_cell_tmp rfl]
      go_simp
    · have kI := fun W => in_no n 1 1000000 W hn
      have HR : Hid (shareR a n = (((false, []), (false, [])), false)) := by show _ = _; unfold shareR; rw [if_neg (fun h => hn h.2)]
      obtain ⟨rr, hr⟩ : ∃ r, shareR a n = r := ⟨_, rfl⟩
      rw [hr] at HR
      rw [hr]
      clear hr
      clear hov hl0 hl1 hn
      obtain ⟨s, t, rfl, hs, ht⟩ := ha
      obtain ⟨ad, cap, rfl, -⟩ := id hs
      obtain ⟨ae, cbp, rfl, -⟩ := id ht
      obtain ⟨g, hg⟩ : ∃ g, a.1.1 = g := ⟨_, rfl⟩
      obtain ⟨g', hg'⟩ : ∃ g, a.2.1 = g := ⟨_, rfl⟩
      obtain ⟨len, hlen⟩ : ∃ l, a.1.2.length = l := ⟨_, rfl⟩
      obtain ⟨len2, hlen2⟩ : ∃ l, a.2.2.length = l := ⟨_, rfl⟩
      rw [hg, hg', hlen, hlen2] at kA
      rw [hg, hg', hlen, hlen2]
      clear hs ht hg hg' hlen hlen2
      have s1 : (w.alloc (.cells #[.bool g, .slice ad len cap, .bool g', .slice ae len2 cbp] 30)).heap.size = w.heap.size + 1 := by simp
      have X0 := (BoxV.made w (.bool g) (.slice ad len cap) (.bool g') (.slice ae len2 cbp) 30).below (below1 _ (.cells #[.bool false, .slice none 0 0, .bool false, .slice none 0 0] 30)) (Nat.le_refl _)
      have R0 := BoxV.made (w.alloc (.cells #[.bool g, .slice ad len cap, .bool g', .slice ae len2 cbp] 30)) (.bool false) (.slice none 0 0) (.bool false) (.slice none 0 0) 30
      rw [s1] at R0
      have B0 := below2 w (.cells #[.bool g, .slice ad len cap, .bool g', .slice ae len2 cbp] 30) (.cells #[.bool false, .slice none 0 0, .bool false, .slice none 0 0] 30)
      clear s1
      go_enter Try.func6, Try.ntmps6
      go_wp2_with fail
      refine (kA _ B0).mono ?_
      generalize (w.alloc (.cells #[.bool g, .slice ad len cap, .bool g', .slice ae len2 cbp] 30)).alloc (.cells #[.bool false, .slice none 0 0, .bool false, .slice none 0 0] 30) = w0 at *
      rintro e w1 ⟨rfl, b1⟩
      have X1 := X0.below b1 (Nat.le_refl _)
      have R1 := R0.below b1 (Nat.le_refl _)
      have B1 := B0.trans (b1.mono B0.size)
      clear kA
      have r0 := R1.c0
      have f0 := R1.f0
      have r1 := R1.c1
      have f1 := R1.f1
      have r2 := R1.c2
      have f2 := R1.f2
      have r3 := R1.c3
      have f3 := R1.f3
      have HB : Hid (Below w.heap.size w _) := ((((B1.setCell (p := ⟨w.heap.size + 1, 0, none⟩) (by show w.heap.size ≤ w.heap.size + 1; omega) (.bool false)).setCell (p := ⟨w.heap.size + 1, 1, none⟩) (by show w.heap.size ≤ w.heap.size + 1; omega) (.slice none 0 0)).setCell (p := ⟨w.heap.size + 1, 2, none⟩) (by show w.heap.size ≤ w.heap.size + 1; omega) (.bool false)).setCell (p := ⟨w.heap.size + 1, 3, none⟩) (by show w.heap.size ≤ w.heap.size + 1; omega) (.slice none 0 0))
      clear R0 R1 B0 B1 b1 X0
      go_wp2_with (first | (go_at_call 16; refine (kI _).mono ?_; rintro e w1 ⟨rfl, rfl⟩))
      (try simp only [Exit.inBlock, Exit.then])
      refine bodyPost_ret (v := .tuple #[.agg #[.bool false, .slice none 0 0, .bool false, .slice none 0 0], .bool false]) ?_ rfl ⟨_, by rw [HR.out], by rw [HR.out]; exact nilV _ _, HB.out⟩
      rw [results_cell_tmp rfl]
      go_simp


set_option maxRecDepth 20000 in
set_option maxHeartbeats 6400000 in
theorem iIvShare (va : Value) (a : Vh) (n : Int) (w : World) (ha : rowV w va a) (hl0 : a.1.2.length ≤ 1048576) (hl1 : a.2.2.length ≤ 1048576) :
    Calls Try.prog 8 #[va, .int .i64 n] w fun e w' => ∃ v, e = .returned (.tuple #[v, .bool (shareR a n).2]) ∧ ownsV w' w.heap.size v (shareR a n).1 ∧ Below w.heap.size w w' := by
  have kA := fun W (h : Below w.heap.size w W) => spanFrom_b va a W (ha.below h (Nat.le_refl _)) hl0 hl1
  obtain ⟨ov, hov⟩ : ∃ o, okV a = o := ⟨_, rfl⟩
  rw [hov] at kA
  cases ov
  · have HR : Hid (shareR a n = (((false, []), (false, [])), false)) := by show _ = _; unfold shareR; rw [if_neg (fun h => by rw [hov] at h; cases h.1)]
    obtain ⟨rr, hr⟩ : ∃ r, shareR a n = r := ⟨_, rfl⟩
    rw [hr] at HR
    rw [hr]
    clear hr
    clear hov hl0 hl1
    obtain ⟨s, t, rfl, hs, ht⟩ := ha
    obtain ⟨ad, cap, rfl, -⟩ := id hs
    obtain ⟨ae, cbp, rfl, -⟩ := id ht
    obtain ⟨g, hg⟩ : ∃ g, a.1.1 = g := ⟨_, rfl⟩
    obtain ⟨g', hg'⟩ : ∃ g, a.2.1 = g := ⟨_, rfl⟩
    obtain ⟨len, hlen⟩ : ∃ l, a.1.2.length = l := ⟨_, rfl⟩
    obtain ⟨len2, hlen2⟩ : ∃ l, a.2.2.length = l := ⟨_, rfl⟩
    rw [hg, hg', hlen, hlen2] at kA
    rw [hg, hg', hlen, hlen2]
    clear hs ht hg hg' hlen hlen2
    have s1 : (w.alloc (.cells #[.bool g, .slice ad len cap, .bool g', .slice ae len2 cbp] 30)).heap.size = w.heap.size + 1 := by simp
    have X0 := (BoxV.made w (.bool g) (.slice ad len cap) (.bool g') (.slice ae len2 cbp) 30).below (below1 _ (.cells #[.bool false, .slice none 0 0, .bool false, .slice none 0 0] 30)) (Nat.le_refl _)
    have R0 := BoxV.made (w.alloc (.cells #[.bool g, .slice ad len cap, .bool g', .slice ae len2 cbp] 30)) (.bool false) (.slice none 0 0) (.bool false) (.slice none 0 0) 30
    rw [s1] at R0
    have B0 := below2 w (.cells #[.bool g, .slice ad len cap, .bool g', .slice ae len2 cbp] 30) (.cells #[.bool false, .slice none 0 0, .bool false, .slice none 0 0] 30)
    clear s1
    go_enter Try.func8, Try.ntmps8
    go_wp2_with fail
    refine (kA _ B0).mono ?_
    generalize (w.alloc (.cells #[.bool g, .slice ad len cap, .bool g', .slice ae len2 cbp] 30)).alloc (.cells #[.bool false, .slice none 0 0, .bool false, .slice none 0 0] 30) = w0 at *
    rintro e w1' ⟨X, Y, rfl, b1', hXY⟩
    have bF := below1 w1' (.cells #[.pointer X, .pointer Y] 44)
    have E1 := BoxW.made w1' (.pointer X) (.pointer Y) 44
    have b1 := b1'.trans (bF.mono b1'.size)
    have R1 := R0.below b1 (Nat.le_refl _)
    have B1 := B0.trans (b1.mono B0.size)
    have r0 := R1.c0
    have f0 := R1.f0
    have r1 := R1.c1
    have f1 := R1.f1
    have r2 := R1.c2
    have f2 := R1.f2
    have r3 := R1.c3
    have f3 := R1.f3
    have HB : Hid (Below w.heap.size w _) := ((((B1.setCell (p := ⟨w.heap.size + 1, 0, none⟩) (by show w.heap.size ≤ w.heap.size + 1; omega) (.bool false)).setCell (p := ⟨w.heap.size + 1, 1, none⟩) (by show w.heap.size ≤ w.heap.size + 1; omega) (.slice none 0 0)).setCell (p := ⟨w.heap.size + 1, 2, none⟩) (by show w.heap.size ≤ w.heap.size + 1; omega) (.bool false)).setCell (p := ⟨w.heap.size + 1, 3, none⟩) (by show w.heap.size ≤ w.heap.size + 1; omega) (.slice none 0 0))
    clear R0 R1 B0 B1 b1 X0 E1 hXY kA bF
    go_wp2
    (try simp only [Exit.inBlock, Exit.then])
    refine bodyPost_ret (v := .tuple #[.agg #[.bool false, .slice none 0 0, .bool false, .slice none 0 0], .bool false]) ?_ rfl ⟨_, by rw [HR.out], by rw [HR.out]; exact nilV _ _, HB.out⟩
    rw [results_cell_tmp rfl]
    go_simp
  · by_cases hn1 : n < 1
    · have q1 : decide (n < 1) = true := decide_eq_true hn1
      have HR : Hid (shareR a n = (((false, []), (false, [])), false)) := by show _ = _; unfold shareR; rw [if_neg (by omega)]
      obtain ⟨rr, hr⟩ : ∃ r, shareR a n = r := ⟨_, rfl⟩
      rw [hr] at HR
      rw [hr]
      clear hr
      clear hov hl0 hl1
      obtain ⟨s, t, rfl, hs, ht⟩ := ha
      obtain ⟨ad, cap, rfl, -⟩ := id hs
      obtain ⟨ae, cbp, rfl, -⟩ := id ht
      obtain ⟨g, hg⟩ : ∃ g, a.1.1 = g := ⟨_, rfl⟩
      obtain ⟨g', hg'⟩ : ∃ g, a.2.1 = g := ⟨_, rfl⟩
      obtain ⟨len, hlen⟩ : ∃ l, a.1.2.length = l := ⟨_, rfl⟩
      obtain ⟨len2, hlen2⟩ : ∃ l, a.2.2.length = l := ⟨_, rfl⟩
      rw [hg, hg', hlen, hlen2] at kA
      rw [hg, hg', hlen, hlen2]
      clear hs ht hg hg' hlen hlen2
      have s1 : (w.alloc (.cells #[.bool g, .slice ad len cap, .bool g', .slice ae len2 cbp] 30)).heap.size = w.heap.size + 1 := by simp
      have X0 := (BoxV.made w (.bool g) (.slice ad len cap) (.bool g') (.slice ae len2 cbp) 30).below (below1 _ (.cells #[.bool false, .slice none 0 0, .bool false, .slice none 0 0] 30)) (Nat.le_refl _)
      have R0 := BoxV.made (w.alloc (.cells #[.bool g, .slice ad len cap, .bool g', .slice ae len2 cbp] 30)) (.bool false) (.slice none 0 0) (.bool false) (.slice none 0 0) 30
      rw [s1] at R0
      have B0 := below2 w (.cells #[.bool g, .slice ad len cap, .bool g', .slice ae len2 cbp] 30) (.cells #[.bool false, .slice none 0 0, .bool false, .slice none 0 0] 30)
      clear s1
      go_enter Try.func8, Try.ntmps8
      go_wp2_with fail
      refine (kA _ B0).mono ?_
      generalize (w.alloc (.cells #[.bool g, .slice ad len cap, .bool g', .slice ae len2 cbp] 30)).alloc (.cells #[.bool false, .slice none 0 0, .bool false, .slice none 0 0] 30) = w0 at *
      rintro e w1' ⟨X, Y, rfl, b1', hXY⟩
      have bF := below1 w1' (.cells #[.pointer X, .pointer Y] 44)
      have E1 := BoxW.made w1' (.pointer X) (.pointer Y) 44
      have b1 := b1'.trans (bF.mono b1'.size)
      have R1 := R0.below b1 (Nat.le_refl _)
      have B1 := B0.trans (b1.mono B0.size)
      have r0 := R1.c0
      have f0 := R1.f0
      have r1 := R1.c1
      have f1 := R1.f1
      have r2 := R1.c2
      have f2 := R1.f2
      have r3 := R1.c3
      have f3 := R1.f3
      have HB : Hid (Below w.heap.size w _) := ((((B1.setCell (p := ⟨w.heap.size + 1, 0, none⟩) (by show w.heap.size ≤ w.heap.size + 1; omega) (.bool false)).setCell (p := ⟨w.heap.size + 1, 1, none⟩) (by show w.heap.size ≤ w.heap.size + 1; omega) (.slice none 0 0)).setCell (p := ⟨w.heap.size + 1, 2, none⟩) (by show w.heap.size ≤ w.heap.size + 1; omega) (.bool false)).setCell (p := ⟨w.heap.size + 1, 3, none⟩) (by show w.heap.size ≤ w.heap.size + 1; omega) (.slice none 0 0))
      clear R0 R1 B0 B1 b1 X0 E1 hXY kA bF
      go_wp2
      (try simp only [Exit.inBlock, Exit.then])
      refine bodyPost_ret (v := .tuple #[.agg #[.bool false, .slice none 0 0, .bool false, .slice none 0 0], .bool false]) ?_ rfl ⟨_, by rw [HR.out], by rw [HR.out]; exact nilV _ _, HB.out⟩
      rw [results_cell_tmp rfl]
      go_simp
    by_cases hn2 : 1000000 < n
    · have q1 : decide (n < 1) = false := decide_eq_false hn1
      have q2 : decide (1000000 < n) = true := decide_eq_true hn2
      have HR : Hid (shareR a n = (((false, []), (false, [])), false)) := by show _ = _; unfold shareR; rw [if_neg (by omega)]
      obtain ⟨rr, hr⟩ : ∃ r, shareR a n = r := ⟨_, rfl⟩
      rw [hr] at HR
      rw [hr]
      clear hr
      clear hov hl0 hl1
      obtain ⟨s, t, rfl, hs, ht⟩ := ha
      obtain ⟨ad, cap, rfl, -⟩ := id hs
      obtain ⟨ae, cbp, rfl, -⟩ := id ht
      obtain ⟨g, hg⟩ : ∃ g, a.1.1 = g := ⟨_, rfl⟩
      obtain ⟨g', hg'⟩ : ∃ g, a.2.1 = g := ⟨_, rfl⟩
      obtain ⟨len, hlen⟩ : ∃ l, a.1.2.length = l := ⟨_, rfl⟩
      obtain ⟨len2, hlen2⟩ : ∃ l, a.2.2.length = l := ⟨_, rfl⟩
      rw [hg, hg', hlen, hlen2] at kA
      rw [hg, hg', hlen, hlen2]
      clear hs ht hg hg' hlen hlen2
      have s1 : (w.alloc (.cells #[.bool g, .slice ad len cap, .bool g', .slice ae len2 cbp] 30)).heap.size = w.heap.size + 1 := by simp
      have X0 := (BoxV.made w (.bool g) (.slice ad len cap) (.bool g') (.slice ae len2 cbp) 30).below (below1 _ (.cells #[.bool false, .slice none 0 0, .bool false, .slice none 0 0] 30)) (Nat.le_refl _)
      have R0 := BoxV.made (w.alloc (.cells #[.bool g, .slice ad len cap, .bool g', .slice ae len2 cbp] 30)) (.bool false) (.slice none 0 0) (.bool false) (.slice none 0 0) 30
      rw [s1] at R0
      have B0 := below2 w (.cells #[.bool g, .slice ad len cap, .bool g', .slice ae len2 cbp] 30) (.cells #[.bool false, .slice none 0 0, .bool false, .slice none 0 0] 30)
      clear s1
      go_enter Try.func8, Try.ntmps8
      go_wp2_with fail
      refine (kA _ B0).mono ?_
      generalize (w.alloc (.cells #[.bool g, .slice ad len cap, .bool g', .slice ae len2 cbp] 30)).alloc (.cells #[.bool false, .slice none 0 0, .bool false, .slice none 0 0] 30) = w0 at *
      rintro e w1' ⟨X, Y, rfl, b1', hXY⟩
      have bF := below1 w1' (.cells #[.pointer X, .pointer Y] 44)
      have E1 := BoxW.made w1' (.pointer X) (.pointer Y) 44
      have b1 := b1'.trans (bF.mono b1'.size)
      have R1 := R0.below b1 (Nat.le_refl _)
      have B1 := B0.trans (b1.mono B0.size)
      have r0 := R1.c0
      have f0 := R1.f0
      have r1 := R1.c1
      have f1 := R1.f1
      have r2 := R1.c2
      have f2 := R1.f2
      have r3 := R1.c3
      have f3 := R1.f3
      have HB : Hid (Below w.heap.size w _) := ((((B1.setCell (p := ⟨w.heap.size + 1, 0, none⟩) (by show w.heap.size ≤ w.heap.size + 1; omega) (.bool false)).setCell (p := ⟨w.heap.size + 1, 1, none⟩) (by show w.heap.size ≤ w.heap.size + 1; omega) (.slice none 0 0)).setCell (p := ⟨w.heap.size + 1, 2, none⟩) (by show w.heap.size ≤ w.heap.size + 1; omega) (.bool false)).setCell (p := ⟨w.heap.size + 1, 3, none⟩) (by show w.heap.size ≤ w.heap.size + 1; omega) (.slice none 0 0))
      clear R0 R1 B0 B1 b1 X0 E1 hXY kA bF
      go_wp2
      (try simp only [Exit.inBlock, Exit.then])
      refine bodyPost_ret (v := .tuple #[.agg #[.bool false, .slice none 0 0, .bool false, .slice none 0 0], .bool false]) ?_ rfl ⟨_, by rw [HR.out], by rw [HR.out]; exact nilV _ _, HB.out⟩
      rw [results_cell_tmp rfl]
      go_simp
    have q1 : decide (n < 1) = false := decide_eq_false hn1
    have q2 : decide (1000000 < n) = false := decide_eq_false hn2
    have HR : Hid (shareR a n = fitV (valW a.1 / n) (-(-valW a.2 / n))) := by
      show _ = _
      have f := share_fit a n hov (by omega)
      unfold shareR
      rw [if_pos ⟨hov, by omega, by omega⟩, fitV_both _ _ f.1 f.2]
    have z := okV_yes hov
    have l1' := okW_lenV z.1
    have l2' := okW_lenV z.2.1
    have ln : (limbs n.natAbs).length ≤ 1 := limbs_len_le _ 1 (by omega)
    have kS := fun p q W h1 h2 => sharedSpan_c p q (valW a.1) (valW a.2) n W h1 h2 (by omega) (by omega) (by omega) (by omega)
    unfold spanE at kS
    have kf := fun p q W h1 h2 => ivFrom_c p q (valW a.1 / n) (-(-valW a.2 / n)) W h1 h2
    obtain ⟨rr, hr⟩ : ∃ r, shareR a n = r := ⟨_, rfl⟩
    rw [hr] at HR
    rw [hr]
    clear hr
    clear hov hl0 hl1 z l1' l2' ln
    generalize fitV (valW a.1 / n) (-(-valW a.2 / n)) = fw at *
    generalize valW a.1 / n = d1 at *
    generalize -(-valW a.2 / n) = d2 at *
    generalize valW a.1 = x at *
    generalize valW a.2 = y at *
    obtain ⟨s, t, rfl, hs, ht⟩ := ha
    obtain ⟨ad, cap, rfl, -⟩ := id hs
    obtain ⟨ae, cbp, rfl, -⟩ := id ht
    obtain ⟨g, hg⟩ : ∃ g, a.1.1 = g := ⟨_, rfl⟩
    obtain ⟨g', hg'⟩ : ∃ g, a.2.1 = g := ⟨_, rfl⟩
    obtain ⟨len, hlen⟩ : ∃ l, a.1.2.length = l := ⟨_, rfl⟩
    obtain ⟨len2, hlen2⟩ : ∃ l, a.2.2.length = l := ⟨_, rfl⟩
    rw [hg, hg', hlen, hlen2] at kA
    rw [hg, hg', hlen, hlen2]
    clear hs ht hg hg' hlen hlen2
    have s1 : (w.alloc (.cells #[.bool g, .slice ad len cap, .bool g', .slice ae len2 cbp] 30)).heap.size = w.heap.size + 1 := by simp
    have X0 := (BoxV.made w (.bool g) (.slice ad len cap) (.bool g') (.slice ae len2 cbp) 30).below (below1 _ (.cells #[.bool false, .slice none 0 0, .bool false, .slice none 0 0] 30)) (Nat.le_refl _)
    have R0 := BoxV.made (w.alloc (.cells #[.bool g, .slice ad len cap, .bool g', .slice ae len2 cbp] 30)) (.bool false) (.slice none 0 0) (.bool false) (.slice none 0 0) 30
    rw [s1] at R0
    have B0 := below2 w (.cells #[.bool g, .slice ad len cap, .bool g', .slice ae len2 cbp] 30) (.cells #[.bool false, .slice none 0 0, .bool false, .slice none 0 0] 30)
    clear s1
    go_enter Try.func8, Try.ntmps8
    go_wp2_with fail
    refine (kA _ B0).mono ?_
    generalize (w.alloc (.cells #[.bool g, .slice ad len cap, .bool g', .slice ae len2 cbp] 30)).alloc (.cells #[.bool false, .slice none 0 0, .bool false, .slice none 0 0] 30) = w0 at *
    rintro e w1' ⟨X, Y, rfl, b1', hXY⟩
    have bF := below1 w1' (.cells #[.pointer X, .pointer Y] 44)
    have E1 := BoxW.made w1' (.pointer X) (.pointer Y) 44
    have b1 := b1'.trans (bF.mono b1'.size)
    have R1 := R0.below b1 (Nat.le_refl _)
    have B1 := B0.trans (b1.mono B0.size)
    obtain ⟨p, q, rfl, rfl, sp, sq, -, -⟩ := hXY (by first | exact trivial | rfl)
    have sp1 := sp.below bF sp.lt
    have sq1 := sq.below bF sq.lt
    have hR0 := R0.hi
    have hE1 : w0.heap.size ≤ w1'.heap.size := b1'.size
    clear hXY kA R0 B0 b1 b1' X0 sp sq bF
    go_wp2_with fail
    generalize w1'.alloc (.cells #[.pointer (some ⟨p, 0, none⟩), .pointer (some ⟨q, 0, none⟩)] 44) = w1 at *
    generalize w1'.heap.size = f6 at *
    refine (kS p q _ sp1 sq1).mono ?_
    rintro e w4 ⟨c, d, rfl, sc, sd, b4⟩
    have R4 := R1.below b4 (Nat.le_refl _)
    have B4 := B1.trans (b4.mono B1.size)
    clear kS sp1 sq1 E1
    go_wp2_with fail
    refine (kf c d _ sc sd).mono ?_
    rintro e w6 ⟨v6, rfl, o6, b6⟩
    obtain ⟨⟨⟨n1, l1⟩, ⟨n2, l2⟩⟩, ok3⟩ := fw
    obtain ⟨s3, s4, rfl, q3, q4, hap⟩ := o6
    obtain ⟨ad3, cp3, rfl, -⟩ := q3.row
    obtain ⟨ad4, cp4, rfl, -⟩ := q4.row
    have q3' : ownsI w6 w4.heap.size (.slice ad3 l1.length cp3) l1 := q3
    have q4' : ownsI w6 w4.heap.size (.slice ad4 l2.length cp4) l2 := q4
    have hR4 := R4.hi
    have R6 := R4.below b6 (Nat.le_refl _)
    have B6 := B4.trans (b6.mono B4.size)
    have r0 := R6.c0
    have f0 := R6.f0
    have r1 := R6.c1
    have f1 := R6.f1
    have r2 := R6.c2
    have f2 := R6.f2
    have r3 := R6.c3
    have f3 := R6.f3
    have HA : Hid (ownsI _ w4.heap.size (.slice ad3 l1.length cp3) l1) := ((((q3'.other (w.heap.size + 1) 0 (by omega) (.bool n1)).other (w.heap.size + 1) 1 (by omega) (.slice ad3 l1.length cp3)).other (w.heap.size + 1) 2 (by omega) (.bool n2)).other (w.heap.size + 1) 3 (by omega) (.slice ad4 l2.length cp4))
    have HZ : Hid (ownsI _ w4.heap.size (.slice ad4 l2.length cp4) l2) := ((((q4'.other (w.heap.size + 1) 0 (by omega) (.bool n1)).other (w.heap.size + 1) 1 (by omega) (.slice ad3 l1.length cp3)).other (w.heap.size + 1) 2 (by omega) (.bool n2)).other (w.heap.size + 1) 3 (by omega) (.slice ad4 l2.length cp4))
    have HB : Hid (Below w.heap.size w _) := ((((B6.setCell (p := ⟨w.heap.size + 1, 0, none⟩) (by show w.heap.size ≤ w.heap.size + 1; omega) (.bool n1)).setCell (p := ⟨w.heap.size + 1, 1, none⟩) (by show w.heap.size ≤ w.heap.size + 1; omega) (.slice ad3 l1.length cp3)).setCell (p := ⟨w.heap.size + 1, 2, none⟩) (by show w.heap.size ≤ w.heap.size + 1; omega) (.bool n2)).setCell (p := ⟨w.heap.size + 1, 3, none⟩) (by show w.heap.size ≤ w.heap.size + 1; omega) (.slice ad4 l2.length cp4))
    have HP : Hid (Apart (blkI (.slice ad3 l1.length cp3)) (blkI (.slice ad4 l2.length cp4))) := hap
    have hb4 := B4.size
    clear q3 q4 q3' q4' hap R1 R4 R6 B1 B4 B6 b4 b6 sc sd kf
    go_wp2
    (try simp only [Exit.inBlock, Exit.then])
    refine bodyPost_ret (v := .tuple #[.agg #[.bool n1, .slice ad3 l1.length cp3, .bool n2, .slice ad4 l2.length cp4], .bool ok3]) ?_ rfl ⟨_, by rw [HR.out], by rw [HR.out]; exact ⟨_, _, rfl, ownsI_mono HA.out hb4, ownsI_mono HZ.out hb4, HP.out⟩, HB.out⟩
    rw [results_cell_tmp rfl]
    go_simp



end Go.Proofs.Ytmfoengoahiecaa
