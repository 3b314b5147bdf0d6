/- The program's rooted and rootedSpan, each by its contract. -/
import Derived.Test.YtddakeohamefiaaSpans
import Derived.Test.YtddakeohamefiaaBRound
import Derived.Test.YtddakeohamefiaaGRootB
import Derived.Test.YtddakeohamefiaaRootM
import Derived.Test.YtddakeohamefiaaSgShift
import Derived.Test.YtddakeohamefiaaGB
namespace Go.Proofs.Ytddakeohamefiaa
open Go.RowKit
set_option linter.unusedSimpArgs false

/-- The root, rounded down and up. -/
def rtLo (n : Nat) : Int := (isqrt n : Nat)
def rtUp (n : Nat) : Nat := if isqrt n * isqrt n < n then isqrt n + 1 else isqrt n
theorem root_lo (x : Int) : rootI x 0 0 = rtLo x.natAbs := by
  unfold rootI pickI rtLo
  rw [Nat.pow_zero, Nat.div_one]
  split
  · rfl
  · rfl
theorem root_hi (x : Int) : rootI x 0 1 = (rtUp x.natAbs : Nat) := by
  unfold rootI pickI rtUp
  rw [Nat.pow_zero, Nat.div_one, Nat.mul_one]
  have h := (isqrt_spec x.natAbs).1
  by_cases e : isqrt x.natAbs * isqrt x.natAbs = x.natAbs
  · rw [decide_eq_true e, if_pos rfl, if_neg (by omega)]
  · rw [decide_eq_false e, if_neg (by simp), if_pos rfl, if_pos (by omega)]
    rfl
theorem rtUp_le (n : Nat) : rtUp n ≤ n := by
  have h := isqrt_spec n
  have h2 := isqrt_le n
  unfold rtUp
  split
  · rename_i hlt
    by_cases e : isqrt n = n
    · rw [e] at hlt
      have : n ≤ n * n := Nat.le_mul_self n
      omega
    · omega
  · exact h2

theorem abs_pow2 (k : Nat) : ((2 : Int) ^ k).natAbs = 2 ^ k := by rw [Int.natAbs_pow]; rfl
theorem shl_len (n k : Nat) : (limbs (n * 2 ^ k)).length ≤ (limbs n).length + k / 24 + 1 := by
  have h1 := mul_limbs_len n (2 ^ k)
  have h2 := pow2_limbs k
  omega

set_option maxRecDepth 20000 in
set_option maxHeartbeats 6400000 in
theorem rooted_c (p : Nat) (x mode : Int) (w : World) (sp : SG w p x) (hl : (limbs x.natAbs).length ≤ 70) (h0 : 0 ≤ mode) (h4 : mode ≤ 4) :
    Calls Try.prog 77 #[.pointer (some ⟨p, 0, none⟩), .int .i64 mode] w fun e w' => ∃ c, e = .returned (.pointer (some ⟨c, 0, none⟩)) ∧ w.heap.size ≤ c ∧ SG w' c (rootI x 0 mode) ∧ Below w.heap.size w w' := by
  have kF := fun W (h1 : GA W p 1 x.natAbs) => bRoot p 1 x.natAbs 0 W hl (by omega) h1
  have hq : (limbs (isqrt (x.natAbs * 4 / 2 ^ 0) / 2)).length ≤ 97 := by
    have h1 : isqrt (x.natAbs * 4 / 2 ^ 0) / 2 ≤ x.natAbs * 4 := Nat.le_trans (Nat.div_le_self _ _) (Nat.le_trans (isqrt_le _) (Nat.div_le_self _ _))
    have h2 := limbs_mono h1
    have h3 := mul_limbs_len x.natAbs 4
    have h5 : (limbs 4).length ≤ 1 := limbs_len_le _ 1 (by decide)
    omega
  have kR := fun W => bRounded (isqrt (x.natAbs * 4 / 2 ^ 0) / 2) (rootWh x.natAbs 0) (rootHf x.natAbs 0) mode false W hq h0 h4
  have hr := root_round x 0 mode h0 h4
  have HP := sp.sgg
  rw [if_neg (by simp), ← hr] at kR
  clear hr hq hl h0 h4
  generalize rootI x 0 mode = r at *
  generalize isqrt (x.natAbs * 4 / 2 ^ 0) / 2 = q at *
  generalize rootWh x.natAbs 0 = wh at *
  generalize rootHf x.natAbs 0 = hf at *
  generalize decide (x < 0) = g at *
  generalize x.natAbs = mx at *
  clear sp
  have HG := HP.2
  go_enter Try.func77, Try.ntmps77
  go_wp2_with fail
  refine (kF _ HG).mono ?_
  rintro e w4 ⟨rfl, b4⟩
  go_wp2_with fail
  refine (kR _).mono ?_
  rintro e w5 ⟨c, rfl, hc, sc, b5⟩
  have HB := b4.trans (b5.mono b4.size)
  have hcc := Nat.le_trans b4.size hc
  go_wp2
  go_ret
  exact ⟨c, rfl, hcc, sc, HB⟩

set_option maxRecDepth 20000 in
set_option maxHeartbeats 6400000 in
theorem rootedSpan_c (p q k : Nat) (x y : Int) (w : World) (sp : SG w p x) (sq : SG w q y) (m1 : (limbs x.natAbs).length ≤ 48) (m2 : (limbs y.natAbs).length ≤ 48) (hk : k ≤ 500) :
    Calls Try.prog 52 #[.agg #[.pointer (some ⟨p, 0, none⟩), .pointer (some ⟨q, 0, none⟩)], .int .i64 k] w (spanE (rtLo (x.natAbs * 2 ^ k)) (rtUp (y.natAbs * 2 ^ k) : Nat) w) := by
  have l1 : (limbs (x * 2 ^ k).natAbs).length ≤ 70 := by rw [Int.natAbs_mul, abs_pow2]; have := shl_len x.natAbs k; omega
  have l2 : (limbs (y * 2 ^ k).natAbs).length ≤ 70 := by rw [Int.natAbs_mul, abs_pow2]; have := shl_len y.natAbs k; omega
  have kS := fun W h => sgUp p x k W h (by omega) (by omega)
  have kP := fun W h => sgUp q y k W h (by omega) (by omega)
  have kR := fun c W h => rooted_c c (x * 2 ^ k) 0 W h l1 (by omega) (by omega)
  have kQ := fun c W h => rooted_c c (y * 2 ^ k) 1 W h l2 (by omega) (by omega)
  rw [root_lo, Int.natAbs_mul, abs_pow2] at kR
  rw [root_hi, Int.natAbs_mul, abs_pow2] at kQ
  unfold spanE
  clear l1 l2 m1 m2
  generalize rtLo (x.natAbs * 2 ^ k) = d1 at *
  generalize ((rtUp (y.natAbs * 2 ^ k) : Nat) : Int) = d2 at *
  generalize x * 2 ^ k = xk at *
  generalize y * 2 ^ k = yk at *
  have s1 : (w.alloc (.cells #[.pointer (some ⟨p, 0, none⟩), .pointer (some ⟨q, 0, none⟩)] 54)).heap.size = w.heap.size + 1 := by simp
  have E0 := (BoxW.made w (.pointer (some ⟨p, 0, none⟩)) (.pointer (some ⟨q, 0, none⟩)) 54).below (below1 _ (.cells #[.pointer none, .pointer none] 54)) (Nat.le_refl _)
  have R0 := BoxW.made (w.alloc (.cells #[.pointer (some ⟨p, 0, none⟩), .pointer (some ⟨q, 0, none⟩)] 54)) (.pointer none) (.pointer none) 54
  rw [s1] at R0
  have B0 := below2 w (.cells #[.pointer (some ⟨p, 0, none⟩), .pointer (some ⟨q, 0, none⟩)] 54) (.cells #[.pointer none, .pointer none] 54)
  have sp0 := sp.below B0 sp.lt
  have sq0 := sq.below B0 sq.lt
  clear s1 sp sq
  go_enter Try.func52, Try.ntmps52
  go_wp2_with fail
  generalize (w.alloc (.cells #[.pointer (some ⟨p, 0, none⟩), .pointer (some ⟨q, 0, none⟩)] 54)).alloc (.cells #[.pointer none, .pointer none] 54) = w0 at *
  have bd' := (Below.refl w0.heap.size w0).drew
  have E3 := E0.below bd' (Nat.le_refl _)
  have R3 := R0.below bd' (Nat.le_refl _)
  have B3 := B0.trans (bd'.mono B0.size)
  have sp3 := sp0.below bd' sp0.lt
  have sq3 := sq0.below bd' sq0.lt
  refine wp_region_held_drew (S := fun W => W.cell? ⟨w.heap.size, 0, none⟩ = some (.pointer (some ⟨p, 0, none⟩)) ∧ W.cell? ⟨w.heap.size, 1, none⟩ = some (.pointer (some ⟨q, 0, none⟩))) (by kernel_rfl) ⟨E3.c0, E3.c1⟩ ?_
  intro hHeld
  generalize w0.drew = w3 at *
  refine takeH 0 (some 5) (.pointer (some ⟨w.heap.size, 0, none⟩)) rfl rfl (by kernel_rfl) (by kernel_rfl) (by kernel_rfl) (fun _ _ _ h => h) (Or.inl ⟨rfl, fun W hW => by obtain _ := hW; go_simp⟩) (by assumption) ?_
  simp only [Act.put, List.setIfInBounds_toArray, List.set_cons_zero, List.set_cons_succ]
  refine takeH 1 (some 6) (.pointer (some ⟨p, 0, none⟩)) rfl rfl (by kernel_rfl) (by kernel_rfl) (by kernel_rfl) (fun _ _ _ h => h) (Or.inl ⟨rfl, fun W hW => by obtain ⟨_c, _⟩ := hW; go_simp⟩) (by assumption) ?_
  simp only [Act.put, List.setIfInBounds_toArray, List.set_cons_zero, List.set_cons_succ]
  refine takeH 2 (some 7) (.int .i64 k) rfl rfl (by kernel_rfl) (by kernel_rfl) (by kernel_rfl) (fun _ _ _ h => h) (yg_move rfl (.tmp 1) rfl _ rfl) (by assumption) ?_
  simp only [Act.put, List.setIfInBounds_toArray, List.set_cons_zero, List.set_cons_succ]
  refine takeH 5 (some 10) (.pointer (some ⟨w.heap.size, 1, none⟩)) rfl rfl (by kernel_rfl) (by kernel_rfl) (by kernel_rfl) (fun _ _ _ h => h) (Or.inl ⟨rfl, fun W hW => by obtain _ := hW; go_simp⟩) (by assumption) ?_
  simp only [Act.put, List.setIfInBounds_toArray, List.set_cons_zero, List.set_cons_succ]
  refine takeH 6 (some 11) (.pointer (some ⟨q, 0, none⟩)) rfl rfl (by kernel_rfl) (by kernel_rfl) (by kernel_rfl) (fun _ _ _ h => h) (Or.inl ⟨rfl, fun W hW => by obtain ⟨_, _c⟩ := hW; go_simp⟩) (by assumption) ?_
  simp only [Act.put, List.setIfInBounds_toArray, List.set_cons_zero, List.set_cons_succ]
  refine takeH 7 (some 12) (.int .i64 k) rfl rfl (by kernel_rfl) (by kernel_rfl) (by kernel_rfl) (fun _ _ _ h => h) (yg_move rfl (.tmp 1) rfl _ rfl) (by assumption) ?_
  simp only [Act.put, List.setIfInBounds_toArray, List.set_cons_zero, List.set_cons_succ]
  refine oneH 3 rfl (by kernel_rfl) (fun K' hK => ?_)
  go_simp
  refine (kS _ sp3).mono ?_
  rintro e w4 ⟨c, rfl, hc, sc, b4⟩
  have E4 := E3.below b4 (Nat.le_refl _)
  have R4 := R3.below b4 (Nat.le_refl _)
  have B4 := B3.trans (b4.mono B3.size)
  have sp4 := sp3.below b4 sp3.lt
  have sq4 := sq3.below b4 sq3.lt
  refine hK _ _ ⟨E4.c0, E4.c1⟩ ?_
  clear hK
  refine oneH 4 rfl (by kernel_rfl) (fun K' hK => ?_)
  go_simp
  refine (kR c _ sc).mono ?_
  rintro e w5 ⟨c2, rfl, hc2, sc2, b5⟩
  have E5 := E4.below b5 (Nat.le_refl _)
  have R5 := R4.below b5 (Nat.le_refl _)
  have B5 := B4.trans (b5.mono B4.size)
  have sp5 := sp4.below b5 sp4.lt
  have sq5 := sq4.below b5 sq4.lt
  have sc := sc.below b5 sc.lt
  refine hK _ _ ⟨E5.c0, E5.c1⟩ ?_
  clear hK
  refine oneH 8 rfl (by kernel_rfl) (fun K' hK => ?_)
  go_simp
  refine (kP _ sq5).mono ?_
  rintro e w6 ⟨d, rfl, hd, sd, b6⟩
  have E6 := E5.below b6 (Nat.le_refl _)
  have R6 := R5.below b6 (Nat.le_refl _)
  have B6 := B5.trans (b6.mono B5.size)
  have sp6 := sp5.below b6 sp5.lt
  have sq6 := sq5.below b6 sq5.lt
  have sc := sc.below b6 sc.lt
  have sc2 := sc2.below b6 sc2.lt
  refine hK _ _ ⟨E6.c0, E6.c1⟩ ?_
  clear hK
  refine oneH 9 rfl (by kernel_rfl) (fun K' hK => ?_)
  go_simp
  refine (kQ d _ sd).mono ?_
  rintro e w7 ⟨D2, rfl, hd2, sd2, b7⟩
  have E7 := E6.below b7 (Nat.le_refl _)
  have R7 := R6.below b7 (Nat.le_refl _)
  have B7 := B6.trans (b7.mono B6.size)
  have sp7 := sp6.below b7 sp6.lt
  have sq7 := sq6.below b7 sq6.lt
  have sc := sc.below b7 sc.lt
  have sc2 := sc2.below b7 sc2.lt
  have sd := sd.below b7 sd.lt
  refine hK _ _ ⟨E7.c0, E7.c1⟩ ?_
  clear hK
  have H5 : (fun W : World => W.cell? ⟨w.heap.size, 0, none⟩ = some (.pointer (some ⟨p, 0, none⟩)) ∧ W.cell? ⟨w.heap.size, 1, none⟩ = some (.pointer (some ⟨q, 0, none⟩))) w7 := ⟨E7.c0, E7.c1⟩
  refine takeH 10 (some 15) (.agg #[.pointer (some ⟨c2, 0, none⟩), .pointer (some ⟨D2, 0, none⟩)]) rfl rfl (by kernel_rfl) (by kernel_rfl) (by kernel_rfl) (fun _ _ _ h => h) (Or.inl ⟨rfl, fun W hW => by obtain _ := hW; go_simp⟩) (by assumption) ?_
  simp only [Act.put, List.setIfInBounds_toArray, List.set_cons_zero, List.set_cons_succ]
  have hR4 := R4.hi
  have hR6 := R6.hi
  have E8 := E7.tn ((tnC w7 (w.heap.size + 1) 0 (.pointer (some ⟨c2, 0, none⟩))).trans (tnC _ (w.heap.size + 1) 1 (.pointer (some ⟨D2, 0, none⟩)))) (fun k hk hs => by simp at hk hs; omega)
  have r0 := R7.c0
  have f0 := R7.f0
  have r1 := R7.c1
  have f1 := R7.f1
  refine oneH 11 rfl (by kernel_rfl) (fun K' hK => ?_)
  go_simp
  refine hK _ _ ⟨E8.c0, E8.c1⟩ ?_
  clear hK
  refine wpAnyH_done (by kernel_rfl) ?_ _
  have HC : Hid (SG _ c2 _) := sc2.tn ((tnC w7 (w.heap.size + 1) 0 (.pointer (some ⟨c2, 0, none⟩))).trans (tnC _ (w.heap.size + 1) 1 (.pointer (some ⟨D2, 0, none⟩)))) (fun h => by simp at h; omega)
  have HD : Hid (SG _ D2 _) := sd2.tn ((tnC w7 (w.heap.size + 1) 0 (.pointer (some ⟨c2, 0, none⟩))).trans (tnC _ (w.heap.size + 1) 1 (.pointer (some ⟨D2, 0, none⟩)))) (fun h => by simp at h; omega)
  have HB : Hid (Below w.heap.size w _) := ((B7.setCell (p := ⟨w.heap.size + 1, 0, none⟩) (by show w.heap.size ≤ w.heap.size + 1; omega) (.pointer (some ⟨c2, 0, none⟩))).setCell (p := ⟨w.heap.size + 1, 1, none⟩) (by show w.heap.size ≤ w.heap.size + 1; omega) (.pointer (some ⟨D2, 0, none⟩)))
  clear hHeld H5 E0 E3 E4 E5 E6 E7 E8 R0 R3 R4 R5 R6 R7 B0 B3 B4 B5 B6 B7 b4 b5 b6 b7 bd' sc sd sc2 sd2 kS kP kR kQ sp0 sp3 sp4 sp5 sp6 sp7 sq0 sq3 sq4 sq5 sq6 sq7
  go_wp2
  (try simp only [Exit.inBlock, Exit.then])
  refine bodyPost_ret (v := .agg #[.pointer (some ⟨c2, 0, none⟩), .pointer (some ⟨D2, 0, none⟩)]) ?_ rfl ⟨_, _, rfl, HC.out, HD.out, HB.out⟩
  rw [results_cell1 rfl]
  go_simp

end Go.Proofs.Ytddakeohamefiaa
