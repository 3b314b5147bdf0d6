/- The specification's l5Root and RoundRoot, each by its contract. -/
import Derived.Test.YtmjejnhbmhehdaaSRoundA
import Derived.Test.YtmjejnhbmhehdaaSRoot
import Derived.Test.YtmjejnhbmhehdaaRootM
import Derived.Test.YtmjejnhbmhehdaaGBase
namespace Go.Proofs.Ytmjejnhbmhehdaa
open Go.RowKit
set_option linter.unusedSimpArgs false

theorem mkW_nat (n : Nat) : mkW (n : Int) = (false, limbs n) := by rw [mkW_pos _ (by omega)]; rfl
theorem cmpJ_nat5 (m n : Nat) : cmpJ (m : Int) (n : Int) = cmpI m n := by unfold cmpJ cmpI; simp

set_option maxRecDepth 20000 in
set_option maxHeartbeats 6400000 in
theorem sRoot5 (va : Value) (m k : Nat) (mode : Int) (w : World) (ha : rowW w va (mkW (m : Int))) (hl : (limbs m).length ≤ 100) (hk : k ≤ 600) (hm0 : 0 ≤ mode) (hm4 : mode ≤ 4) :
    Calls Try.prog 65 #[va, .int .i64 k, .int .i64 mode] w fun e w' => ∃ v, e = .returned v ∧ ownsW w' w.heap.size v (mkW (rootI (m : Int) k mode)) ∧ Below w.heap.size w w' := by
  rw [mkW_nat] at ha
  obtain ⟨s, rfl, hs⟩ := ha
  have hs' : rowI w s (limbs m) := hs
  clear hs
  obtain ⟨a1, c1, rfl, -⟩ := id hs'
  have hri : rootI (m : Int) k mode = pickI ((isqrt (m / 2 ^ k) : Nat) : Int) (decide (isqrt (m / 2 ^ k) * isqrt (m / 2 ^ k) * 2 ^ k = m)) (cmpI (m * 4) ((isqrt (m / 2 ^ k) * 2 + 1) * (isqrt (m / 2 ^ k) * 2 + 1) * 2 ^ k)) mode := by
    unfold rootI
    rw [Int.natAbs_natCast, cmpJ_nat5, Nat.mul_comm 2 (isqrt (m / 2 ^ k))]
  rw [hri]
  clear hri
  have hlP : (limbs (m / 2 ^ k)).length ≤ 100 := Nat.le_trans (limbs_mono (Nat.div_le_self _ _)) hl
  obtain ⟨iq1, iq2⟩ := isqrt_spec (m / 2 ^ k)
  have hly : (limbs (isqrt (m / 2 ^ k))).length ≤ 100 := Nat.le_trans (limbs_mono (Nat.le_trans (Nat.le_mul_self _) iq1)) hlP
  have kD := fun W (h : Below w.heap.size w W) => sDown _ (limbs m) k W (hs'.below h (Nat.le_refl _)) (limbs_inR _) (by omega) (by omega)
  have kR := fun v W (q : rowI W v (limbs (m / 2 ^ k))) => sRoot v (limbs (m / 2 ^ k)) W q ⟨limbs_inR _, limbs_noZ _⟩ (by omega)
  simp only [num_limbs] at kD kR
  obtain ⟨y, hy⟩ : ∃ y, isqrt (m / 2 ^ k) = y := ⟨_, rfl⟩
  rw [hy] at kR hly
  rw [hy]
  clear hy iq1 iq2
  have hl2 : (limbs (y * y)).length ≤ 200 := by have := mul_limbs_len y y; omega
  have hlo : (limbs (y * 2)).length ≤ 101 := by
    have := mul_limbs_len y 2
    have h2 : (limbs 2).length ≤ 1 := limbs_len_le _ 1 (by decide)
    omega
  have hlo1 : (limbs (y * 2 + 1)).length ≤ 102 := by have := succ_len (y * 2); omega
  have hl4 : (limbs ((y * 2 + 1) * (y * 2 + 1))).length ≤ 204 := by have := mul_limbs_len (y * 2 + 1) (y * 2 + 1); omega
  have hls := up_len (y * y) k 200 hl2
  have hlh := up_len ((y * 2 + 1) * (y * 2 + 1)) k 204 hl4
  have hlf : (limbs (m * 4)).length ≤ 101 := by
    have := mul_limbs_len m 4
    have h2 : (limbs 4).length ≤ 1 := limbs_len_le _ 1 (by decide)
    omega
  have kT := fun v W (q : rowI W v (limbs y)) => sTimes v v (limbs y) (limbs y) W q q (limbs_inR _) (limbs_inR _) (by omega) (by omega)
  have kU := fun v W (q : rowI W v (limbs (y * y))) => sUp v (limbs (y * y)) k W q (limbs_inR _) (by omega) (by omega)
  have kU1 : ∀ v W, rowI W v (limbs y) → Calls Try.prog 96 #[v, .int .i64 1] W fun e w' => ∃ v', e = .returned v' ∧ ownsI w' W.heap.size v' (limbs (y * 2)) ∧ Below W.heap.size W w' := fun v W q => by
    have := sUp v (limbs y) 1 W q (limbs_inR _) (by omega) (by omega)
    rw [num_limbs, Nat.pow_one] at this
    exact this
  have kP := fun v vo W (q : rowI W v (limbs (y * 2))) (oo : rowI W vo [1]) => sPlus v vo (limbs (y * 2)) [1] W q oo (limbs_inR _) inR_one (by omega) (by simp)
  have kT2 := fun v W (q : rowI W v (limbs (y * 2 + 1))) => sTimes v v (limbs (y * 2 + 1)) (limbs (y * 2 + 1)) W q q (limbs_inR _) (limbs_inR _) (by omega) (by omega)
  have kU2 := fun v W (q : rowI W v (limbs ((y * 2 + 1) * (y * 2 + 1)))) => sUp v (limbs ((y * 2 + 1) * (y * 2 + 1))) k W q (limbs_inR _) (by omega) (by omega)
  have kC := fun v W (h : Below w.heap.size w W) (q : rowI W v (limbs (y * y * 2 ^ k))) => sCmp v _ (limbs (y * y * 2 ^ k)) (limbs m) W q (hs'.below h (Nat.le_refl _)) (limbs_inR _) (limbs_inR _) (by omega) (by omega)
  have kU4 : ∀ W, Below w.heap.size w W → Calls Try.prog 96 #[.slice a1 (limbs m).length c1, .int .i64 2] W fun e w' => ∃ v', e = .returned v' ∧ ownsI w' W.heap.size v' (limbs (m * 4)) ∧ Below W.heap.size W w' := fun W h => by
    have := sUp _ (limbs m) 2 W (hs'.below h (Nat.le_refl _)) (limbs_inR _) (by omega) (by omega)
    rw [num_limbs] at this
    exact this
  have kC2 := fun v v2 W (q : rowI W v (limbs (m * 4))) (q2 : rowI W v2 (limbs ((y * 2 + 1) * (y * 2 + 1) * 2 ^ k))) => sCmp v v2 (limbs (m * 4)) (limbs ((y * 2 + 1) * (y * 2 + 1) * 2 ^ k)) W q q2 (limbs_inR _) (limbs_inR _) (by omega) (by omega)
  simp only [num_limbs, num_one] at kT kU kP kT2 kU2 kC kC2
  have hz : (cmpI (y * y * 2 ^ k) m == 0) = decide (y * y * 2 ^ k = m) := by
    unfold cmpI
    by_cases h : y * y * 2 ^ k = m
    · rw [h]; simp
    · rw [decide_eq_false h, beq_eq_false_iff_ne]
      split
      · omega
      · split <;> omega
  have kK := fun v base W (q : ownsW W base v (mkW ((y : Nat) : Int))) => sPick v ((y : Nat) : Int) (decide (y * y * 2 ^ k = m)) (cmpI (m * 4) ((y * 2 + 1) * (y * 2 + 1) * 2 ^ k)) mode base W q (by rw [Int.natAbs_natCast]; omega) hm0 hm4
  rw [mkW_nat] at kK
  obtain ⟨nr, lr, hm5⟩ : ∃ nb lb, mkW (pickI ((y : Nat) : Int) (decide (y * y * 2 ^ k = m)) (cmpI (m * 4) ((y * 2 + 1) * (y * 2 + 1) * 2 ^ k)) mode) = (nb, lb) := ⟨_, _, rfl⟩
  rw [hm5] at kK
  rw [hm5]
  have hcb : -1 ≤ cmpI (y * y * 2 ^ k) m ∧ cmpI (y * y * 2 ^ k) m ≤ 1 := by unfold cmpI; split <;> (try split) <;> omega
  clear hm5 hm0 hm4 hl hlP hly hl2 hlo hlo1 hl4 hls hlh hlf
  generalize cmpI (m * 4) ((y * 2 + 1) * (y * 2 + 1) * 2 ^ k) = cm2 at *
  generalize cmpI (y * y * 2 ^ k) m = cm1 at *
  generalize decide (y * y * 2 ^ k = m) = dz at *
  generalize limbs ((y * 2 + 1) * (y * 2 + 1) * 2 ^ k) = L1 at *
  generalize limbs (m * 4) = L2 at *
  generalize limbs (y * y * 2 ^ k) = L3 at *
  generalize limbs ((y * 2 + 1) * (y * 2 + 1)) = L4 at *
  generalize limbs (y * 2 + 1) = L5 at *
  generalize limbs (y * 2) = L6 at *
  generalize limbs (y * y) = L7 at *
  generalize limbs (m / 2 ^ k) = L8 at *
  generalize limbs y = L9 at *
  generalize (limbs m).length = lm at *
  have s1 : (w.alloc (.cells #[.bool false, .slice a1 lm c1] 24)).heap.size = w.heap.size + 1 := by simp
  have A1 := (BoxW.made w (.bool false) (.slice a1 lm c1) 24).below (below1 _ (.cells #[.bool false, .slice none 0 0] 24)) (Nat.le_refl _)
  have R1 := BoxW.made (w.alloc (.cells #[.bool false, .slice a1 lm c1] 24)) (.bool false) (.slice none 0 0) 24
  rw [s1] at R1
  have B := below2 w (.cells #[.bool false, .slice a1 lm c1] 24) (.cells #[.bool false, .slice none 0 0] 24)
  have hR0 := R1.hi
  clear s1 hs'
  go_enter Try.func65, Try.ntmps65
  go_wp2_with fail
  refine (kD _ B).mono ?_
  generalize (w.alloc (.cells #[.bool false, .slice a1 lm c1] 24)).alloc (.cells #[.bool false, .slice none 0 0] 24) = w2 at *
  rintro e w3 ⟨vd, rfl, ovd, b3⟩
  replace A1 := A1.below b3 (Nat.le_refl _)
  replace R1 := R1.below b3 (Nat.le_refl _)
  replace B := B.trans (b3.mono B.size)
  have ca0 := A1.c0
  have ca1 := A1.c1
  go_wp2_with fail
  clear ca0 ca1
  refine (kR _ _ ovd.row).mono ?_
  rintro e w4 ⟨vy, rfl, ovy, b4⟩
  replace A1 := A1.below b4 (Nat.le_refl _)
  replace R1 := R1.below b4 (Nat.le_refl _)
  replace B := B.trans (b4.mono B.size)
  have hb4 := B.size
  have hy4 : w2.heap.size ≤ w3.heap.size := b3.size
  clear kD kR ovd b3 b4
  have ca0 := A1.c0
  have ca1 := A1.c1
  go_wp2_with fail
  clear ca0 ca1
  refine (kT _ _ ovy.row).mono ?_
  rintro e w5 ⟨vt, rfl, ovt, b5⟩
  replace A1 := A1.below b5 (Nat.le_refl _)
  replace R1 := R1.below b5 (Nat.le_refl _)
  replace B := B.trans (b5.mono B.size)
  replace ovy := ownsI.below ovy b5 (Nat.le_refl _)
  have ca0 := A1.c0
  have ca1 := A1.c1
  go_wp2_with fail
  clear ca0 ca1
  refine (kU _ _ ovt.row).mono ?_
  rintro e w6 ⟨vs, rfl, ovs, b6⟩
  replace A1 := A1.below b6 (Nat.le_refl _)
  replace R1 := R1.below b6 (Nat.le_refl _)
  replace B := B.trans (b6.mono B.size)
  replace ovy := ownsI.below ovy b6 (Nat.le_refl _)
  have ca0 := A1.c0
  have ca1 := A1.c1
  go_wp2_with fail
  clear ca0 ca1
  refine (kU1 _ _ ovy.row).mono ?_
  rintro e w7 ⟨vu, rfl, ovu, b7⟩
  replace A1 := A1.below b7 (Nat.le_refl _)
  replace R1 := R1.below b7 (Nat.le_refl _)
  replace B := B.trans (b7.mono B.size)
  replace ovy := ownsI.below ovy b7 (Nat.le_refl _)
  replace ovs := ownsI.below ovs b7 (Nat.le_refl _)
  have b71 := below1 w7 (.cells #[.int .i64 1] 3)
  have oo := one_row w7
  replace A1 := A1.below b71 (Nat.le_refl _)
  replace R1 := R1.below b71 (Nat.le_refl _)
  replace B := B.trans (b71.mono B.size)
  replace ovy := ownsI.below ovy b71 (Nat.le_refl _)
  replace ovs := ownsI.below ovs b71 (Nat.le_refl _)
  replace ovu := ownsI.below ovu b71 (Nat.le_refl _)
  have ca0 := A1.c0
  have ca1 := A1.c1
  go_wp2_with fail
  clear ca0 ca1
  refine (kP _ _ _ ovu.row oo).mono ?_
  rintro e w8 ⟨vo, rfl, ovo, b8⟩
  replace A1 := A1.below b8 (Nat.le_refl _)
  replace R1 := R1.below b8 (Nat.le_refl _)
  replace B := B.trans (b8.mono B.size)
  replace ovy := ownsI.below ovy b8 (Nat.le_refl _)
  replace ovs := ownsI.below ovs b8 (Nat.le_refl _)
  clear oo b71 ovu b7
  have ca0 := A1.c0
  have ca1 := A1.c1
  go_wp2_with fail
  clear ca0 ca1
  refine (kT2 _ _ ovo.row).mono ?_
  rintro e w9 ⟨vq, rfl, ovq, b9⟩
  replace A1 := A1.below b9 (Nat.le_refl _)
  replace R1 := R1.below b9 (Nat.le_refl _)
  replace B := B.trans (b9.mono B.size)
  replace ovy := ownsI.below ovy b9 (Nat.le_refl _)
  replace ovs := ownsI.below ovs b9 (Nat.le_refl _)
  have ca0 := A1.c0
  have ca1 := A1.c1
  go_wp2_with fail
  clear ca0 ca1
  refine (kU2 _ _ ovq.row).mono ?_
  rintro e w10 ⟨vh, rfl, ovh, b10⟩
  replace A1 := A1.below b10 (Nat.le_refl _)
  replace R1 := R1.below b10 (Nat.le_refl _)
  replace B := B.trans (b10.mono B.size)
  replace ovy := ownsI.below ovy b10 (Nat.le_refl _)
  replace ovs := ownsI.below ovs b10 (Nat.le_refl _)
  clear kT kU kU1 kP kT2 kU2 ovt ovo ovq b5 b6 b8 b9 b10
  have ca0 := A1.c0
  have ca1 := A1.c1
  go_wp2_with fail
  clear ca0 ca1
  have bd := (Below.refl w10.heap.size w10).drew
  have A2 := A1.below bd (Nat.le_refl _)
  have R2 := R1.below bd (Nat.le_refl _)
  have B2 := B.trans (bd.mono B.size)
  replace ovy := ownsI.below ovy bd (Nat.le_refl _)
  replace ovs := ownsI.below ovs bd (Nat.le_refl _)
  replace ovh := ownsI.below ovh bd (Nat.le_refl _)
  obtain ⟨ay, cy, rfl, -⟩ := ovy.row
  refine wp_region_held_drew (S := fun W => W.cell? ⟨w.heap.size, 1, none⟩ = some (.slice a1 lm c1)) (by kernel_rfl) A2.c1 ?_
  intro hHeld
  refine takeH 0 (some 30) (.slice ay L9.length cy) rfl rfl (by kernel_rfl) (by kernel_rfl) (by kernel_rfl) (fun _ _ _ h => h) (yg_move rfl (.tmp 7) rfl _ rfl) (by assumption) ?_
  simp only [Act.put, List.setIfInBounds_toArray, List.set_cons_zero, List.set_cons_succ]
  refine takeH 1 (some 31) (.agg #[.bool false, .slice ay L9.length cy]) rfl rfl (by kernel_rfl) (by kernel_rfl) (by kernel_rfl) (fun _ _ _ h => h) (Or.inl ⟨rfl, fun W hW => by obtain _ := hW; go_simp⟩) (by assumption) ?_
  simp only [Act.put, List.setIfInBounds_toArray, List.set_cons_zero, List.set_cons_succ]
  refine takeH 2 (some 32) (vs) rfl rfl (by kernel_rfl) (by kernel_rfl) (by kernel_rfl) (fun _ _ _ h => h) (yg_move rfl (.tmp 8) rfl _ rfl) (by assumption) ?_
  simp only [Act.put, List.setIfInBounds_toArray, List.set_cons_zero, List.set_cons_succ]
  refine takeH 3 (some 33) (.pointer (some ⟨w.heap.size, 1, none⟩)) rfl rfl (by kernel_rfl) (by kernel_rfl) (by kernel_rfl) (fun _ _ _ h => h) (Or.inl ⟨rfl, fun W hW => by obtain _ := hW; go_simp⟩) (by assumption) ?_
  simp only [Act.put, List.setIfInBounds_toArray, List.set_cons_zero, List.set_cons_succ]
  refine takeH 4 (some 34) (.slice a1 lm c1) rfl rfl (by kernel_rfl) (by kernel_rfl) (by kernel_rfl) (fun _ _ _ h => h) (Or.inl ⟨rfl, fun W hW => by obtain _c := hW; go_simp⟩) (by assumption) ?_
  simp only [Act.put, List.setIfInBounds_toArray, List.set_cons_zero, List.set_cons_succ]
  refine takeH 7 (some 37) (.pointer (some ⟨w.heap.size, 1, none⟩)) rfl rfl (by kernel_rfl) (by kernel_rfl) (by kernel_rfl) (fun _ _ _ h => h) (Or.inl ⟨rfl, fun W hW => by obtain _ := hW; go_simp⟩) (by assumption) ?_
  simp only [Act.put, List.setIfInBounds_toArray, List.set_cons_zero, List.set_cons_succ]
  refine takeH 8 (some 38) (.slice a1 lm c1) rfl rfl (by kernel_rfl) (by kernel_rfl) (by kernel_rfl) (fun _ _ _ h => h) (Or.inl ⟨rfl, fun W hW => by obtain _c := hW; go_simp⟩) (by assumption) ?_
  simp only [Act.put, List.setIfInBounds_toArray, List.set_cons_zero, List.set_cons_succ]
  refine takeH 10 (some 40) (vh) rfl rfl (by kernel_rfl) (by kernel_rfl) (by kernel_rfl) (fun _ _ _ h => h) (yg_move rfl (.tmp 10) rfl _ rfl) (by assumption) ?_
  simp only [Act.put, List.setIfInBounds_toArray, List.set_cons_zero, List.set_cons_succ]
  refine takeH 12 (some 42) (.int .i64 mode) rfl rfl (by kernel_rfl) (by kernel_rfl) (by kernel_rfl) (fun _ _ _ h => h) (yg_move rfl (.tmp 2) rfl _ rfl) (by assumption) ?_
  simp only [Act.put, List.setIfInBounds_toArray, List.set_cons_zero, List.set_cons_succ]
  refine oneH 5 rfl (by kernel_rfl) (fun K' hK => ?_)
  go_simp
  refine (kC _ _ B2 ovs.row).mono ?_
  rintro e w11 ⟨rfl, rfl⟩
  refine hK _ _ hHeld ?_
  clear hK
  refine takeH 6 (some 36) (.bool dz) rfl rfl (by kernel_rfl) (by kernel_rfl) (by kernel_rfl) (fun _ _ _ h => h) (Or.inl ⟨rfl, fun W hW => by obtain _ := hW; go_simp⟩) (by assumption) ?_
  simp only [Act.put, List.setIfInBounds_toArray, List.set_cons_zero, List.set_cons_succ]
  refine oneH 9 rfl (by kernel_rfl) (fun K' hK => ?_)
  go_simp
  refine (kU4 _ B2).mono ?_
  rintro e w12 ⟨vf, rfl, ovf, b12⟩
  have A3 := A2.below b12 (Nat.le_refl _)
  have R3 := R2.below b12 (Nat.le_refl _)
  have B3 := B2.trans (b12.mono B2.size)
  have ovy3 := ownsI.below ovy b12 (Nat.le_refl _)
  have ovh3 := ownsI.below ovh b12 (Nat.le_refl _)
  refine hK _ _ A3.c1 ?_
  clear hK
  refine oneH 11 rfl (by kernel_rfl) (fun K' hK => ?_)
  go_simp
  refine (kC2 _ _ _ ovf.row ovh3.row).mono ?_
  rintro e w13 ⟨rfl, rfl⟩
  refine hK _ _ A3.c1 ?_
  clear hK
  refine oneH 13 rfl (by kernel_rfl) (fun K' hK => ?_)
  go_simp
  refine (kK _ _ _ ⟨_, rfl, ovy3⟩).mono ?_
  rintro e w14 ⟨v14, rfl, o14, b14⟩
  have A4 := A3.below b14 (Nat.le_refl _)
  have R4 := R3.below b14 (Nat.le_refl _)
  have B4 := B3.trans (b14.mono B3.size)
  refine hK _ _ A4.c1 ?_
  clear hK
  obtain ⟨s14, rfl, z14⟩ := o14
  obtain ⟨ad5, cp5, rfl, -⟩ := z14.row
  have r0 := R4.c0
  have r1 := R4.c1
  have f0 := R4.f0
  have f1 := R4.f1
  refine oneH 14 rfl (by kernel_rfl) (fun K' hK => ?_)
  go_simp
  have hS4 : ((w14.setCell ⟨w.heap.size + 1, 0, none⟩ (.bool nr)).setCell ⟨w.heap.size + 1, 1, none⟩ (.slice ad5 lr.length cp5)).cell? ⟨w.heap.size, 1, none⟩ = some (.slice a1 lm c1) := (World.cell?_setCell_other _ _ _ _ (by simp)).trans ((World.cell?_setCell_other _ _ _ _ (by simp)).trans A4.c1)
  refine hK _ _ hS4 ?_
  refine wpAnyH_done (by kernel_rfl) ?_ _
  have hi1 : w.heap.size + 1 < min w3.heap.size w13.heap.size := by have := R3.hi; omega
  have o6 := ownsRow_setCell_below (a := ⟨w.heap.size + 1, 0, none⟩) z14 (by exact hi1) (.bool nr)
  have o7 := ownsRow_setCell_below (a := ⟨w.heap.size + 1, 1, none⟩) o6 (by exact hi1) (.slice ad5 lr.length cp5)
  have HO : Hid (World.ownsRow _ w.heap.size 3 1 (.slice ad5 lr.length cp5) lr.length (lr.map (Value.int .i64))) := ownsRow_mono o7 (by omega)
  have HB : Hid (Below w.heap.size w _) := (B4.setCell (p := ⟨w.heap.size + 1, 0, none⟩) (by show w.heap.size ≤ w.heap.size + 1; omega) (.bool nr)).setCell (p := ⟨w.heap.size + 1, 1, none⟩) (by show w.heap.size ≤ w.heap.size + 1; omega) (.slice ad5 lr.length cp5)
  clear o6 o7 z14 hK hHeld
  go_wp2
  (try simp only [Exit.inBlock, Exit.then])
  refine bodyPost_ret (v := .agg #[.bool nr, .slice ad5 lr.length cp5]) ?_ rfl ⟨_, rfl, ⟨_, rfl, HO.out⟩, HB.out⟩
  rw [results_cell1 rfl]
  go_simp

set_option maxRecDepth 20000 in
set_option maxHeartbeats 6400000 in
theorem sRoundRoot (va : Value) (a : Wh) (k mode : Int) (w : World) (ha : rowW w va a) (hla : a.2.length ≤ 1048576) :
    Calls Try.prog 33 #[va, .int .i64 k, .int .i64 mode] w fun e w' => ∃ v, e = .returned (.tuple #[v, .bool (rrootR a k mode).2]) ∧ ownsW w' w.heap.size v (rrootR a k mode).1 ∧ Below w.heap.size w w' := by
  have kA := fun W (h : Below w.heap.size w W) => sWholeOk va a W (ha.below h (Nat.le_refl _)) hla
  have kF : okW a = true → 0 ≤ valW a → 0 ≤ k → k ≤ 600 → 0 ≤ mode → mode ≤ 4 → ∀ W, Below w.heap.size w W → Calls Try.prog 65 #[va, .int .i64 k, .int .i64 mode] W fun e w' => ∃ v, e = .returned v ∧ ownsW w' W.heap.size v (mkW (rootI (valW a) k.toNat mode)) ∧ Below W.heap.size W w' := by
    intro h1 hn h2 h3 h4 h5 W h
    have l1 := valW_lenS h1
    obtain ⟨j, rfl⟩ : ∃ j : Nat, k = (j : Int) := ⟨k.toNat, by omega⟩
    rw [Int.toNat_natCast]
    exact by
      obtain ⟨m, hm⟩ : ∃ m : Nat, valW a = (m : Int) := ⟨(valW a).toNat, by omega⟩
      rw [hm] at l1 ⊢
      rw [Int.natAbs_natCast] at l1
      exact sRoot5 va m j mode W (by rw [← hm, ← mkW_of h1]; exact ha.below h (Nat.le_refl _)) (by omega) (by omega) h4 h5
  have kf := fun v base W (h : ownsW W base v (mkW (rootI (valW a) k.toNat mode))) => sWFits v (rootI (valW a) k.toNat mode) base W h
  have HX : Hid (¬ (okW a = true ∧ 0 ≤ valW a ∧ 0 ≤ k ∧ k ≤ 600 ∧ 0 ≤ mode ∧ mode ≤ 4) → rrootR a k mode = ((false, []), false)) := fun h => by rw [rrootR, if_neg h]
  have HY : Hid (okW a = true ∧ 0 ≤ valW a ∧ 0 ≤ k ∧ k ≤ 600 ∧ 0 ≤ mode ∧ mode ≤ 4 → rrootR a k mode = fitW (rootI (valW a) k.toNat mode)) := fun h => by rw [rrootR, if_pos h]
  have HV : Hid (okW a = true → a.1 = decide (valW a < 0)) := fun h => (okW_val h).1
  generalize fitW (rootI (valW a) k.toNat mode) = fw at *
  generalize rrootR a k mode = rf at *
  generalize mkW (rootI (valW a) k.toNat mode) = fz at *
  obtain ⟨s, rfl, hs⟩ := ha
  obtain ⟨a1, c1, rfl, -⟩ := hs
  have s1 : (w.alloc (.cells #[.bool a.1, .slice a1 a.2.length c1] 24)).heap.size = w.heap.size + 1 := by simp
  have A0 := (BoxW.made w (.bool a.1) (.slice a1 a.2.length c1) 24).below (below1 _ (.cells #[.bool false, .slice none 0 0] 24)) (Nat.le_refl _)
  have R0 := BoxW.made (w.alloc (.cells #[.bool a.1, .slice a1 a.2.length c1] 24)) (.bool false) (.slice none 0 0) 24
  rw [s1] at R0
  have B0 := below2 w (.cells #[.bool a.1, .slice a1 a.2.length c1] 24) (.cells #[.bool false, .slice none 0 0] 24)
  clear s1
  obtain ⟨oa, hoa⟩ : ∃ x, okW a = x := ⟨_, rfl⟩
  rw [hoa] at kA kF HX HY HV
  clear hoa
  cases oa
  · have HR : Hid (rf = ((false, []), false)) := HX.out (by simp)
    clear kF kf HX HY HV
    go_enter Try.func33, Try.ntmps33
    go_wp2_with fail
    refine (kA _ B0).mono ?_
    generalize (w.alloc (.cells #[.bool a.1, .slice a1 a.2.length c1] 24)).alloc (.cells #[.bool false, .slice none 0 0] 24) = w0 at *
    rintro e w1 ⟨rfl, b1⟩
    have R1 := R0.below b1 (Nat.le_refl _)
    have A1 := A0.below b1 (Nat.le_refl _)
    have B1 := B0.trans (b1.mono B0.size)
    have ca0 := A1.c0
    have ca1 := A1.c1
    clear R0 A0 B0 b1
    have y0 := R1.c0
    have y1 := R1.c1
    have yf0 := R1.f0
    have yf1 := R1.f1
    have HB : Hid (Below w.heap.size w ((w1.setCell ⟨w.heap.size + 1, 0, none⟩ (.bool false)).setCell ⟨w.heap.size + 1, 1, none⟩ (.slice none 0 0))) := (B1.setCell (p := ⟨w.heap.size + 1, 0, none⟩) (by show w.heap.size ≤ w.heap.size + 1; omega) (.bool false)).setCell (p := ⟨w.heap.size + 1, 1, none⟩) (by show w.heap.size ≤ w.heap.size + 1; omega) (.slice none 0 0)
    clear R1 B1 A1
    go_wp2
    (try simp only [Exit.inBlock, Exit.then])
    refine bodyPost_ret (v := .tuple #[.agg #[.bool false, .slice none 0 0], .bool false]) ?_ rfl ⟨_, by rw [HR.out], by rw [HR.out]; exact ⟨_, rfl, World.ownsRow_nil _ _ _ _⟩, HB.out⟩
    rw [results_cell_tmp rfl]
    go_simp
  have hv1 := HV.out rfl
  clear HV
  by_cases hn : valW a < 0
  · have HR : Hid (rf = ((false, []), false)) := HX.out (fun h => by have := h.2.1; omega)
    rw [decide_eq_true hn] at hv1
    have HV1 : Hid (a.1 = true) := hv1
    clear kF kf HX HY hv1
    go_enter Try.func33, Try.ntmps33
    go_wp2_with fail
    refine (kA _ B0).mono ?_
    generalize (w.alloc (.cells #[.bool a.1, .slice a1 a.2.length c1] 24)).alloc (.cells #[.bool false, .slice none 0 0] 24) = w0 at *
    rintro e w1 ⟨rfl, b1⟩
    have R1 := R0.below b1 (Nat.le_refl _)
    have A1 := A0.below b1 (Nat.le_refl _)
    have B1 := B0.trans (b1.mono B0.size)
    have ca0 := A1.c0
    have ca1 := A1.c1
    clear R0 A0 B0 b1
    rw [HV1.out] at ca0
    have y0 := R1.c0
    have y1 := R1.c1
    have yf0 := R1.f0
    have yf1 := R1.f1
    have HB : Hid (Below w.heap.size w ((w1.setCell ⟨w.heap.size + 1, 0, none⟩ (.bool false)).setCell ⟨w.heap.size + 1, 1, none⟩ (.slice none 0 0))) := (B1.setCell (p := ⟨w.heap.size + 1, 0, none⟩) (by show w.heap.size ≤ w.heap.size + 1; omega) (.bool false)).setCell (p := ⟨w.heap.size + 1, 1, none⟩) (by show w.heap.size ≤ w.heap.size + 1; omega) (.slice none 0 0)
    clear R1 B1 A1
    go_wp2
    (try simp only [Exit.inBlock, Exit.then])
    refine bodyPost_ret (v := .tuple #[.agg #[.bool false, .slice none 0 0], .bool false]) ?_ rfl ⟨_, by rw [HR.out], by rw [HR.out]; exact ⟨_, rfl, World.ownsRow_nil _ _ _ _⟩, HB.out⟩
    rw [results_cell_tmp rfl]
    go_simp
  have HV1 : Hid (a.1 = false) := by show _ = _; rw [hv1]; exact decide_eq_false hn
  clear hv1
  by_cases hk : 0 ≤ k ∧ k ≤ 600
  · have kI := fun W => in_yes k 0 600 W hk.1 hk.2
    by_cases hm : 0 ≤ mode ∧ mode ≤ 4
    · have kM := fun W => sMode_yes mode W hm.1 hm.2
      have HR : Hid (rf = fw) := HY.out ⟨rfl, by omega, hk.1, hk.2, hm.1, hm.2⟩
      have kG := kF rfl (by omega) hk.1 hk.2 hm.1 hm.2
      clear kF HX HY hm hk
      go_enter Try.func33, Try.ntmps33
      go_wp2_with fail
      refine (kA _ B0).mono ?_
      generalize (w.alloc (.cells #[.bool a.1, .slice a1 a.2.length c1] 24)).alloc (.cells #[.bool false, .slice none 0 0] 24) = w0 at *
      rintro e w1 ⟨rfl, b1⟩
      have R1 := R0.below b1 (Nat.le_refl _)
      have A1 := A0.below b1 (Nat.le_refl _)
      have B1 := B0.trans (b1.mono B0.size)
      have ca0 := A1.c0
      have ca1 := A1.c1
      clear R0 A0 B0 b1
      rw [HV1.out] at ca0
      simp only [HV1.out] at kG
      go_wp2_with (first | (go_at_call 55; refine (kI _).mono ?_; rintro e w1 ⟨rfl, rfl⟩) | (go_at_call 58; refine (kM _).mono ?_; rintro e w1 ⟨rfl, rfl⟩))
      refine (kG _ B1).mono ?_
      rintro e w6 ⟨v6, rfl, o6, b6⟩
      have B6 := B1.trans (b6.mono B1.size)
      have R6 := R1.below b6 (Nat.le_refl _)
      go_wp2_with fail
      refine (kf _ _ _ o6).mono ?_
      rintro e w7 ⟨v7, rfl, o7, b7⟩
      have B7 := B6.trans (b7.mono B6.size)
      have R7 := R6.below b7 (Nat.le_refl _)
      obtain ⟨⟨g3, l3⟩, ok3⟩ := fw
      obtain ⟨s3, rfl, q3⟩ := o7
      obtain ⟨ad3, cap3, rfl, -⟩ := q3.row
      have hR := R1.hi
      have d0 := R7.c0
      have d1 := R7.c1
      have f0 := R7.f0
      have f1 := R7.f1
      have o8 := ownsRow_setCell_below (a := ⟨w.heap.size + 1, 0, none⟩) q3 (by exact hR) (.bool g3)
      have o9 := ownsRow_setCell_below (a := ⟨w.heap.size + 1, 1, none⟩) o8 (by exact hR) (.slice ad3 l3.length cap3)
      have HO : Hid (World.ownsRow _ w.heap.size 3 1 (.slice ad3 l3.length cap3) l3.length (l3.map (Value.int .i64))) := ownsRow_mono o9 B1.size
      have HB : Hid (Below w.heap.size w _) := (B7.setCell (p := ⟨w.heap.size + 1, 0, none⟩) (by show w.heap.size ≤ w.heap.size + 1; omega) (.bool g3)).setCell (p := ⟨w.heap.size + 1, 1, none⟩) (by show w.heap.size ≤ w.heap.size + 1; omega) (.slice ad3 l3.length cap3)
      clear o8 o9 q3 R6 R7 B6 B7 b6 b7
      go_wp2
      (try simp only [Exit.inBlock, Exit.then])
      refine bodyPost_ret (v := .tuple #[.agg #[.bool g3, .slice ad3 l3.length cap3], .bool ok3]) ?_ rfl ⟨_, by rw [HR.out], by rw [HR.out]; exact ⟨_, rfl, HO.out⟩, HB.out⟩
      rw [results_cell_tmp rfl]
      go_simp
    · have kM := fun W => sMode_no mode W hm
      have HR : Hid (rf = ((false, []), false)) := HX.out (fun h => hm h.2.2.2.2)
      clear kF kf HX HY hm hk
      go_enter Try.func33, Try.ntmps33
      go_wp2_with fail
      refine (kA _ B0).mono ?_
      generalize (w.alloc (.cells #[.bool a.1, .slice a1 a.2.length c1] 24)).alloc (.cells #[.bool false, .slice none 0 0] 24) = w0 at *
      rintro e w1 ⟨rfl, b1⟩
      have R1 := R0.below b1 (Nat.le_refl _)
      have A1 := A0.below b1 (Nat.le_refl _)
      have B1 := B0.trans (b1.mono B0.size)
      have ca0 := A1.c0
      have ca1 := A1.c1
      clear R0 A0 B0 b1
      rw [HV1.out] at ca0
      have y0 := R1.c0
      have y1 := R1.c1
      have yf0 := R1.f0
      have yf1 := R1.f1
      have HB : Hid (Below w.heap.size w ((w1.setCell ⟨w.heap.size + 1, 0, none⟩ (.bool false)).setCell ⟨w.heap.size + 1, 1, none⟩ (.slice none 0 0))) := (B1.setCell (p := ⟨w.heap.size + 1, 0, none⟩) (by show w.heap.size ≤ w.heap.size + 1; omega) (.bool false)).setCell (p := ⟨w.heap.size + 1, 1, none⟩) (by show w.heap.size ≤ w.heap.size + 1; omega) (.slice none 0 0)
      clear R1 B1 A1
      go_wp2_with (first | (go_at_call 55; refine (kI _).mono ?_; rintro e w1 ⟨rfl, rfl⟩) | (go_at_call 58; refine (kM _).mono ?_; rintro e w1 ⟨rfl, rfl⟩))
      (try simp only [Exit.inBlock, Exit.then])
      refine bodyPost_ret (v := .tuple #[.agg #[.bool false, .slice none 0 0], .bool false]) ?_ rfl ⟨_, by rw [HR.out], by rw [HR.out]; exact ⟨_, rfl, World.ownsRow_nil _ _ _ _⟩, HB.out⟩
      rw [results_cell_tmp rfl]
      go_simp
  · have kI := fun W => in_no k 0 600 W hk
    have HR : Hid (rf = ((false, []), false)) := HX.out (fun h => hk ⟨h.2.2.1, h.2.2.2.1⟩)
    clear kF kf HX HY hk
    go_enter Try.func33, Try.ntmps33
    go_wp2_with fail
    refine (kA _ B0).mono ?_
    generalize (w.alloc (.cells #[.bool a.1, .slice a1 a.2.length c1] 24)).alloc (.cells #[.bool false, .slice none 0 0] 24) = w0 at *
    rintro e w1 ⟨rfl, b1⟩
    have R1 := R0.below b1 (Nat.le_refl _)
    have A1 := A0.below b1 (Nat.le_refl _)
    have B1 := B0.trans (b1.mono B0.size)
    have ca0 := A1.c0
    have ca1 := A1.c1
    clear R0 A0 B0 b1
    rw [HV1.out] at ca0
    have y0 := R1.c0
    have y1 := R1.c1
    have yf0 := R1.f0
    have yf1 := R1.f1
    have HB : Hid (Below w.heap.size w ((w1.setCell ⟨w.heap.size + 1, 0, none⟩ (.bool false)).setCell ⟨w.heap.size + 1, 1, none⟩ (.slice none 0 0))) := (B1.setCell (p := ⟨w.heap.size + 1, 0, none⟩) (by show w.heap.size ≤ w.heap.size + 1; omega) (.bool false)).setCell (p := ⟨w.heap.size + 1, 1, none⟩) (by show w.heap.size ≤ w.heap.size + 1; omega) (.slice none 0 0)
    clear R1 B1 A1
    go_wp2_with (first | (go_at_call 55; refine (kI _).mono ?_; rintro e w1 ⟨rfl, rfl⟩))
    (try simp only [Exit.inBlock, Exit.then])
    refine bodyPost_ret (v := .tuple #[.agg #[.bool false, .slice none 0 0], .bool false]) ?_ rfl ⟨_, by rw [HR.out], by rw [HR.out]; exact ⟨_, rfl, World.ownsRow_nil _ _ _ _⟩, HB.out⟩
    rw [results_cell_tmp rfl]
    go_simp

end Go.Proofs.Ytmjejnhbmhehdaa
