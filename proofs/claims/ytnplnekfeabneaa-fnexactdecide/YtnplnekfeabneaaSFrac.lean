/- The specification's l5Frac, by its contract. -/
import Derived.Test.YtnplnekfeabneaaSPick
import Derived.Test.YtnplnekfeabneaaSWDiv
import Derived.Test.YtnplnekfeabneaaSWMul
import Derived.Test.YtnplnekfeabneaaSWSub
import Derived.Test.YtnplnekfeabneaaWB
namespace Go.Proofs.Ytnplnekfeabneaa
open Go.RowKit
set_option linter.unusedSimpArgs false

theorem quot_len (x y : Int) (hy : 0 < y) (L : Nat) (h : (limbs x.natAbs).length ≤ L) : (limbs (x / y).natAbs).length ≤ L + 1 := by
  have h1 := succ_len x.natAbs
  refine Nat.le_trans (limbs_mono (m := x.natAbs + 1) ?_) (by omega)
  have h2 := Int.ediv_mul_le x (Int.ne_of_gt hy)
  have h3 := Int.lt_ediv_add_one_mul_self x hy
  by_cases hx : 0 ≤ x / y
  · have : x / y * 1 ≤ x / y * y := Int.mul_le_mul_of_nonneg_left (by omega) hx
    omega
  · have h4 : (x / y + 1) * y ≤ (x / y + 1) * 1 := Int.mul_le_mul_of_nonpos_left (by omega) (by omega)
    omega
theorem rest_bd (x y : Int) (hy : 0 < y) : 0 ≤ x - x / y * y ∧ x - x / y * y < y := by
  have h2 := Int.ediv_mul_le x (Int.ne_of_gt hy)
  have h3 := Int.lt_ediv_add_one_mul_self x hy
  rw [Int.add_mul, Int.one_mul] at h3
  omega

set_option maxRecDepth 20000 in
set_option maxHeartbeats 6400000 in
theorem sFrac (va vb : Value) (x y mode : Int) (w : World) (ha : rowW w va (mkW x)) (hb : rowW w vb (mkW y)) (hlx : (limbs x.natAbs).length ≤ 200) (hly : (limbs y.natAbs).length ≤ 200) (hy : 0 < y) (hm0 : 0 ≤ mode) (hm4 : mode ≤ 4) :
    Calls Try.prog 38 #[va, vb, .int .i64 mode] w fun e w' => ∃ v, e = .returned v ∧ ownsW w' w.heap.size v (mkW (fracI x y mode)) ∧ Below w.heap.size w w' := by
  have hlq := quot_len x y hy 200 hlx
  obtain ⟨hr0, hr1⟩ := rest_bd x y hy
  have hlr : (limbs (x - x / y * y).natAbs).length ≤ 200 := Nat.le_trans (limbs_mono (m := y.natAbs) (by omega)) hly
  have hlm : (limbs (x / y * y).natAbs).length ≤ 401 := by
    rw [Int.natAbs_mul]
    have := mul_limbs_len (x / y).natAbs y.natAbs
    omega
  have hlu : (limbs ((x - x / y * y) * 2).natAbs).length ≤ 400 := by
    rw [Int.natAbs_mul]
    have := mul_limbs_len (x - x / y * y).natAbs (2 : Int).natAbs
    have h2 : (limbs (2 : Int).natAbs).length ≤ 1 := limbs_len_le _ 1 (by decide)
    omega
  have kD := fun W (h : Below w.heap.size w W) => sWDiv va vb x y W (ha.below h (Nat.le_refl _)) (hb.below h (Nat.le_refl _)) (by omega) (by omega) hy
  have kM := fun v W (h : Below w.heap.size w W) (q : rowW W v (mkW (x / y))) => sWMul v vb (x / y) y W q (hb.below h (Nat.le_refl _)) (by omega) (by omega)
  have kS := fun v W (h : Below w.heap.size w W) (q : rowW W v (mkW (x / y * y))) => sWSub va v x (x / y * y) W (ha.below h (Nat.le_refl _)) q (by omega) (by omega)
  have kU : ∀ v W, rowW W v (mkW (x - x / y * y)) → Calls Try.prog 19 #[v, .int .i64 1] W fun e w' => ∃ v, e = .returned v ∧ ownsW w' W.heap.size v (mkW ((x - x / y * y) * 2)) ∧ Below W.heap.size W w' := fun v W q => by
    have := sWUp v (x - x / y * y) 1 W q (by omega) (by omega)
    rw [Int.pow_one] at this
    exact this
  have kC := fun v W (h : Below w.heap.size w W) (q : rowW W v (mkW ((x - x / y * y) * 2))) => sWCmp v vb ((x - x / y * y) * 2) y W q (hb.below h (Nat.le_refl _)) (by omega) (by omega)
  have kP := fun v base W (q : ownsW W base v (mkW (x / y))) => sPick v (x / y) (decide (x - x / y * y = 0)) (cmpZ ((x - x / y * y) * 2) y) mode base W q (by omega) hm0 hm4
  have hfr : pickI (x / y) (decide (x - x / y * y = 0)) (cmpZ ((x - x / y * y) * 2) y) mode = fracI x y mode := rfl
  rw [hfr] at kP
  have hz0 : (((mkW (x - x / y * y)).2.length : Int) == 0) = decide (x - x / y * y = 0) := by
    by_cases h : x - x / y * y = 0
    · rw [h, mkW_zero]; rfl
    · have hp : 0 < (mkW (x - x / y * y)).2.length := by
        show 0 < (limbs (x - x / y * y).natAbs).length
        rw [limbs_pos _ (by omega)]; simp
      rw [decide_eq_false h, beq_eq_false_iff_ne]
      omega
  obtain ⟨s, rfl, hs⟩ := ha
  obtain ⟨t, rfl, ht⟩ := hb
  obtain ⟨a1, c1, rfl, -⟩ := id hs
  obtain ⟨a2, c2, rfl, -⟩ := id ht
  clear hs ht hlx hly hlq hlr hlm hlu hr0 hr1 hfr hy hm0 hm4
  generalize fracI x y mode = fz at *
  generalize cmpZ ((x - x / y * y) * 2) y = cm at *
  generalize decide (x - x / y * y = 0) = dz at *
  generalize mkW ((x - x / y * y) * 2) = ru at *
  generalize mkW (x - x / y * y) = rr at *
  generalize mkW (x / y * y) = rm at *
  generalize mkW (x / y) = rq at *
  generalize (mkW x).1 = na at *
  generalize (mkW x).2.length = la at *
  generalize (mkW y).1 = nb at *
  generalize (mkW y).2.length = lb at *
  obtain ⟨nr, lr, hm5⟩ : ∃ nb lb, mkW fz = (nb, lb) := ⟨_, _, rfl⟩
  rw [hm5] at kP
  rw [hm5]
  clear hm5
  have s1 : (w.alloc (.cells #[.bool na, .slice a1 la c1] 28)).heap.size = w.heap.size + 1 := by simp
  have s2 : ((w.alloc (.cells #[.bool na, .slice a1 la c1] 28)).alloc (.cells #[.bool nb, .slice a2 lb c2] 28)).heap.size = w.heap.size + 1 + 1 := by simp
  have A1 := ((BoxW.made w (.bool na) (.slice a1 la c1) 28).below (below1 _ (.cells #[.bool nb, .slice a2 lb c2] 28)) (Nat.le_refl _)).below (below1 _ (.cells #[.bool false, .slice none 0 0] 28)) (Nat.le_refl _)
  have C1 := (BoxW.made (w.alloc (.cells #[.bool na, .slice a1 la c1] 28)) (.bool nb) (.slice a2 lb c2) 28).below (below1 _ (.cells #[.bool false, .slice none 0 0] 28)) (Nat.le_refl _)
  rw [s1] at C1
  have R1 := BoxW.made ((w.alloc (.cells #[.bool na, .slice a1 la c1] 28)).alloc (.cells #[.bool nb, .slice a2 lb c2] 28)) (.bool false) (.slice none 0 0) 28
  rw [s2] at R1
  have B := below3 w (.cells #[.bool na, .slice a1 la c1] 28) (.cells #[.bool nb, .slice a2 lb c2] 28) (.cells #[.bool false, .slice none 0 0] 28)
  clear s1 s2
  go_enter Try.func38, Try.ntmps38
  go_wp2_with fail
  refine (kD _ B).mono ?_
  generalize ((w.alloc (.cells #[.bool na, .slice a1 la c1] 28)).alloc (.cells #[.bool nb, .slice a2 lb c2] 28)).alloc (.cells #[.bool false, .slice none 0 0] 28) = w0 at *
  rintro e w1 ⟨vq, rfl, oq, b1⟩
  have B1 := B.trans (b1.mono B.size)
  have A2 := A1.below b1 (Nat.le_refl _)
  have C2 := C1.below b1 (Nat.le_refl _)
  have R2 := R1.below b1 (Nat.le_refl _)
  obtain ⟨sq, rfl, hq⟩ := id oq
  obtain ⟨aq, cq, rfl, -⟩ := hq.row
  clear hq
  have Q3 := BoxW.made w1 (.bool rq.1) (.slice aq rq.2.length cq) 28
  have bq := below1 w1 (.cells #[.bool rq.1, .slice aq rq.2.length cq] 28)
  have oq3 := oq.below bq (Nat.le_refl _)
  have hR1 := R1.hi
  have A3 := A2.below bq (Nat.le_refl _)
  have C3 := C2.below bq (Nat.le_refl _)
  have R3 := R2.below bq (Nat.le_refl _)
  have B3 := B1.trans (bq.mono B1.size)
  have hR2 := R2.hi
  clear A1 C1 R1 A2 C2 R2 kD oq bq
  go_wp2_with fail
  generalize w1.alloc (.cells #[.bool rq.1, .slice aq rq.2.length cq] 28) = w2 at *
  generalize w1.heap.size = f7 at *
  have oAx := A3
  have oBx := C3
  have oQx := Q3
  have hlo := Q3.hi
  have hR3 := R3.hi
  apply wp_cutW (r := rr) (base := w2.heap.size) (W := w2)
  case hA =>
    obtain ⟨vs1, -⟩ : ∃ v : Value, v = v := ⟨undef, rfl⟩
    have C0 : Below w2.heap.size w2 w2.drew := (Below.refl w2.heap.size w2).drew
    have hC0 : w2.heap.size ≤ w2.drew.heap.size := C0.size
    have kAx := oAx.below C0 (Nat.le_refl _)
    have kBx := oBx.below C0 (Nat.le_refl _)
    have kQx := oQx.below C0 (Nat.le_refl _)
    have kAx0 := kAx.c0
    have kAx1 := kAx.c1
    have kBx0 := kBx.c0
    have kBx1 := kBx.c1
    have kQx0 := kQx.c0
    have kQx1 := kQx.c1
    have CZ : Below w2.heap.size w2 (w2.alloc (.cells #[.bool false, .slice none 0 0] 28)).drew := (below1 w2 (.cells #[.bool false, .slice none 0 0] 28)).drew
    have hCZ : w2.heap.size ≤ (w2.alloc (.cells #[.bool false, .slice none 0 0] 28)).drew.heap.size := CZ.size
    have obz := (BoxW.made w2 (.bool false) (.slice none 0 0) 28).below ((Below.refl (w2.alloc (.cells #[.bool false, .slice none 0 0] 28)).heap.size (w2.alloc (.cells #[.bool false, .slice none 0 0] 28))).drew) (Nat.le_refl _)
    have hbz : w2.heap.size < (w2.alloc (.cells #[.bool false, .slice none 0 0] 28)).drew.heap.size := obz.hi
    have kzAx := oAx.below CZ (Nat.le_refl _)
    have kzAx0 := kzAx.c0
    have kzAx1 := kzAx.c1
    have kzBx := oBx.below CZ (Nat.le_refl _)
    have kzBx0 := kzBx.c0
    have kzBx1 := kzBx.c1
    have kzQx := oQx.below CZ (Nat.le_refl _)
    have kzQx0 := kzQx.c0
    have kzQx1 := kzQx.c1
    have hiAx := oAx.hi
    have hiBx := oBx.hi
    have hiQx := oQx.hi
    have nzAx : ¬ (w2.heap.size = w.heap.size) := by omega
    have nyAx : ¬ (w.heap.size = w2.heap.size) := by omega
    have nzBx : ¬ (w2.heap.size = w.heap.size + 1) := by omega
    have nyBx : ¬ (w.heap.size + 1 = w2.heap.size) := by omega
    have nzQx : ¬ (w2.heap.size = f7) := by omega
    have nyQx : ¬ (f7 = w2.heap.size) := by omega
    go_region_held (fun w' => w'.cell? ⟨w.heap.size, 0, none⟩ = some (.bool na) ∧ w'.cell? ⟨w.heap.size, 1, none⟩ = some (.slice a1 la c1) ∧ w'.cell? ⟨w.heap.size + 1, 0, none⟩ = some (.bool nb) ∧ w'.cell? ⟨w.heap.size + 1, 1, none⟩ = some (.slice a2 lb c2) ∧ w'.cell? ⟨f7, 0, none⟩ = some (.bool rq.1) ∧ w'.cell? ⟨f7, 1, none⟩ = some (.slice aq rq.2.length cq)) (go_keep) (first
      | (go_at_call 60
         (first
           | (refine (kM _ (w2.drew) (B3.trans (C0.mono B3.size)) (oq3.below C0 (Nat.le_refl _)).row).mono ?_; rintro e wc1 ⟨vs0, rfl, os0, bb1⟩; have C1 := C0.trans (bb1.mono hC0); have hC1 := Nat.le_trans hC0 bb1.size)
           | (refine (kM _ ((w2.alloc (.cells #[.bool false, .slice none 0 0] 28)).drew) (B3.trans (CZ.mono B3.size)) (oq3.below CZ (Nat.le_refl _)).row).mono ?_; rintro e wc1 ⟨vs0, rfl, os0, bb1⟩; have C1 := CZ.trans (bb1.mono hCZ); have hC1 := Nat.le_trans hCZ bb1.size; have obx := obz.below bb1 (Nat.le_refl _); have hbx := Nat.lt_of_lt_of_le hbz bb1.size)
           )
         have kAx := oAx.below C1 (Nat.le_refl _)
         have kBx := oBx.below C1 (Nat.le_refl _)
         have kQx := oQx.below C1 (Nat.le_refl _)
         have kAx0 := kAx.c0
         have kAx1 := kAx.c1
         have kBx0 := kBx.c0
         have kBx1 := kBx.c1
         have kQx0 := kQx.c0
         have kQx1 := kQx.c1)
      | (go_at_call 21
         (first
           | (have qx := obx; refine (kS vs0 (wc1) (B3.trans (C1.mono B3.size)) os0.row).mono ?_; rintro e wc2 ⟨vF, rfl, oF, bb2⟩; have os0 := os0.below bb2 (Nat.le_refl _); have hBF := hC1; have hXF := qx.hi; have C2 := C1.trans (bb2.mono hC1); have hC2 := Nat.le_trans hC1 bb2.size; have obx := qx.below bb2 (Nat.le_refl _); clear qx)
           | (refine (kS vs0 (wc1) (B3.trans (C1.mono B3.size)) os0.row).mono ?_; rintro e wc2 ⟨vF, rfl, oF, bb2⟩; have os0 := os0.below bb2 (Nat.le_refl _); have hBF := hC1; have C2 := C1.trans (bb2.mono hC1); have hC2 := Nat.le_trans hC1 bb2.size)
           | (have CA := C1.alloc hC1 (.cells #[.bool false, .slice none 0 0] 28); refine (kS vs0 ((wc1.alloc (.cells #[.bool false, .slice none 0 0] 28))) (B3.trans (CA.mono B3.size)) (os0.below (below1 wc1 (.cells #[.bool false, .slice none 0 0] 28)) (Nat.le_refl _)).row).mono ?_; rintro e wc2 ⟨vF, rfl, oF, bb2⟩; have os0 := (os0.below (below1 wc1 (.cells #[.bool false, .slice none 0 0] 28)) (Nat.le_refl _)).below bb2 (Nat.le_refl _); have hBF : w2.heap.size ≤ (wc1.alloc (.cells #[.bool false, .slice none 0 0] 28)).heap.size := Nat.le_trans hC1 (below1 wc1 (.cells #[.bool false, .slice none 0 0] 28)).size; have hXF : wc1.heap.size < (wc1.alloc (.cells #[.bool false, .slice none 0 0] 28)).heap.size := (by simp); have C2 := CA.trans (bb2.mono (Nat.le_trans hC1 (below1 wc1 (.cells #[.bool false, .slice none 0 0] 28)).size)); have hC2 := Nat.le_trans (Nat.le_trans hC1 (below1 wc1 (.cells #[.bool false, .slice none 0 0] 28)).size) bb2.size; have obx := ((BoxW.made wc1 (.bool false) (.slice none 0 0) 28).mono hC1).below bb2 (Nat.le_refl _); have hbx : wc1.heap.size < (wc1.alloc (.cells #[.bool false, .slice none 0 0] 28)).heap.size := (by simp); have naAx : ¬ (wc1.heap.size = w.heap.size) := (by omega); have nbAx : ¬ (w.heap.size = wc1.heap.size) := (by omega); have naBx : ¬ (wc1.heap.size = w.heap.size + 1) := (by omega); have nbBx : ¬ (w.heap.size + 1 = wc1.heap.size) := (by omega); have naQx : ¬ (wc1.heap.size = f7) := (by omega); have nbQx : ¬ (f7 = wc1.heap.size) := (by omega))
           )
         have kAx := oAx.below C2 (Nat.le_refl _)
         have kBx := oBx.below C2 (Nat.le_refl _)
         have kQx := oQx.below C2 (Nat.le_refl _)
         have kAx0 := kAx.c0
         have kAx1 := kAx.c1
         have kBx0 := kBx.c0
         have kBx1 := kBx.c1
         have kQx0 := kQx.c0
         have kQx1 := kQx.c1
         obtain ⟨sF, rfl, hqF⟩ := id oF
         obtain ⟨ad, cp, rfl, -⟩ := hqF.row
         clear hqF
         have nuAx : ¬ (wc2.heap.size = w.heap.size) := by omega
         have nvAx : ¬ (w.heap.size = wc2.heap.size) := by omega
         have nuBx : ¬ (wc2.heap.size = w.heap.size + 1) := by omega
         have nvBx : ¬ (w.heap.size + 1 = wc2.heap.size) := by omega
         have nuQx : ¬ (wc2.heap.size = f7) := by omega
         have nvQx : ¬ (f7 = wc2.heap.size) := by omega
         (try have ox0 := obx.c0)
         (try have ox1 := obx.c1)
         (try have ox2 := obx.f0)
         (try have ox3 := obx.f1))
      )
    all_goals first
      | (have hcut := cut_old obx oF hBF hXF C2 (.bool rr.1) (.slice ad rr.2.length cp); exact cutM_in vs0 vs1 ad cp _ rfl hcut)
      | (have hcut := cut_new oF hBF hC2 C2 28 (.bool rr.1) (.slice ad rr.2.length cp); generalize wc2.heap.size = bx at *; exact cutM_in vs0 vs1 ad cp bx rfl hcut)
  intro vs0 vs1 ad3 cp3 bk w3 oN oX dX b3
  have hbk : w2.heap.size ≤ bk := oX.lo
  have C4 := C3.below b3 (Nat.le_refl _)
  have Q4 := Q3.below b3 (Nat.le_refl _)
  have R4 := R3.below b3 (Nat.le_refl _)
  have B4 := B3.trans (b3.mono B3.size)
  have oq4 := oq3.below b3 (Nat.le_refl _)
  clear A3 C3 Q3 R3 oAx oBx oQx oq3 b3 B3 kM kS
  go_wp2_with fail
  have bd := (Below.refl w3.heap.size w3).drew
  have C5 := C4.below bd (Nat.le_refl _)
  have Q5 := Q4.below bd (Nat.le_refl _)
  have R5 := R4.below bd (Nat.le_refl _)
  have X5 := oX.below bd (Nat.le_refl _)
  have B5 := B4.trans (bd.mono B4.size)
  have oN5 := oN.below bd (Nat.le_refl _)
  have c05 := C5.c0
  have c15 := C5.c1
  have q05 := Q5.c0
  have q15 := Q5.c1
  have x05 := X5.c0
  have x15 := X5.c1
  have n1 : ¬ (f7 = w.heap.size + 1 + 1) := by omega
  have n2 : ¬ (w.heap.size + 1 + 1 = f7) := by omega
  have n3 : ¬ (bk = w.heap.size + 1 + 1) := by omega
  have n4 : ¬ (w.heap.size + 1 + 1 = bk) := by omega
  have n5 : ¬ (w.heap.size + 1 = w.heap.size + 1 + 1) := by omega
  have n6 : ¬ (w.heap.size + 1 + 1 = w.heap.size + 1) := by omega
  go_region_held (fun w' => w'.cell? ⟨w.heap.size + 1, 0, none⟩ = some (.bool nb) ∧ w'.cell? ⟨w.heap.size + 1, 1, none⟩ = some (.slice a2 lb c2) ∧ w'.cell? ⟨f7, 0, none⟩ = some (.bool rq.1) ∧ w'.cell? ⟨f7, 1, none⟩ = some (.slice aq rq.2.length cq) ∧ w'.cell? ⟨bk, 0, none⟩ = some (.bool rr.1) ∧ w'.cell? ⟨bk, 1, none⟩ = some (.slice ad3 rr.2.length cp3)) (go_keep)
    (first
      | (go_at_call 19
         refine (kU _ _ oN5.row).mono ?_
         rintro e w6 ⟨v6, rfl, o6, b6⟩
         have C6 := C5.below b6 (Nat.le_refl _)
         have Q6 := Q5.below b6 (Nat.le_refl _)
         have R6 := R5.below b6 (Nat.le_refl _)
         have X6 := X5.below b6 (Nat.le_refl _)
         have B6 := B5.trans (b6.mono B5.size)
         have c06 := C6.c0
         have c16 := C6.c1
         have q06 := Q6.c0
         have q16 := Q6.c1
         have x06 := X6.c0
         have x16 := X6.c1
         have oq6 := (oq4.below bd (Nat.le_refl _)).below b6 (Nat.le_refl _))
      | (go_at_call 15
         refine (kC _ w6 B6 o6.row).mono ?_
         rintro e w7 ⟨rfl, b7⟩
         have C7 := C6.below b7 (Nat.le_refl _)
         have Q7 := Q6.below b7 (Nat.le_refl _)
         have R7 := R6.below b7 (Nat.le_refl _)
         have X7 := X6.below b7 (Nat.le_refl _)
         have B7 := B6.trans (b7.mono B6.size)
         have c07 := C7.c0
         have c17 := C7.c1
         have q07 := Q7.c0
         have q17 := Q7.c1
         have x07 := X7.c0
         have x17 := X7.c1
         have oq7 := oq6.below b7 (Nat.le_refl _))
      | (go_at_call 61
         refine (kP _ _ w7 oq7).mono ?_
         rintro e w8 ⟨v8, rfl, o8, b8⟩
         have C8 := C7.below b8 (Nat.le_refl _)
         have Q8 := Q7.below b8 (Nat.le_refl _)
         have R8 := R7.below b8 (Nat.le_refl _)
         have X8 := X7.below b8 (Nat.le_refl _)
         have B8 := B7.trans (b8.mono B7.size)
         have c08 := C8.c0
         have c18 := C8.c1
         have q08 := Q8.c0
         have q18 := Q8.c1
         have x08 := X8.c0
         have x18 := X8.c1
         obtain ⟨s8, rfl, z8⟩ := o8
         obtain ⟨ad8, cp8, rfl, -⟩ := z8.row
         have r08 := R8.c0
         have r18 := R8.c1
         have f08 := R8.f0
         have f18 := R8.f1))
  have hR8 : w.heap.size + 1 + 1 < min w0.heap.size w7.heap.size := by have := R7.hi; omega
  have o6' := ownsRow_setCell_below (a := ⟨w.heap.size + 1 + 1, 0, none⟩) z8 (by exact hR8) (.bool nr)
  have o7' := ownsRow_setCell_below (a := ⟨w.heap.size + 1 + 1, 1, none⟩) o6' (by exact hR8) (.slice ad8 lr.length cp8)
  have HO : Hid (World.ownsRow _ w.heap.size 3 1 (.slice ad8 lr.length cp8) lr.length (lr.map (Value.int .i64))) := ownsRow_mono o7' (by omega)
  have HB : Hid (Below w.heap.size w _) := (B8.setCell (p := ⟨w.heap.size + 1 + 1, 0, none⟩) (by show w.heap.size ≤ w.heap.size + 1 + 1; omega) (.bool nr)).setCell (p := ⟨w.heap.size + 1 + 1, 1, none⟩) (by show w.heap.size ≤ w.heap.size + 1 + 1; omega) (.slice ad8 lr.length cp8)
  clear z8 o6' o7'
  go_wp2
  (try simp only [Exit.inBlock, Exit.then])
  refine bodyPost_ret (v := .agg #[.bool nr, .slice ad8 lr.length cp8]) ?_ rfl ⟨_, rfl, ⟨_, rfl, HO.out⟩, HB.out⟩
  rw [results_cell1 rfl]
  go_simp

end Go.Proofs.Ytnplnekfeabneaa
