/- The specification's l4Floor, by its contract. -/
import Derived.Test.YtdpcobcaodlgiaaSWUp
import Derived.Test.YtdpcobcaodlgiaaSDown
import Derived.Test.YtdpcobcaodlgiaaGB
import Derived.Test.YtdpcobcaodlgiaaOne
namespace Go.Proofs.Ytdpcobcaodlgiaa
open Go.RowKit
set_option linter.unusedSimpArgs false

theorem ediv_is {x z P : Int} (hP : 0 < P) (h1 : z * P ≤ x) (h2 : x < z * P + P) : x / P = z := by
  have h3 := (Int.le_ediv_iff_mul_le hP).2 h1
  have h4 : x / P < z + 1 := (Int.ediv_lt_iff_lt_mul hP).2 (by rw [Int.add_mul, Int.one_mul]; exact h2)
  omega
theorem succ_len (m : Nat) : (limbs (m + 1)).length ≤ (limbs m).length + 1 := by
  have h1 := limbs_lt m
  refine limbs_len_le _ _ ?_
  rw [Nat.pow_succ]
  have h2 : 0 < 16777216 ^ (limbs m).length := Nat.pow_pos (by omega)
  omega
theorem floor_pos (m k : Nat) : ((m / 2 ^ k : Nat) : Int) = (m : Int) / 2 ^ k := by simp
theorem floor_neg (m k : Nat) : (m / 2 ^ k * 2 ^ k = m → -((m / 2 ^ k : Nat) : Int) = -(m : Int) / 2 ^ k) ∧ (m / 2 ^ k * 2 ^ k ≠ m → -((m / 2 ^ k + 1 : Nat) : Int) = -(m : Int) / 2 ^ k) := by
  have hP : (0 : Int) < 2 ^ k := Int.pow_pos (by omega)
  have e1 : ((2 ^ k : Nat) : Int) = (2 : Int) ^ k := by simp
  have hd := Nat.div_add_mod m (2 ^ k)
  have hm := Nat.mod_lt m (show 0 < 2 ^ k from Nat.pow_pos (by omega))
  rw [Nat.mul_comm] at hd
  have hd' : ((m / 2 ^ k : Nat) : Int) * 2 ^ k + ((m % 2 ^ k : Nat) : Int) = (m : Int) := by rw [← e1]; exact_mod_cast hd
  constructor
  · intro h
    symm
    apply ediv_is hP
    · have : ((m / 2 ^ k : Nat) : Int) * 2 ^ k = (m : Int) := by rw [← e1]; exact_mod_cast h
      rw [Int.neg_mul]; omega
    · have : ((m / 2 ^ k : Nat) : Int) * 2 ^ k = (m : Int) := by rw [← e1]; exact_mod_cast h
      rw [Int.neg_mul]; omega
  · intro h
    have hr : 0 < m % 2 ^ k := by
      apply Nat.pos_of_ne_zero
      intro h0
      exact h (by omega)
    symm
    apply ediv_is hP
    · rw [Int.neg_mul, show ((m / 2 ^ k + 1 : Nat) : Int) = ((m / 2 ^ k : Nat) : Int) + 1 by omega, Int.add_mul, Int.one_mul]
      omega
    · rw [Int.neg_mul, show ((m / 2 ^ k + 1 : Nat) : Int) = ((m / 2 ^ k : Nat) : Int) + 1 by omega, Int.add_mul, Int.one_mul]
      omega

set_option maxRecDepth 20000 in
set_option maxHeartbeats 3200000 in
theorem sWFloor (va : Value) (x : Int) (k : Nat) (w : World) (ha : rowW w va (mkW x)) (hlx : (limbs x.natAbs).length ≤ 10000) (hk : k ≤ 100000) :
    Calls Try.prog 34 #[va, .int .i64 k] w fun e w' => ∃ v, e = .returned v ∧ ownsW w' w.heap.size v (mkW (x / 2 ^ k)) ∧ Below w.heap.size w w' := by
  obtain ⟨s, rfl, hs⟩ := ha
  have hs' : rowI w s (limbs x.natAbs) := hs
  have sx := signed x
  obtain ⟨a1, c1, rfl, -⟩ := id hs'
  have kD := fun W (h : Below w.heap.size w W) => sDown _ (limbs x.natAbs) k W (hs'.below h (Nat.le_refl _)) (limbs_inR _) (by omega) (by omega)
  simp only [num_limbs] at kD
  have hlq : (limbs (x.natAbs / 2 ^ k)).length ≤ 10000 := Nat.le_trans (limbs_mono (Nat.div_le_self _ _)) hlx
  have kU := fun v W base (o : ownsI W base v (limbs (x.natAbs / 2 ^ k))) => sUp v (limbs (x.natAbs / 2 ^ k)) k W o.row (limbs_inR _) (by omega) (by omega)
  simp only [num_limbs] at kU
  have hle : x.natAbs / 2 ^ k * 2 ^ k ≤ x.natAbs := Nat.div_mul_le_self _ _
  have hlu : (limbs (x.natAbs / 2 ^ k * 2 ^ k)).length ≤ 10000 := Nat.le_trans (limbs_mono hle) hlx
  have kC := fun v W base (o : ownsI W base v (limbs (x.natAbs / 2 ^ k * 2 ^ k))) (h : Below w.heap.size w W) => sCmp v _ (limbs (x.natAbs / 2 ^ k * 2 ^ k)) (limbs x.natAbs) W o.row (hs'.below h (Nat.le_refl _)) (limbs_inR _) (limbs_inR _) (by omega) (by omega)
  simp only [num_limbs] at kC
  obtain ⟨nr, lr, hm5⟩ : ∃ nb lb, mkW (x / 2 ^ k) = (nb, lb) := ⟨_, _, rfl⟩
  have hfp := floor_pos x.natAbs k
  have hfn := floor_neg x.natAbs k
  obtain ⟨na, hna⟩ : ∃ n, (mkW x).1 = n := ⟨_, rfl⟩
  rw [hm5, hna]
  rw [hna] at sx
  cases na
  · have hz : (if false = true then -((x.natAbs / 2 ^ k : Nat) : Int) else ((x.natAbs / 2 ^ k : Nat) : Int)) = x / 2 ^ k := by
      simp only [Bool.false_eq_true, if_false] at sx ⊢
      rw [hfp, sx]
    have kM := fun v4 w4 base (h : ownsI w4 base v4 (limbs (x.natAbs / 2 ^ k))) => sMake false v4 (x.natAbs / 2 ^ k) base w4 h (by omega)
    rw [hz, hm5] at kM
    clear hm5 hs hs' hlx sx hz kU kC hle hlu hfp hfn hna
    generalize x.natAbs = mx at *
    have s1 : (w.alloc (.cells #[.bool false, .slice a1 (limbs mx).length c1] 28)).heap.size = w.heap.size + 1 := by simp
    have A1 := (BoxW.made w (.bool false) (.slice a1 (limbs mx).length c1) 28).below (below1 _ (.cells #[.bool false, .slice none 0 0] 28)) (Nat.le_refl _)
    have R1 := BoxW.made (w.alloc (.cells #[.bool false, .slice a1 (limbs mx).length c1] 28)) (.bool false) (.slice none 0 0) 28
    rw [s1] at R1
    have B := below2 w (.cells #[.bool false, .slice a1 (limbs mx).length c1] 28) (.cells #[.bool false, .slice none 0 0] 28)
    have hi2 := R1.lt4
    clear s1
    go_enter Try.func34, Try.ntmps34
    go_wp2_with fail
    refine (kD _ B).mono ?_
    generalize (w.alloc (.cells #[.bool false, .slice a1 (limbs mx).length c1] 28)).alloc (.cells #[.bool false, .slice none 0 0] 28) = w2 at *
    rintro e w3 ⟨v3, rfl, o3, b3⟩
    have B3 := B.trans (b3.mono B.size)
    have A3 := A1.below b3 (Nat.le_refl _)
    have R3 := R1.below b3 (Nat.le_refl _)
    have hs3 := B3.size
    clear A1 R1 kD
    go_wp2_with fail
    have bd := (Below.refl w3.heap.size w3).drew
    have A4 := A3.below bd (Nat.le_refl _)
    have R4 := R3.below bd (Nat.le_refl _)
    have o4 := ownsI.below o3 bd (Nat.le_refl _)
    have B4 := B3.trans (bd.mono B3.size)
    have c0 := A4.c0
    have c1' := A4.c1
    refine wp_region_held_drew (S := (fun w' => w'.cell? ⟨w.heap.size, 0, none⟩ = some (.bool false) ∧ w'.cell? ⟨w.heap.size, 1, none⟩ = some (.slice a1 (limbs mx).length c1))) (by kernel_rfl) ⟨c0, c1'⟩ ?_
    intro hHeld
    refine takeH 0 (some 10) (.pointer (some ⟨w.heap.size, 0, none⟩)) rfl rfl (by kernel_rfl) (by kernel_rfl) (by kernel_rfl) (fun _ _ _ h => h) (Or.inl ⟨rfl, fun W hW => by obtain ⟨q0, q1⟩ := hW; go_simp⟩) (by assumption) ?_
    simp only [Act.put, List.setIfInBounds_toArray, List.set_cons_zero, List.set_cons_succ]
    refine takeH 1 (some 11) (.bool false) rfl rfl (by kernel_rfl) (by kernel_rfl) (by kernel_rfl) (fun _ _ _ h => h) (Or.inl ⟨rfl, fun W hW => by obtain ⟨q0, q1⟩ := hW; go_simp⟩) (by assumption) ?_
    simp only [Act.put, List.setIfInBounds_toArray, List.set_cons_zero, List.set_cons_succ]
    refine takeH 2 (some 12) (.bool false) rfl rfl (by kernel_rfl) (by kernel_rfl) (by kernel_rfl) (fun _ _ _ h => h) (Or.inl ⟨rfl, fun W hW => by obtain ⟨q0, q1⟩ := hW; go_simp⟩) (by assumption) ?_
    simp only [Act.put, List.setIfInBounds_toArray, List.set_cons_zero, List.set_cons_succ]
    refine takeH 3 (some 13) (undef) rfl rfl (by kernel_rfl) (by kernel_rfl) (by kernel_rfl) (fun _ _ _ h => h) (yg_skip rfl) (by assumption) ?_
    simp only [Act.put, List.setIfInBounds_toArray, List.set_cons_zero, List.set_cons_succ]
    refine takeH 4 (some 14) (undef) rfl rfl (by kernel_rfl) (by kernel_rfl) (by kernel_rfl) (fun _ _ _ h => h) (yg_skip rfl) (by assumption) ?_
    simp only [Act.put, List.setIfInBounds_toArray, List.set_cons_zero, List.set_cons_succ]
    refine takeH 5 (some 15) (undef) rfl rfl (by kernel_rfl) (by kernel_rfl) (by kernel_rfl) (fun _ _ _ h => h) (yg_skip rfl) (by assumption) ?_
    simp only [Act.put, List.setIfInBounds_toArray, List.set_cons_zero, List.set_cons_succ]
    refine takeH 6 (some 16) (undef) rfl rfl (by kernel_rfl) (by kernel_rfl) (by kernel_rfl) (fun _ _ _ h => h) (yg_skip rfl) (by assumption) ?_
    simp only [Act.put, List.setIfInBounds_toArray, List.set_cons_zero, List.set_cons_succ]
    refine takeH 7 (some 17) (undef) rfl rfl (by kernel_rfl) (by kernel_rfl) (by kernel_rfl) (fun _ _ _ h => h) (yg_skip rfl) (by assumption) ?_
    simp only [Act.put, List.setIfInBounds_toArray, List.set_cons_zero, List.set_cons_succ]
    refine takeH 8 (some 18) (undef) rfl rfl (by kernel_rfl) (by kernel_rfl) (by kernel_rfl) (fun _ _ _ h => h) (yg_skip rfl) (by assumption) ?_
    simp only [Act.put, List.setIfInBounds_toArray, List.set_cons_zero, List.set_cons_succ]
    refine takeH 9 (some 19) (undef) rfl rfl (by kernel_rfl) (by kernel_rfl) (by kernel_rfl) (fun _ _ _ h => h) (yg_skip rfl) (by assumption) ?_
    simp only [Act.put, List.setIfInBounds_toArray, List.set_cons_zero, List.set_cons_succ]
    refine takeH 10 (some 20) (.bool false) rfl rfl (by kernel_rfl) (by kernel_rfl) (by kernel_rfl) (fun _ _ _ h => h) (yg_pick rfl (.tmp 12) (.tmp 19) (.const (.bool false)) rfl false rfl _ rfl) (by assumption) ?_
    simp only [Act.put, List.setIfInBounds_toArray, List.set_cons_zero, List.set_cons_succ]
    refine wpAnyH_done (by kernel_rfl) ?_ _
    have A9 := A4
    have R9 := R4
    have B9 := B4
    have o9 := o4
    have hiR : w.heap.size + 1 < w2.heap.size := hi2
    have hbase := B.size
    clear c0 c1'
    have g0 := A9.c0
    have g1 := A9.c1
    go_wp2_with fail
    refine (kM _ _ _ o9).mono ?_
    rintro e w10 ⟨v10, rfl, o10, b10⟩
    have B10 := B9.trans (b10.mono B9.size)
    have R10 := R9.below b10 (Nat.le_refl _)
    have q0 := R10.c0
    have q1 := R10.c1
    have f0 := R10.f0
    have f1 := R10.f1
    obtain ⟨s10, rfl, q10⟩ := o10
    obtain ⟨ad5, cp5, rfl, -⟩ := q10.row
    have o6 := ownsRow_setCell_below (a := ⟨w.heap.size + 1, 0, none⟩) q10 (by exact hiR) (.bool nr)
    have o7 := ownsRow_setCell_below (a := ⟨w.heap.size + 1, 1, none⟩) o6 (by exact hiR) (.slice ad5 lr.length cp5)
    have HO : Hid (World.ownsRow _ w.heap.size 3 1 (.slice ad5 lr.length cp5) lr.length (lr.map (Value.int .i64))) := ownsRow_mono o7 hbase
    have HB : Hid (Below w.heap.size w _) := (B10.setCell (p := ⟨w.heap.size + 1, 0, none⟩) (by show w.heap.size ≤ w.heap.size + 1; omega) (.bool nr)).setCell (p := ⟨w.heap.size + 1, 1, none⟩) (by show w.heap.size ≤ w.heap.size + 1; omega) (.slice ad5 lr.length cp5)
    clear o6 o7 q10 g0 g1
    go_wp2
    (try simp only [Exit.inBlock, Exit.then])
    refine bodyPost_ret (v := .agg #[.bool nr, .slice ad5 lr.length cp5]) ?_ rfl ⟨_, rfl, ⟨_, rfl, HO.out⟩, HB.out⟩
    rw [results_cell1 rfl]
    go_simp
  · simp only [if_true] at sx
    have hle2 := cmpI_le hle
    by_cases hq : x.natAbs / 2 ^ k * 2 ^ k = x.natAbs
    · have hz : (if true = true then -((x.natAbs / 2 ^ k : Nat) : Int) else ((x.natAbs / 2 ^ k : Nat) : Int)) = x / 2 ^ k := by
        rw [if_pos rfl, hfn.1 hq, sx]
      have kM := fun v4 w4 base (h : ownsI w4 base v4 (limbs (x.natAbs / 2 ^ k))) => sMake true v4 (x.natAbs / 2 ^ k) base w4 h (by omega)
      rw [hz, hm5] at kM
      have hc0 : cmpI (x.natAbs / 2 ^ k * 2 ^ k) x.natAbs = 0 := by rw [hq]; unfold cmpI; simp
      simp only [hc0] at kC
      clear hm5 hs hs' hlx sx hz hle hlu hfp hfn hna hq hc0 hle2
      generalize x.natAbs / 2 ^ k * 2 ^ k = mu at *
      generalize x.natAbs = mx at *
      have s1 : (w.alloc (.cells #[.bool true, .slice a1 (limbs mx).length c1] 28)).heap.size = w.heap.size + 1 := by simp
      have A1 := (BoxW.made w (.bool true) (.slice a1 (limbs mx).length c1) 28).below (below1 _ (.cells #[.bool false, .slice none 0 0] 28)) (Nat.le_refl _)
      have R1 := BoxW.made (w.alloc (.cells #[.bool true, .slice a1 (limbs mx).length c1] 28)) (.bool false) (.slice none 0 0) 28
      rw [s1] at R1
      have B := below2 w (.cells #[.bool true, .slice a1 (limbs mx).length c1] 28) (.cells #[.bool false, .slice none 0 0] 28)
      have hi2 := R1.lt4
      clear s1
      go_enter Try.func34, Try.ntmps34
      go_wp2_with fail
      refine (kD _ B).mono ?_
      generalize (w.alloc (.cells #[.bool true, .slice a1 (limbs mx).length c1] 28)).alloc (.cells #[.bool false, .slice none 0 0] 28) = w2 at *
      rintro e w3 ⟨v3, rfl, o3, b3⟩
      have B3 := B.trans (b3.mono B.size)
      have A3 := A1.below b3 (Nat.le_refl _)
      have R3 := R1.below b3 (Nat.le_refl _)
      have hs3 := B3.size
      clear A1 R1 kD
      go_wp2_with fail
      have bd := (Below.refl w3.heap.size w3).drew
      have A4 := A3.below bd (Nat.le_refl _)
      have R4 := R3.below bd (Nat.le_refl _)
      have o4 := ownsI.below o3 bd (Nat.le_refl _)
      have B4 := B3.trans (bd.mono B3.size)
      have c0 := A4.c0
      have c1' := A4.c1
      go_region_held (fun w' => w'.cell? ⟨w.heap.size, 0, none⟩ = some (.bool true) ∧ w'.cell? ⟨w.heap.size, 1, none⟩ = some (.slice a1 (limbs mx).length c1)) (go_keep)
        (first
          | (go_at_call 67
             refine (kU v3 _ _ o4).mono ?_
             rintro e w5 ⟨v5, rfl, o5, b5⟩
             have A5 := A4.below b5 (Nat.le_refl _)
             have R5 := R4.below b5 (Nat.le_refl _)
             have oq := ownsI.below o4 b5 (Nat.le_refl _)
             have B5 := B4.trans (b5.mono B4.size)
             have d0 := A5.c0
             have d1 := A5.c1)
          | (go_at_call 66
             refine (kC v5 w5 _ o5 B5).mono ?_
             rintro e w6 ⟨rfl, rfl⟩))
      have A9 := A5
      have R9 := R5
      have B9 := B5
      have o9 := oq
      have hiR : w.heap.size + 1 < w2.heap.size := hi2
      have hbase := B.size
      clear c0 c1' d0 d1
      have g0 := A9.c0
      have g1 := A9.c1
      go_wp2_with fail
      refine (kM _ _ _ o9).mono ?_
      rintro e w10 ⟨v10, rfl, o10, b10⟩
      have B10 := B9.trans (b10.mono B9.size)
      have R10 := R9.below b10 (Nat.le_refl _)
      have q0 := R10.c0
      have q1 := R10.c1
      have f0 := R10.f0
      have f1 := R10.f1
      obtain ⟨s10, rfl, q10⟩ := o10
      obtain ⟨ad5, cp5, rfl, -⟩ := q10.row
      have o6 := ownsRow_setCell_below (a := ⟨w.heap.size + 1, 0, none⟩) q10 (by exact hiR) (.bool nr)
      have o7 := ownsRow_setCell_below (a := ⟨w.heap.size + 1, 1, none⟩) o6 (by exact hiR) (.slice ad5 lr.length cp5)
      have HO : Hid (World.ownsRow _ w.heap.size 3 1 (.slice ad5 lr.length cp5) lr.length (lr.map (Value.int .i64))) := ownsRow_mono o7 hbase
      have HB : Hid (Below w.heap.size w _) := (B10.setCell (p := ⟨w.heap.size + 1, 0, none⟩) (by show w.heap.size ≤ w.heap.size + 1; omega) (.bool nr)).setCell (p := ⟨w.heap.size + 1, 1, none⟩) (by show w.heap.size ≤ w.heap.size + 1; omega) (.slice ad5 lr.length cp5)
      clear o6 o7 q10 g0 g1
      go_wp2
      (try simp only [Exit.inBlock, Exit.then])
      refine bodyPost_ret (v := .agg #[.bool nr, .slice ad5 lr.length cp5]) ?_ rfl ⟨_, rfl, ⟨_, rfl, HO.out⟩, HB.out⟩
      rw [results_cell1 rfl]
      go_simp
    · have hz : (if true = true then -((x.natAbs / 2 ^ k + 1 : Nat) : Int) else ((x.natAbs / 2 ^ k + 1 : Nat) : Int)) = x / 2 ^ k := by
        rw [if_pos rfl, hfn.2 hq, sx]
      have hlq1 := succ_len (x.natAbs / 2 ^ k)
      have kM := fun v4 w4 base (h : ownsI w4 base v4 (limbs (x.natAbs / 2 ^ k + 1))) => sMake true v4 (x.natAbs / 2 ^ k + 1) base w4 h (by omega)
      rw [hz, hm5] at kM
      have kP := fun v W base (o : ownsI W base v (limbs (x.natAbs / 2 ^ k))) vo (oo : rowI W vo [1]) => sPlus v vo (limbs (x.natAbs / 2 ^ k)) [1] W o.row oo (limbs_inR _) inR_one (by omega) (by simp)
      simp only [num_limbs, num_one] at kP
      have hc0 : cmpI (x.natAbs / 2 ^ k * 2 ^ k) x.natAbs = -1 := by unfold cmpI; rw [if_pos (by omega)]
      simp only [hc0] at kC
      clear hm5 hs hs' hlx sx hz hle hlu hfp hfn hna hq hc0 hle2 hlq1
      generalize x.natAbs / 2 ^ k * 2 ^ k = mu at *
      generalize x.natAbs = mx at *
      have s1 : (w.alloc (.cells #[.bool true, .slice a1 (limbs mx).length c1] 28)).heap.size = w.heap.size + 1 := by simp
      have A1 := (BoxW.made w (.bool true) (.slice a1 (limbs mx).length c1) 28).below (below1 _ (.cells #[.bool false, .slice none 0 0] 28)) (Nat.le_refl _)
      have R1 := BoxW.made (w.alloc (.cells #[.bool true, .slice a1 (limbs mx).length c1] 28)) (.bool false) (.slice none 0 0) 28
      rw [s1] at R1
      have B := below2 w (.cells #[.bool true, .slice a1 (limbs mx).length c1] 28) (.cells #[.bool false, .slice none 0 0] 28)
      have hi2 := R1.lt4
      clear s1
      go_enter Try.func34, Try.ntmps34
      go_wp2_with fail
      refine (kD _ B).mono ?_
      generalize (w.alloc (.cells #[.bool true, .slice a1 (limbs mx).length c1] 28)).alloc (.cells #[.bool false, .slice none 0 0] 28) = w2 at *
      rintro e w3 ⟨v3, rfl, o3, b3⟩
      have B3 := B.trans (b3.mono B.size)
      have A3 := A1.below b3 (Nat.le_refl _)
      have R3 := R1.below b3 (Nat.le_refl _)
      have hs3 := B3.size
      clear A1 R1 kD
      go_wp2_with fail
      have bd := (Below.refl w3.heap.size w3).drew
      have A4 := A3.below bd (Nat.le_refl _)
      have R4 := R3.below bd (Nat.le_refl _)
      have o4 := ownsI.below o3 bd (Nat.le_refl _)
      have B4 := B3.trans (bd.mono B3.size)
      have c0 := A4.c0
      have c1' := A4.c1
      go_region_held (fun w' => w'.cell? ⟨w.heap.size, 0, none⟩ = some (.bool true) ∧ w'.cell? ⟨w.heap.size, 1, none⟩ = some (.slice a1 (limbs mx).length c1)) (go_keep)
        (first
          | (go_at_call 67
             refine (kU v3 _ _ o4).mono ?_
             rintro e w5 ⟨v5, rfl, o5, b5⟩
             have A5 := A4.below b5 (Nat.le_refl _)
             have R5 := R4.below b5 (Nat.le_refl _)
             have oq := ownsI.below o4 b5 (Nat.le_refl _)
             have B5 := B4.trans (b5.mono B4.size)
             have d0 := A5.c0
             have d1 := A5.c1)
          | (go_at_call 66
             refine (kC v5 w5 _ o5 B5).mono ?_
             rintro e w6 ⟨rfl, rfl⟩))
      have oo := one_row w6
      have b6 := below1 w6 (.cells #[.int .i64 1] 3)
      have oq6 := ownsI.below oq b6 (Nat.le_refl _)
      have A6 := A5.below b6 (Nat.le_refl _)
      have R6 := R5.below b6 (Nat.le_refl _)
      have B6 := B5.trans (b6.mono B5.size)
      go_wp2_with fail
      refine (kP _ _ _ oq6 _ oo).mono ?_
      rintro e w7 ⟨v7, rfl, o9, b7⟩
      have A9 := A6.below b7 (Nat.le_refl _)
      have R9 := R6.below b7 (Nat.le_refl _)
      have B9 := B6.trans (b7.mono B6.size)
      have hiR := R6.lt4
      have hbase := B6.size
      clear c0 c1' d0 d1
      have g0 := A9.c0
      have g1 := A9.c1
      go_wp2_with fail
      refine (kM _ _ _ o9).mono ?_
      rintro e w10 ⟨v10, rfl, o10, b10⟩
      have B10 := B9.trans (b10.mono B9.size)
      have R10 := R9.below b10 (Nat.le_refl _)
      have q0 := R10.c0
      have q1 := R10.c1
      have f0 := R10.f0
      have f1 := R10.f1
      obtain ⟨s10, rfl, q10⟩ := o10
      obtain ⟨ad5, cp5, rfl, -⟩ := q10.row
      have o6 := ownsRow_setCell_below (a := ⟨w.heap.size + 1, 0, none⟩) q10 (by exact hiR) (.bool nr)
      have o7 := ownsRow_setCell_below (a := ⟨w.heap.size + 1, 1, none⟩) o6 (by exact hiR) (.slice ad5 lr.length cp5)
      have HO : Hid (World.ownsRow _ w.heap.size 3 1 (.slice ad5 lr.length cp5) lr.length (lr.map (Value.int .i64))) := ownsRow_mono o7 hbase
      have HB : Hid (Below w.heap.size w _) := (B10.setCell (p := ⟨w.heap.size + 1, 0, none⟩) (by show w.heap.size ≤ w.heap.size + 1; omega) (.bool nr)).setCell (p := ⟨w.heap.size + 1, 1, none⟩) (by show w.heap.size ≤ w.heap.size + 1; omega) (.slice ad5 lr.length cp5)
      clear o6 o7 q10 g0 g1
      go_wp2
      (try simp only [Exit.inBlock, Exit.then])
      refine bodyPost_ret (v := .agg #[.bool nr, .slice ad5 lr.length cp5]) ?_ rfl ⟨_, rfl, ⟨_, rfl, HO.out⟩, HB.out⟩
      rw [results_cell1 rfl]
      go_simp

end Go.Proofs.Ytdpcobcaodlgiaa
