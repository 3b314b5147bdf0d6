/- The specification's l4Div, by its contract. -/
import Derived.Test.YtjelmbkngjlefaaWB
import Derived.Test.YtjelmbkngjlefaaSDiv
import Derived.Test.YtjelmbkngjlefaaOne
namespace Go.Proofs.Ytjelmbkngjlefaa
open Go.RowKit
set_option linter.unusedSimpArgs false

theorem div_sign (m n : Nat) (hn : 0 < n) : (m % n = 0 → -((m / n : Nat) : Int) = -(m : Int) / n) ∧ (m % n ≠ 0 → -((m / n + 1 : Nat) : Int) = -(m : Int) / n) := by
  have hP : (0 : Int) < (n : Int) := by omega
  have hd := Nat.div_add_mod m n
  have hm := Nat.mod_lt m hn
  rw [Nat.mul_comm] at hd
  have hd' : ((m / n : Nat) : Int) * (n : Int) + ((m % n : Nat) : Int) = (m : Int) := by exact_mod_cast hd
  constructor
  · intro h
    symm
    apply ediv_is hP
    · rw [Int.neg_mul]; omega
    · rw [Int.neg_mul]; omega
  · intro h
    symm
    apply ediv_is hP
    · rw [Int.neg_mul, show ((m / n + 1 : Nat) : Int) = ((m / n : Nat) : Int) + 1 by omega, Int.add_mul, Int.one_mul]
      omega
    · rw [Int.neg_mul, show ((m / n + 1 : Nat) : Int) = ((m / n : Nat) : Int) + 1 by omega, Int.add_mul, Int.one_mul]
      omega

set_option maxRecDepth 20000 in
set_option maxHeartbeats 3200000 in
theorem sWDiv (va vb : Value) (x y : Int) (w : World) (ha : rowW w va (mkW x)) (hb : rowW w vb (mkW y)) (hlx : (limbs x.natAbs).length ≤ 10000) (hly : (limbs y.natAbs).length ≤ 10000) (hy : 0 < y) :
    Calls Try.prog 49 #[va, vb] w fun e w' => ∃ v, e = .returned v ∧ ownsW w' w.heap.size v (mkW (x / y)) ∧ Below w.heap.size w w' := by
  obtain ⟨s, rfl, hs⟩ := ha
  obtain ⟨t, rfl, ht⟩ := hb
  have hs' : rowI w s (limbs x.natAbs) := hs
  have ht' : rowI w t (limbs y.natAbs) := ht
  have sx := signed x
  obtain ⟨a1, c1, rfl, -⟩ := id hs'
  obtain ⟨a2, c2, rfl, -⟩ := id ht'
  have kD := fun W (h : Below w.heap.size w W) => sDiv _ _ (limbs x.natAbs) (limbs y.natAbs) W (hs'.below h (Nat.le_refl _)) (ht'.below h (Nat.le_refl _)) ⟨limbs_inR _, limbs_noZ _⟩ ⟨limbs_inR _, limbs_noZ _⟩ (by omega) (by omega) (by rw [num_limbs]; omega)
  simp only [num_limbs] at kD
  have hlq : (limbs (x.natAbs / y.natAbs)).length ≤ 10000 := Nat.le_trans (limbs_mono (Nat.div_le_self _ _)) hlx
  have hyn : (y.natAbs : Int) = y := by omega
  have hds := div_sign x.natAbs y.natAbs (by omega)
  rw [hyn] at hds
  obtain ⟨nr, lr, hm5⟩ : ∃ nb lb, mkW (x / y) = (nb, lb) := ⟨_, _, rfl⟩
  rw [hm5]
  obtain ⟨na, hna⟩ : ∃ b, (mkW x).1 = b := ⟨_, rfl⟩
  rw [hna] at sx ⊢
  obtain ⟨nb, hnb⟩ : ∃ b, (mkW y).1 = b := ⟨_, rfl⟩
  rw [hnb]
  clear hna hnb hs ht hs' ht' hly
  cases na
  · have hz : (if false = true then -((x.natAbs / y.natAbs : Nat) : Int) else ((x.natAbs / y.natAbs : Nat) : Int)) = x / y := by
      simp only [Bool.false_eq_true, if_false] at sx ⊢
      rw [Int.natCast_ediv, hyn, sx]
    have kM := fun v4 w4 base (h : ownsI w4 base v4 (limbs (x.natAbs / y.natAbs))) => sMake false v4 (x.natAbs / y.natAbs) base w4 h (by omega)
    rw [hz, hm5] at kM
    clear hm5 hlx sx hz hds hyn hy
    generalize x.natAbs / y.natAbs = mq at *
    generalize x.natAbs % y.natAbs = mr at *
    generalize x.natAbs = mx at *
    generalize y.natAbs = my at *
    have s1 : (w.alloc (.cells #[.bool false, .slice a1 (limbs mx).length c1] 28)).heap.size = w.heap.size + 1 := by simp
    have s2 : ((w.alloc (.cells #[.bool false, .slice a1 (limbs mx).length c1] 28)).alloc (.cells #[.bool nb, .slice a2 (limbs my).length c2] 28)).heap.size = w.heap.size + 1 + 1 := by simp
    have A1 := ((BoxW.made w (.bool false) (.slice a1 (limbs mx).length c1) 28).below (below1 _ (.cells #[.bool nb, .slice a2 (limbs my).length c2] 28)) (Nat.le_refl _)).below (below1 _ (.cells #[.bool false, .slice none 0 0] 28)) (Nat.le_refl _)
    have R1 := BoxW.made ((w.alloc (.cells #[.bool false, .slice a1 (limbs mx).length c1] 28)).alloc (.cells #[.bool nb, .slice a2 (limbs my).length c2] 28)) (.bool false) (.slice none 0 0) 28
    rw [s2] at R1
    have B := below3 w (.cells #[.bool false, .slice a1 (limbs mx).length c1] 28) (.cells #[.bool nb, .slice a2 (limbs my).length c2] 28) (.cells #[.bool false, .slice none 0 0] 28)
    have hi2 := R1.lt4
    clear s1 s2
    go_enter Try.func49, Try.ntmps49
    go_wp2_with fail
    refine (kD _ B).mono ?_
    generalize ((w.alloc (.cells #[.bool false, .slice a1 (limbs mx).length c1] 28)).alloc (.cells #[.bool nb, .slice a2 (limbs my).length c2] 28)).alloc (.cells #[.bool false, .slice none 0 0] 28) = w2 at *
    rintro e w3 ⟨v3, v4, rfl, o3, o4, -, b3⟩
    have B3 := B.trans (b3.mono B.size)
    have A3 := A1.below b3 (Nat.le_refl _)
    have R3 := R1.below b3 (Nat.le_refl _)
    have hs3 := B3.size
    obtain ⟨ad4, cp4, rfl, -⟩ := o4.row
    clear A1 R1 kD
    have c0 := A3.c0
    have c1' := A3.c1
    have A9 := A3
    have R9 := R3
    have B9 := B3
    have o9 := o3
    have hiR : w.heap.size + 1 + 1 < w2.heap.size := hi2
    have hbase := B.size
    go_wp2_with fail
    refine (kM _ _ _ o9).mono ?_
    rintro e w10 ⟨v10, rfl, o10, b10⟩
    have B10 := B9.trans (b10.mono B9.size)
    have R10 := R9.below b10 (Nat.le_refl _)
    have q0 := R10.c0
    have q1 := R10.c1
    have f0 := R10.f0
    have f1 := R10.f1
    obtain ⟨s10, rfl, q10⟩ := o10
    obtain ⟨ad5, cp5, rfl, -⟩ := q10.row
    have o6 := ownsRow_setCell_below (a := ⟨w.heap.size + 1 + 1, 0, none⟩) q10 (by exact hiR) (.bool nr)
    have o7 := ownsRow_setCell_below (a := ⟨w.heap.size + 1 + 1, 1, none⟩) o6 (by exact hiR) (.slice ad5 lr.length cp5)
    have HO : Hid (World.ownsRow _ w.heap.size 3 1 (.slice ad5 lr.length cp5) lr.length (lr.map (Value.int .i64))) := ownsRow_mono o7 hbase
    have HB : Hid (Below w.heap.size w _) := (B10.setCell (p := ⟨w.heap.size + 1 + 1, 0, none⟩) (by show w.heap.size ≤ w.heap.size + 1 + 1; omega) (.bool nr)).setCell (p := ⟨w.heap.size + 1 + 1, 1, none⟩) (by show w.heap.size ≤ w.heap.size + 1 + 1; omega) (.slice ad5 lr.length cp5)
    clear o6 o7 q10
    go_wp2
    (try simp only [Exit.inBlock, Exit.then])
    refine bodyPost_ret (v := .agg #[.bool nr, .slice ad5 lr.length cp5]) ?_ rfl ⟨_, rfl, ⟨_, rfl, HO.out⟩, HB.out⟩
    rw [results_cell1 rfl]
    go_simp
  · simp only [if_true] at sx
    by_cases hq : x.natAbs % y.natAbs = 0
    · have hz : (if true = true then -((x.natAbs / y.natAbs : Nat) : Int) else ((x.natAbs / y.natAbs : Nat) : Int)) = x / y := by
        rw [if_pos rfl, hds.1 hq, sx]
      have kM := fun v4 w4 base (h : ownsI w4 base v4 (limbs (x.natAbs / y.natAbs))) => sMake true v4 (x.natAbs / y.natAbs) base w4 h (by omega)
      rw [hz, hm5] at kM
      have hl0 : ((limbs (x.natAbs % y.natAbs)).length : Int) = 0 := by rw [hq, limbs_zero]; rfl
      have hl1 : ¬ ((0 : Int) < ((limbs (x.natAbs % y.natAbs)).length : Int)) := by omega
      have hl2 : decide ((0 : Int) < ((limbs (x.natAbs % y.natAbs)).length : Int)) = false := decide_eq_false hl1
      clear hm5 hlx sx hz hds hyn hy hq hl0
      generalize x.natAbs / y.natAbs = mq at *
      generalize x.natAbs % y.natAbs = mr at *
      generalize x.natAbs = mx at *
      generalize y.natAbs = my at *
      have s1 : (w.alloc (.cells #[.bool true, .slice a1 (limbs mx).length c1] 28)).heap.size = w.heap.size + 1 := by simp
      have s2 : ((w.alloc (.cells #[.bool true, .slice a1 (limbs mx).length c1] 28)).alloc (.cells #[.bool nb, .slice a2 (limbs my).length c2] 28)).heap.size = w.heap.size + 1 + 1 := by simp
      have A1 := ((BoxW.made w (.bool true) (.slice a1 (limbs mx).length c1) 28).below (below1 _ (.cells #[.bool nb, .slice a2 (limbs my).length c2] 28)) (Nat.le_refl _)).below (below1 _ (.cells #[.bool false, .slice none 0 0] 28)) (Nat.le_refl _)
      have R1 := BoxW.made ((w.alloc (.cells #[.bool true, .slice a1 (limbs mx).length c1] 28)).alloc (.cells #[.bool nb, .slice a2 (limbs my).length c2] 28)) (.bool false) (.slice none 0 0) 28
      rw [s2] at R1
      have B := below3 w (.cells #[.bool true, .slice a1 (limbs mx).length c1] 28) (.cells #[.bool nb, .slice a2 (limbs my).length c2] 28) (.cells #[.bool false, .slice none 0 0] 28)
      have hi2 := R1.lt4
      clear s1 s2
      go_enter Try.func49, Try.ntmps49
      go_wp2_with fail
      refine (kD _ B).mono ?_
      generalize ((w.alloc (.cells #[.bool true, .slice a1 (limbs mx).length c1] 28)).alloc (.cells #[.bool nb, .slice a2 (limbs my).length c2] 28)).alloc (.cells #[.bool false, .slice none 0 0] 28) = w2 at *
      rintro e w3 ⟨v3, v4, rfl, o3, o4, -, b3⟩
      have B3 := B.trans (b3.mono B.size)
      have A3 := A1.below b3 (Nat.le_refl _)
      have R3 := R1.below b3 (Nat.le_refl _)
      have hs3 := B3.size
      obtain ⟨ad4, cp4, rfl, -⟩ := o4.row
      clear A1 R1 kD
      have c0 := A3.c0
      have c1' := A3.c1
      have A9 := A3
      have R9 := R3
      have B9 := B3
      have o9 := o3
      have hiR : w.heap.size + 1 + 1 < w2.heap.size := hi2
      have hbase := B.size
      go_wp2_with fail
      refine (kM _ _ _ o9).mono ?_
      rintro e w10 ⟨v10, rfl, o10, b10⟩
      have B10 := B9.trans (b10.mono B9.size)
      have R10 := R9.below b10 (Nat.le_refl _)
      have q0 := R10.c0
      have q1 := R10.c1
      have f0 := R10.f0
      have f1 := R10.f1
      obtain ⟨s10, rfl, q10⟩ := o10
      obtain ⟨ad5, cp5, rfl, -⟩ := q10.row
      have o6 := ownsRow_setCell_below (a := ⟨w.heap.size + 1 + 1, 0, none⟩) q10 (by exact hiR) (.bool nr)
      have o7 := ownsRow_setCell_below (a := ⟨w.heap.size + 1 + 1, 1, none⟩) o6 (by exact hiR) (.slice ad5 lr.length cp5)
      have HO : Hid (World.ownsRow _ w.heap.size 3 1 (.slice ad5 lr.length cp5) lr.length (lr.map (Value.int .i64))) := ownsRow_mono o7 hbase
      have HB : Hid (Below w.heap.size w _) := (B10.setCell (p := ⟨w.heap.size + 1 + 1, 0, none⟩) (by show w.heap.size ≤ w.heap.size + 1 + 1; omega) (.bool nr)).setCell (p := ⟨w.heap.size + 1 + 1, 1, none⟩) (by show w.heap.size ≤ w.heap.size + 1 + 1; omega) (.slice ad5 lr.length cp5)
      clear o6 o7 q10
      go_wp2
      (try simp only [Exit.inBlock, Exit.then])
      refine bodyPost_ret (v := .agg #[.bool nr, .slice ad5 lr.length cp5]) ?_ rfl ⟨_, rfl, ⟨_, rfl, HO.out⟩, HB.out⟩
      rw [results_cell1 rfl]
      go_simp
    · have hz : (if true = true then -((x.natAbs / y.natAbs + 1 : Nat) : Int) else ((x.natAbs / y.natAbs + 1 : Nat) : Int)) = x / y := by
        rw [if_pos rfl, hds.2 hq, sx]
      have hlq1 := succ_len (x.natAbs / y.natAbs)
      have kM := fun v4 w4 base (h : ownsI w4 base v4 (limbs (x.natAbs / y.natAbs + 1))) => sMake true v4 (x.natAbs / y.natAbs + 1) base w4 h (by omega)
      rw [hz, hm5] at kM
      have kP := fun v W base (o : ownsI W base v (limbs (x.natAbs / y.natAbs))) vo (oo : rowI W vo [1]) => sPlus v vo (limbs (x.natAbs / y.natAbs)) [1] W o.row oo (limbs_inR _) inR_one (by omega) (by simp)
      simp only [num_limbs, num_one] at kP
      have hl0 : 0 < (limbs (x.natAbs % y.natAbs)).length := by rw [limbs_pos _ (by omega)]; simp
      have hl1 : (0 : Int) < ((limbs (x.natAbs % y.natAbs)).length : Int) := by omega
      have hl2 : decide ((0 : Int) < ((limbs (x.natAbs % y.natAbs)).length : Int)) = true := decide_eq_true hl1
      clear hm5 hlx sx hz hds hyn hy hq hlq1 hl0
      generalize x.natAbs / y.natAbs = mq at *
      generalize x.natAbs % y.natAbs = mr at *
      generalize x.natAbs = mx at *
      generalize y.natAbs = my at *
      have s1 : (w.alloc (.cells #[.bool true, .slice a1 (limbs mx).length c1] 28)).heap.size = w.heap.size + 1 := by simp
      have s2 : ((w.alloc (.cells #[.bool true, .slice a1 (limbs mx).length c1] 28)).alloc (.cells #[.bool nb, .slice a2 (limbs my).length c2] 28)).heap.size = w.heap.size + 1 + 1 := by simp
      have A1 := ((BoxW.made w (.bool true) (.slice a1 (limbs mx).length c1) 28).below (below1 _ (.cells #[.bool nb, .slice a2 (limbs my).length c2] 28)) (Nat.le_refl _)).below (below1 _ (.cells #[.bool false, .slice none 0 0] 28)) (Nat.le_refl _)
      have R1 := BoxW.made ((w.alloc (.cells #[.bool true, .slice a1 (limbs mx).length c1] 28)).alloc (.cells #[.bool nb, .slice a2 (limbs my).length c2] 28)) (.bool false) (.slice none 0 0) 28
      rw [s2] at R1
      have B := below3 w (.cells #[.bool true, .slice a1 (limbs mx).length c1] 28) (.cells #[.bool nb, .slice a2 (limbs my).length c2] 28) (.cells #[.bool false, .slice none 0 0] 28)
      have hi2 := R1.lt4
      clear s1 s2
      go_enter Try.func49, Try.ntmps49
      go_wp2_with fail
      refine (kD _ B).mono ?_
      generalize ((w.alloc (.cells #[.bool true, .slice a1 (limbs mx).length c1] 28)).alloc (.cells #[.bool nb, .slice a2 (limbs my).length c2] 28)).alloc (.cells #[.bool false, .slice none 0 0] 28) = w2 at *
      rintro e w3 ⟨v3, v4, rfl, o3, o4, -, b3⟩
      have B3 := B.trans (b3.mono B.size)
      have A3 := A1.below b3 (Nat.le_refl _)
      have R3 := R1.below b3 (Nat.le_refl _)
      have hs3 := B3.size
      obtain ⟨ad4, cp4, rfl, -⟩ := o4.row
      clear A1 R1 kD
      have c0 := A3.c0
      have c1' := A3.c1
      have oo := one_row w3
      have b6 := below1 w3 (.cells #[.int .i64 1] 3)
      have oq6 := ownsI.below o3 b6 (Nat.le_refl _)
      have A6 := A3.below b6 (Nat.le_refl _)
      have R6 := R3.below b6 (Nat.le_refl _)
      have B6 := B3.trans (b6.mono B3.size)
      go_wp2_with fail
      refine (kP _ _ _ oq6 _ oo).mono ?_
      rintro e w7 ⟨v7, rfl, o9, b7⟩
      have A9 := A6.below b7 (Nat.le_refl _)
      have R9 := R6.below b7 (Nat.le_refl _)
      have B9 := B6.trans (b7.mono B6.size)
      have hiR := R6.lt4
      have hbase := B6.size
      clear c0 c1'
      have g0 := A9.c0
      have g1 := A9.c1
      go_wp2_with fail
      refine (kM _ _ _ o9).mono ?_
      rintro e w10 ⟨v10, rfl, o10, b10⟩
      have B10 := B9.trans (b10.mono B9.size)
      have R10 := R9.below b10 (Nat.le_refl _)
      have q0 := R10.c0
      have q1 := R10.c1
      have f0 := R10.f0
      have f1 := R10.f1
      obtain ⟨s10, rfl, q10⟩ := o10
      obtain ⟨ad5, cp5, rfl, -⟩ := q10.row
      have o6 := ownsRow_setCell_below (a := ⟨w.heap.size + 1 + 1, 0, none⟩) q10 (by exact hiR) (.bool nr)
      have o7 := ownsRow_setCell_below (a := ⟨w.heap.size + 1 + 1, 1, none⟩) o6 (by exact hiR) (.slice ad5 lr.length cp5)
      have HO : Hid (World.ownsRow _ w.heap.size 3 1 (.slice ad5 lr.length cp5) lr.length (lr.map (Value.int .i64))) := ownsRow_mono o7 hbase
      have HB : Hid (Below w.heap.size w _) := (B10.setCell (p := ⟨w.heap.size + 1 + 1, 0, none⟩) (by show w.heap.size ≤ w.heap.size + 1 + 1; omega) (.bool nr)).setCell (p := ⟨w.heap.size + 1 + 1, 1, none⟩) (by show w.heap.size ≤ w.heap.size + 1 + 1; omega) (.slice ad5 lr.length cp5)
      clear o6 o7 q10
      go_wp2
      (try simp only [Exit.inBlock, Exit.then])
      refine bodyPost_ret (v := .agg #[.bool nr, .slice ad5 lr.length cp5]) ?_ rfl ⟨_, rfl, ⟨_, rfl, HO.out⟩, HB.out⟩
      rw [results_cell1 rfl]
      go_simp

end Go.Proofs.Ytjelmbkngjlefaa
