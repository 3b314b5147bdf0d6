/- Several small texts in one: SWMul, SWSub, SPick. -/
import Derived.Test.YtlpfjpbnedankaaSW
import Derived.Test.YtlpfjpbnedankaaUB
import Derived.Test.YtlpfjpbnedankaaGC
import Derived.Test.YtlpfjpbnedankaaWB
import Derived.Deep.RegionHeld
import Derived.Test.YtlpfjpbnedankaaFB
import Derived.Test.YtlpfjpbnedankaaNB
/- The specification's l4Mul, by its contract. -/
namespace Go.Proofs.Ytlpfjpbnedankaa
open Go.RowKit

theorem mul_sign (na nb : Bool) (mx my : Nat) : (if (na != nb) = true then -((mx * my : Nat) : Int) else ((mx * my : Nat) : Int)) = (if na = true then -(mx : Int) else (mx : Int)) * (if nb = true then -(my : Int) else (my : Int)) := by
  cases na <;> cases nb <;> simp [Int.neg_mul, Int.mul_neg]

set_option maxHeartbeats 1600000 in
theorem sWMul (va vb : Value) (x y : Int) (w : World) (ha : rowW w va (mkW x)) (hb : rowW w vb (mkW y)) (hlx : (limbs x.natAbs).length ≤ 1000) (hly : (limbs y.natAbs).length ≤ 1000) :
    Calls Try.prog 51 #[va, vb] w fun e w' => ∃ v, e = .returned v ∧ ownsW w' w.heap.size v (mkW (x * y)) ∧ Below w.heap.size w w' := by
  obtain ⟨s, rfl, hs⟩ := ha
  obtain ⟨t, rfl, ht⟩ := hb
  have hs' : rowI w s (limbs x.natAbs) := hs
  have ht' : rowI w t (limbs y.natAbs) := ht
  have sx := signed x
  have sy := signed y
  have hml := mul_limbs_len x.natAbs y.natAbs
  obtain ⟨a1, c1, rfl, -⟩ := id hs'
  obtain ⟨a2, c2, rfl, -⟩ := id ht'
  have kt := fun W (h : Below w.heap.size w W) => sTimes _ _ (limbs x.natAbs) (limbs y.natAbs) W (hs'.below h (Nat.le_refl _)) (ht'.below h (Nat.le_refl _)) (limbs_inR _) (limbs_inR _) (by omega) (by omega)
  simp only [num_limbs] at kt
  have kM := fun v4 w4 base (h : ownsI w4 base v4 (limbs (x.natAbs * y.natAbs))) => sMake ((mkW x).1 != (mkW y).1) v4 (x.natAbs * y.natAbs) base w4 h (by omega)
  rw [mul_sign, sx, sy] at kM
  obtain ⟨nr, lr, hm5⟩ : ∃ nb lb, mkW (x * y) = (nb, lb) := ⟨_, _, rfl⟩
  rw [hm5] at kM
  rw [hm5]
  clear hm5 hs ht hs' ht' hlx hly sx sy hml
  generalize (mkW x).1 = na at *
  generalize (mkW y).1 = nb at *
  generalize x.natAbs = mx at *
  generalize y.natAbs = my at *
  have s1 : (w.alloc (.cells #[.bool na, .slice a1 (limbs mx).length c1] 27)).heap.size = w.heap.size + 1 := by simp
  have s2 : ((w.alloc (.cells #[.bool na, .slice a1 (limbs mx).length c1] 27)).alloc (.cells #[.bool nb, .slice a2 (limbs my).length c2] 27)).heap.size = w.heap.size + 1 + 1 := by simp
  have A1 := ((BoxW.made w (.bool na) (.slice a1 (limbs mx).length c1) 27).below (below1 _ (.cells #[.bool nb, .slice a2 (limbs my).length c2] 27)) (Nat.le_refl _)).below (below1 _ (.cells #[.bool false, .slice none 0 0] 27)) (Nat.le_refl _)
  have C1 := (BoxW.made (w.alloc (.cells #[.bool na, .slice a1 (limbs mx).length c1] 27)) (.bool nb) (.slice a2 (limbs my).length c2) 27).below (below1 _ (.cells #[.bool false, .slice none 0 0] 27)) (Nat.le_refl _)
  rw [s1] at C1
  have R1 := BoxW.made ((w.alloc (.cells #[.bool na, .slice a1 (limbs mx).length c1] 27)).alloc (.cells #[.bool nb, .slice a2 (limbs my).length c2] 27)) (.bool false) (.slice none 0 0) 27
  rw [s2] at R1
  have B := below3 w (.cells #[.bool na, .slice a1 (limbs mx).length c1] 27) (.cells #[.bool nb, .slice a2 (limbs my).length c2] 27) (.cells #[.bool false, .slice none 0 0] 27)
  clear s1 s2
  go_enter Try.func51, Try.ntmps51
  go_wp2_with fail
  generalize ((w.alloc (.cells #[.bool na, .slice a1 (limbs mx).length c1] 27)).alloc (.cells #[.bool nb, .slice a2 (limbs my).length c2] 27)).alloc (.cells #[.bool false, .slice none 0 0] 27) = w2 at *
  have b2 := (Below.refl w2.heap.size w2).drew
  have A2 := A1.below b2 (Nat.le_refl _)
  have C2 := C1.below b2 (Nat.le_refl _)
  have R2 := R1.below b2 (Nat.le_refl _)
  have B2 := B.trans (b2.mono B.size)
  have a02 := A2.c0
  have a12 := A2.c1
  have e02 := C2.c0
  have e12 := C2.c1
  have n1 : ¬ (w.heap.size = w.heap.size + 1 + 1) := by omega
  have n2 : ¬ (w.heap.size + 1 + 1 = w.heap.size) := by omega
  have n3 : ¬ (w.heap.size + 1 = w.heap.size + 1 + 1) := by omega
  have n4 : ¬ (w.heap.size + 1 + 1 = w.heap.size + 1) := by omega
  go_region_held (fun w' => w'.cell? ⟨w.heap.size, 0, none⟩ = some (.bool na) ∧ w'.cell? ⟨w.heap.size, 1, none⟩ = some (.slice a1 (limbs mx).length c1) ∧ w'.cell? ⟨w.heap.size + 1, 0, none⟩ = some (.bool nb) ∧ w'.cell? ⟨w.heap.size + 1, 1, none⟩ = some (.slice a2 (limbs my).length c2)) (go_keep)
    (first
      | (go_at_call 85
         refine (kt _ B2).mono ?_
         rintro e w4 ⟨v4, rfl, o4, b4⟩
         have A4 := A2.below b4 (Nat.le_refl _)
         have C4 := C2.below b4 (Nat.le_refl _)
         have R4 := R2.below b4 (Nat.le_refl _)
         have B4 := B2.trans (b4.mono B2.size)
         have a04 := A4.c0
         have a14 := A4.c1
         have e04 := C4.c0
         have e14 := C4.c1)
      | (go_at_call 83
         refine (kM v4 w4 _ o4).mono ?_
         rintro e w5 ⟨v5, rfl, o5, b5⟩
         have A5 := A4.below b5 (Nat.le_refl _)
         have C5 := C4.below b5 (Nat.le_refl _)
         have R5 := R4.below b5 (Nat.le_refl _)
         have B5 := B4.trans (b5.mono B4.size)
         have a05 := A5.c0
         have a15 := A5.c1
         have e05 := C5.c0
         have e15 := C5.c1
         obtain ⟨s5, rfl, q5⟩ := o5
         obtain ⟨ad5, cp5, rfl, -⟩ := q5.row
         have r05 := R5.c0
         have r15 := R5.c1
         have f05 := R5.f0
         have f15 := R5.f1))
  have hi1 : w.heap.size + 1 + 1 < w2.drew.heap.size := R2.lt4
  have o6 := ownsRow_setCell_below (a := ⟨w.heap.size + 1 + 1, 0, none⟩) q5 (by exact hi1) (.bool nr)
  have o7 := ownsRow_setCell_below (a := ⟨w.heap.size + 1 + 1, 1, none⟩) o6 (by exact hi1) (.slice ad5 lr.length cp5)
  have HO : Hid (World.ownsRow _ w.heap.size 3 1 (.slice ad5 lr.length cp5) lr.length (lr.map (Value.int .i64))) := ownsRow_mono o7 B2.size
  have HB : Hid (Below w.heap.size w _) := (B5.setCell (p := ⟨w.heap.size + 1 + 1, 0, none⟩) (by show w.heap.size ≤ w.heap.size + 1 + 1; omega) (.bool nr)).setCell (p := ⟨w.heap.size + 1 + 1, 1, none⟩) (by show w.heap.size ≤ w.heap.size + 1 + 1; omega) (.slice ad5 lr.length cp5)
  clear o6 o7 q5
  go_wp2
  (try simp only [Exit.inBlock, Exit.then])
  refine bodyPost_ret (v := .agg #[.bool nr, .slice ad5 lr.length cp5]) ?_ rfl ⟨_, rfl, ⟨_, rfl, HO.out⟩, HB.out⟩
  rw [results_cell1 rfl]
  go_simp

end Go.Proofs.Ytlpfjpbnedankaa

/- The specification's l4Sub, by its contract. -/
namespace Go.Proofs.Ytlpfjpbnedankaa
open Go.RowKit

set_option maxHeartbeats 1600000 in
theorem sWSub (va vb : Value) (x y : Int) (w : World) (ha : rowW w va (mkW x)) (hb : rowW w vb (mkW y)) (hlx : (limbs x.natAbs).length ≤ 1000000) (hly : (limbs y.natAbs).length ≤ 1000000) :
    Calls Try.prog 49 #[va, vb] w fun e w' => ∃ v, e = .returned v ∧ ownsW w' w.heap.size v (mkW (x - y)) ∧ Below w.heap.size w w' := by
  have hxn : (limbs (-y).natAbs).length ≤ 1000000 := by rw [Int.natAbs_neg]; exact hly
  have kn := fun W (h : Below w.heap.size w W) => sWNeg vb y W (hb.below h (Nat.le_refl _)) (by omega)
  have ka := fun v4 W (h : Below w.heap.size w W) (o : rowW W v4 (mkW (-y))) => sWAdd va v4 x (-y) W (ha.below h (Nat.le_refl _)) o hlx hxn
  rw [← Int.sub_eq_add_neg] at ka
  obtain ⟨nr, lr, hm5⟩ : ∃ nb lb, mkW (x - y) = (nb, lb) := ⟨_, _, rfl⟩
  rw [hm5] at ka
  rw [hm5]
  clear hm5 hxn
  obtain ⟨s, rfl, hs⟩ := ha
  obtain ⟨t, rfl, ht⟩ := hb
  have hs' : rowI w s (limbs x.natAbs) := hs
  have ht' : rowI w t (limbs y.natAbs) := ht
  obtain ⟨a1, c1, rfl, -⟩ := id hs'
  obtain ⟨a2, c2, rfl, -⟩ := id ht'
  clear hs ht hs' ht' hlx hly
  generalize (mkW x).1 = na at *
  generalize (mkW y).1 = nb at *
  generalize x.natAbs = mx at *
  generalize y.natAbs = my at *
  have s1 : (w.alloc (.cells #[.bool na, .slice a1 (limbs mx).length c1] 27)).heap.size = w.heap.size + 1 := by simp
  have s2 : ((w.alloc (.cells #[.bool na, .slice a1 (limbs mx).length c1] 27)).alloc (.cells #[.bool nb, .slice a2 (limbs my).length c2] 27)).heap.size = w.heap.size + 1 + 1 := by simp
  have A1 := ((BoxW.made w (.bool na) (.slice a1 (limbs mx).length c1) 27).below (below1 _ (.cells #[.bool nb, .slice a2 (limbs my).length c2] 27)) (Nat.le_refl _)).below (below1 _ (.cells #[.bool false, .slice none 0 0] 27)) (Nat.le_refl _)
  have C1 := (BoxW.made (w.alloc (.cells #[.bool na, .slice a1 (limbs mx).length c1] 27)) (.bool nb) (.slice a2 (limbs my).length c2) 27).below (below1 _ (.cells #[.bool false, .slice none 0 0] 27)) (Nat.le_refl _)
  rw [s1] at C1
  have R1 := BoxW.made ((w.alloc (.cells #[.bool na, .slice a1 (limbs mx).length c1] 27)).alloc (.cells #[.bool nb, .slice a2 (limbs my).length c2] 27)) (.bool false) (.slice none 0 0) 27
  rw [s2] at R1
  have B := below3 w (.cells #[.bool na, .slice a1 (limbs mx).length c1] 27) (.cells #[.bool nb, .slice a2 (limbs my).length c2] 27) (.cells #[.bool false, .slice none 0 0] 27)
  clear s1 s2
  go_enter Try.func49, Try.ntmps49
  go_wp2_with fail
  generalize ((w.alloc (.cells #[.bool na, .slice a1 (limbs mx).length c1] 27)).alloc (.cells #[.bool nb, .slice a2 (limbs my).length c2] 27)).alloc (.cells #[.bool false, .slice none 0 0] 27) = w2 at *
  have b2 := (Below.refl w2.heap.size w2).drew
  have A2 := A1.below b2 (Nat.le_refl _)
  have C2 := C1.below b2 (Nat.le_refl _)
  have R2 := R1.below b2 (Nat.le_refl _)
  have B2 := B.trans (b2.mono B.size)
  have a02 := A2.c0
  have a12 := A2.c1
  have e02 := C2.c0
  have e12 := C2.c1
  have n1 : ¬ (w.heap.size = w.heap.size + 1 + 1) := by omega
  have n2 : ¬ (w.heap.size + 1 + 1 = w.heap.size) := by omega
  have n3 : ¬ (w.heap.size + 1 = w.heap.size + 1 + 1) := by omega
  have n4 : ¬ (w.heap.size + 1 + 1 = w.heap.size + 1) := by omega
  go_region_held (fun w' => w'.cell? ⟨w.heap.size, 0, none⟩ = some (.bool na) ∧ w'.cell? ⟨w.heap.size, 1, none⟩ = some (.slice a1 (limbs mx).length c1) ∧ w'.cell? ⟨w.heap.size + 1, 0, none⟩ = some (.bool nb) ∧ w'.cell? ⟨w.heap.size + 1, 1, none⟩ = some (.slice a2 (limbs my).length c2)) (go_keep)
    (first
      | (go_at_call 82
         refine (kn _ B2).mono ?_
         rintro e w4 ⟨v4, rfl, o4, b4⟩
         have A4 := A2.below b4 (Nat.le_refl _)
         have C4 := C2.below b4 (Nat.le_refl _)
         have R4 := R2.below b4 (Nat.le_refl _)
         have B4 := B2.trans (b4.mono B2.size)
         have a04 := A4.c0
         have a14 := A4.c1
         have e04 := C4.c0
         have e14 := C4.c1)
      | (go_at_call 53
         refine (ka v4 w4 B4 o4.row).mono ?_
         rintro e w5 ⟨v5, rfl, o5, b5⟩
         have A5 := A4.below b5 (Nat.le_refl _)
         have C5 := C4.below b5 (Nat.le_refl _)
         have R5 := R4.below b5 (Nat.le_refl _)
         have B5 := B4.trans (b5.mono B4.size)
         have a05 := A5.c0
         have a15 := A5.c1
         have e05 := C5.c0
         have e15 := C5.c1
         obtain ⟨s5, rfl, q5⟩ := o5
         obtain ⟨ad5, cp5, rfl, -⟩ := q5.row
         have r05 := R5.c0
         have r15 := R5.c1
         have f05 := R5.f0
         have f15 := R5.f1))
  have hi1 : w.heap.size + 1 + 1 < w4.heap.size := R4.lt4
  have o6 := ownsRow_setCell_below (a := ⟨w.heap.size + 1 + 1, 0, none⟩) q5 (by exact hi1) (.bool nr)
  have o7 := ownsRow_setCell_below (a := ⟨w.heap.size + 1 + 1, 1, none⟩) o6 (by exact hi1) (.slice ad5 lr.length cp5)
  have HO : Hid (World.ownsRow _ w.heap.size 3 1 (.slice ad5 lr.length cp5) lr.length (lr.map (Value.int .i64))) := ownsRow_mono o7 B4.size
  have HB : Hid (Below w.heap.size w _) := (B5.setCell (p := ⟨w.heap.size + 1 + 1, 0, none⟩) (by show w.heap.size ≤ w.heap.size + 1 + 1; omega) (.bool nr)).setCell (p := ⟨w.heap.size + 1 + 1, 1, none⟩) (by show w.heap.size ≤ w.heap.size + 1 + 1; omega) (.slice ad5 lr.length cp5)
  clear o6 o7 q5
  go_wp2
  (try simp only [Exit.inBlock, Exit.then])
  refine bodyPost_ret (v := .agg #[.bool nr, .slice ad5 lr.length cp5]) ?_ rfl ⟨_, rfl, ⟨_, rfl, HO.out⟩, HB.out⟩
  rw [results_cell1 rfl]
  go_simp

end Go.Proofs.Ytlpfjpbnedankaa

/- The specification's l4One, l5Odd and l5Pick, each by its contract. -/
namespace Go.Proofs.Ytlpfjpbnedankaa
open Go.RowKit
set_option linter.unusedSimpArgs false

theorem mkW_one : mkW 1 = (false, [1]) := by
  rw [mkW_pos 1 (by omega)]
  have : limbs (1 : Int).natAbs = [1] := by
    show limbs 1 = [1]
    rw [limbs_pos 1 (by omega)]
    simp [limbs_zero]
  rw [this]

theorem low_limb (m : Nat) (h : 0 < m) : (limbs m).getD 0 0 = ((m % 16777216 : Nat) : Int) := by
  rw [limbs_pos m h]
  simp
end Go.Proofs.Ytlpfjpbnedankaa
