/- Several small texts in one: SWCmp, SMake, SWAdd, BoxLt, SWMul, SWUp, SWFloor, SWholeOk, StepI, SWNeg. -/
import Derived.Test.YtjelmbkngjlefaaBase
import Derived.Test.YtjelmbkngjlefaaSB
import Derived.Deep.RegionHeld
import Derived.Test.YtjelmbkngjlefaaGB
import Derived.Test.YtjelmbkngjlefaaOne
import Derived.Deep.RegionHeldLaw
/- The specification's l4Cmp, by its contract. -/
namespace Go.Proofs.Ytjelmbkngjlefaa
open Go.RowKit

def cmpZ (x y : Int) : Int := if x < y then -1 else if y < x then 1 else 0

set_option maxHeartbeats 1600000 in
theorem sWCmp (va vb : Value) (x y : Int) (w : World) (ha : rowW w va (mkW x)) (hb : rowW w vb (mkW y)) (hlx : (limbs x.natAbs).length ≤ 1048576) (hly : (limbs y.natAbs).length ≤ 1048576) :
    Calls Try.prog 33 #[va, vb] w fun e w' => e = .returned (.int .i64 (cmpZ x y)) ∧ Below w.heap.size w w' := by
  obtain ⟨s, rfl, hs⟩ := ha
  obtain ⟨t, rfl, ht⟩ := hb
  have hs' : rowI w s (limbs x.natAbs) := hs
  have ht' : rowI w t (limbs y.natAbs) := ht
  have K := fun W (h : Below w.heap.size w W) => sCmp s t (limbs x.natAbs) (limbs y.natAbs) W (hs'.below h (Nat.le_refl _)) (ht'.below h (Nat.le_refl _)) (limbs_inR _) (limbs_inR _) hlx hly
  have K' := fun W (h : Below w.heap.size w W) => sCmp t s (limbs y.natAbs) (limbs x.natAbs) W (ht'.below h (Nat.le_refl _)) (hs'.below h (Nat.le_refl _)) (limbs_inR _) (limbs_inR _) hly hlx
  simp only [num_limbs] at K K'
  obtain ⟨a1, c1, rfl, -⟩ := id hs'
  obtain ⟨a2, c2, rfl, -⟩ := id ht'
  clear hs ht hs' ht'
  by_cases hx : x < 0
  · rw [mkW_neg x hx]
    by_cases hy : y < 0
    · rw [mkW_neg y hy]
      have HE : Hid (cmpZ x y = cmpI y.natAbs x.natAbs) := by
        show _ = _
        unfold cmpZ cmpI
        repeat' split
        all_goals omega
      clear K
      go_enter Try.func33, Try.ntmps33
      go_wp2_with fail
      refine (K' _ (below2 w _ _)).mono ?_
      rintro e w1 ⟨rfl, rfl⟩
      go_wp2
      go_ret
      exact ⟨by rw [HE.out]; rfl, below2 _ _ _⟩
    · rw [mkW_pos y (by omega)]
      have HE : Hid (cmpZ x y = -1) := by show _ = _; unfold cmpZ; rw [if_pos (by omega)]
      clear K K'
      go_enter Try.func33, Try.ntmps33
      go_wp2
      go_ret
      exact ⟨by rw [HE.out]; rfl, below2 _ _ _⟩
  · rw [mkW_pos x (by omega)]
    by_cases hy : y < 0
    · rw [mkW_neg y hy]
      have HE : Hid (cmpZ x y = 1) := by show _ = _; unfold cmpZ; rw [if_neg (by omega), if_pos (by omega)]
      clear K K'
      go_enter Try.func33, Try.ntmps33
      go_wp2
      go_ret
      exact ⟨by rw [HE.out]; rfl, below2 _ _ _⟩
    · rw [mkW_pos y (by omega)]
      have HE : Hid (cmpZ x y = cmpI x.natAbs y.natAbs) := by
        show _ = _
        unfold cmpZ cmpI
        repeat' split
        all_goals omega
      clear K'
      go_enter Try.func33, Try.ntmps33
      go_wp2_with fail
      refine (K _ (below2 w _ _)).mono ?_
      rintro e w1 ⟨rfl, rfl⟩
      go_wp2
      go_ret
      exact ⟨by rw [HE.out]; rfl, below2 _ _ _⟩

end Go.Proofs.Ytjelmbkngjlefaa

/- The specification's l4Make, by its contract. -/
namespace Go.Proofs.Ytjelmbkngjlefaa
open Go.RowKit

theorem mkW_sign (neg : Bool) (m : Nat) : mkW (if neg = true then -(m : Int) else (m : Int)) = (neg && decide (0 < m), limbs m) := by
  unfold mkW
  cases neg <;> simp

set_option maxHeartbeats 1600000 in
theorem sMake (neg : Bool) (s : Value) (m : Nat) (base : Nat) (w : World) (h : ownsI w base s (limbs m)) (hl : (limbs m).length ≤ 1073741824) :
    Calls Try.prog 55 #[.bool neg, s] w fun e w' => ∃ v, e = .returned v ∧ ownsW w' base v (mkW (if neg = true then -(m : Int) else (m : Int))) ∧ Below w.heap.size w w' := by
  obtain ⟨ad, cap, rfl, -⟩ := h.row
  have hm : decide ((0 : Int) < ((limbs m).length : Int)) = decide (0 < m) := by
    by_cases h0 : m = 0
    · subst h0; rw [limbs_zero]; rfl
    · have : 0 < (limbs m).length := by rw [limbs_pos m (by omega)]; simp
      simp; omega
  have hm' : decide (0 < (limbs m).length) = decide (0 < m) := by rw [← hm]; simp
  have H0 : Hid (mkW (m : Int) = (false, limbs m)) := by show _ = _; have := mkW_sign false m; simpa using this
  have H1 : Hid (mkW (-(m : Int)) = (decide (0 < (limbs m).length), limbs m)) := by
    show _ = _
    have := mkW_sign true m
    rw [hm']
    simpa using this
  have HO : Hid (ownsI w base (.slice ad (limbs m).length cap) (limbs m)) := h
  clear h hm hm'
  cases neg
  · go_enter Try.func55, Try.ntmps55
    go_wp2
    (try simp only [Exit.inBlock, Exit.then])
    refine bodyPost_ret (v := .agg #[.bool false, .slice ad (limbs m).length cap]) ?_ rfl ⟨_, rfl, ?_, below1 _ _⟩
    · rw [results_cell1 rfl]
      go_simp
    · rw [H0.out]
      exact ⟨_, rfl, World.ownsRow.alloc HO.out _⟩
  · go_enter Try.func55, Try.ntmps55
    go_wp2
    (try simp only [Exit.inBlock, Exit.then])
    refine bodyPost_ret (v := .agg #[.bool (decide (0 < (limbs m).length)), .slice ad (limbs m).length cap]) ?_ rfl ⟨_, rfl, ?_, below1 _ _⟩
    · rw [results_cell1 rfl]
      go_simp
    · rw [H1.out]
      exact ⟨_, rfl, World.ownsRow.alloc HO.out _⟩

end Go.Proofs.Ytjelmbkngjlefaa

/- The specification's l4Add, by its contract. -/
namespace Go.Proofs.Ytjelmbkngjlefaa
open Go.RowKit

theorem signed (x : Int) : (if (mkW x).1 = true then -(x.natAbs : Int) else (x.natAbs : Int)) = x := by
  unfold mkW
  by_cases h : x < 0
  · simp [h]; omega
  · simp [h]; omega

end Go.Proofs.Ytjelmbkngjlefaa

/- A box lies in the world (no walk). -/
namespace Go.Proofs.Ytjelmbkngjlefaa
open Go.RowKit

theorem BoxW.lt4 {w : World} {base b : Nat} {x y : Value} (h : BoxW w base b x y) : b < w.heap.size := block_lt_of_cell h.c0

end Go.Proofs.Ytjelmbkngjlefaa

/- The specification's l4Mul, by its contract. -/
namespace Go.Proofs.Ytjelmbkngjlefaa
open Go.RowKit

theorem mul_sign (na nb : Bool) (mx my : Nat) : (if (na != nb) = true then -((mx * my : Nat) : Int) else ((mx * my : Nat) : Int)) = (if na = true then -(mx : Int) else (mx : Int)) * (if nb = true then -(my : Int) else (my : Int)) := by
  cases na <;> cases nb <;> simp [Int.neg_mul, Int.mul_neg]

set_option maxHeartbeats 1600000 in
theorem sWMul (va vb : Value) (x y : Int) (w : World) (ha : rowW w va (mkW x)) (hb : rowW w vb (mkW y)) (hlx : (limbs x.natAbs).length ≤ 1000) (hly : (limbs y.natAbs).length ≤ 1000) :
    Calls Try.prog 35 #[va, vb] w fun e w' => ∃ v, e = .returned v ∧ ownsW w' w.heap.size v (mkW (x * y)) ∧ Below w.heap.size w w' := by
  obtain ⟨s, rfl, hs⟩ := ha
  obtain ⟨t, rfl, ht⟩ := hb
  have hs' : rowI w s (limbs x.natAbs) := hs
  have ht' : rowI w t (limbs y.natAbs) := ht
  have sx := signed x
  have sy := signed y
  have hml := mul_limbs_len x.natAbs y.natAbs
  obtain ⟨a1, c1, rfl, -⟩ := id hs'
  obtain ⟨a2, c2, rfl, -⟩ := id ht'
  have kt := fun W (h : Below w.heap.size w W) => sTimes _ _ (limbs x.natAbs) (limbs y.natAbs) W (hs'.below h (Nat.le_refl _)) (ht'.below h (Nat.le_refl _)) (limbs_inR _) (limbs_inR _) (by omega) (by omega)
  simp only [num_limbs] at kt
  have kM := fun v4 w4 base (h : ownsI w4 base v4 (limbs (x.natAbs * y.natAbs))) => sMake ((mkW x).1 != (mkW y).1) v4 (x.natAbs * y.natAbs) base w4 h (by omega)
  rw [mul_sign, sx, sy] at kM
  obtain ⟨nr, lr, hm5⟩ : ∃ nb lb, mkW (x * y) = (nb, lb) := ⟨_, _, rfl⟩
  rw [hm5] at kM
  rw [hm5]
  clear hm5 hs ht hs' ht' hlx hly sx sy hml
  generalize (mkW x).1 = na at *
  generalize (mkW y).1 = nb at *
  generalize x.natAbs = mx at *
  generalize y.natAbs = my at *
  have s1 : (w.alloc (.cells #[.bool na, .slice a1 (limbs mx).length c1] 28)).heap.size = w.heap.size + 1 := by simp
  have s2 : ((w.alloc (.cells #[.bool na, .slice a1 (limbs mx).length c1] 28)).alloc (.cells #[.bool nb, .slice a2 (limbs my).length c2] 28)).heap.size = w.heap.size + 1 + 1 := by simp
  have A1 := ((BoxW.made w (.bool na) (.slice a1 (limbs mx).length c1) 28).below (below1 _ (.cells #[.bool nb, .slice a2 (limbs my).length c2] 28)) (Nat.le_refl _)).below (below1 _ (.cells #[.bool false, .slice none 0 0] 28)) (Nat.le_refl _)
  have C1 := (BoxW.made (w.alloc (.cells #[.bool na, .slice a1 (limbs mx).length c1] 28)) (.bool nb) (.slice a2 (limbs my).length c2) 28).below (below1 _ (.cells #[.bool false, .slice none 0 0] 28)) (Nat.le_refl _)
  rw [s1] at C1
  have R1 := BoxW.made ((w.alloc (.cells #[.bool na, .slice a1 (limbs mx).length c1] 28)).alloc (.cells #[.bool nb, .slice a2 (limbs my).length c2] 28)) (.bool false) (.slice none 0 0) 28
  rw [s2] at R1
  have B := below3 w (.cells #[.bool na, .slice a1 (limbs mx).length c1] 28) (.cells #[.bool nb, .slice a2 (limbs my).length c2] 28) (.cells #[.bool false, .slice none 0 0] 28)
  clear s1 s2
  go_enter Try.func35, Try.ntmps35
  go_wp2_with fail
  generalize ((w.alloc (.cells #[.bool na, .slice a1 (limbs mx).length c1] 28)).alloc (.cells #[.bool nb, .slice a2 (limbs my).length c2] 28)).alloc (.cells #[.bool false, .slice none 0 0] 28) = w2 at *
  have b2 := (Below.refl w2.heap.size w2).drew
  have A2 := A1.below b2 (Nat.le_refl _)
  have C2 := C1.below b2 (Nat.le_refl _)
  have R2 := R1.below b2 (Nat.le_refl _)
  have B2 := B.trans (b2.mono B.size)
  have a02 := A2.c0
  have a12 := A2.c1
  have e02 := C2.c0
  have e12 := C2.c1
  have n1 : ¬ (w.heap.size = w.heap.size + 1 + 1) := by omega
  have n2 : ¬ (w.heap.size + 1 + 1 = w.heap.size) := by omega
  have n3 : ¬ (w.heap.size + 1 = w.heap.size + 1 + 1) := by omega
  have n4 : ¬ (w.heap.size + 1 + 1 = w.heap.size + 1) := by omega
  go_region_held (fun w' => w'.cell? ⟨w.heap.size, 0, none⟩ = some (.bool na) ∧ w'.cell? ⟨w.heap.size, 1, none⟩ = some (.slice a1 (limbs mx).length c1) ∧ w'.cell? ⟨w.heap.size + 1, 0, none⟩ = some (.bool nb) ∧ w'.cell? ⟨w.heap.size + 1, 1, none⟩ = some (.slice a2 (limbs my).length c2)) (go_keep)
    (first
      | (go_at_call 56
         refine (kt _ B2).mono ?_
         rintro e w4 ⟨v4, rfl, o4, b4⟩
         have A4 := A2.below b4 (Nat.le_refl _)
         have C4 := C2.below b4 (Nat.le_refl _)
         have R4 := R2.below b4 (Nat.le_refl _)
         have B4 := B2.trans (b4.mono B2.size)
         have a04 := A4.c0
         have a14 := A4.c1
         have e04 := C4.c0
         have e14 := C4.c1)
      | (go_at_call 55
         refine (kM v4 w4 _ o4).mono ?_
         rintro e w5 ⟨v5, rfl, o5, b5⟩
         have A5 := A4.below b5 (Nat.le_refl _)
         have C5 := C4.below b5 (Nat.le_refl _)
         have R5 := R4.below b5 (Nat.le_refl _)
         have B5 := B4.trans (b5.mono B4.size)
         have a05 := A5.c0
         have a15 := A5.c1
         have e05 := C5.c0
         have e15 := C5.c1
         obtain ⟨s5, rfl, q5⟩ := o5
         obtain ⟨ad5, cp5, rfl, -⟩ := q5.row
         have r05 := R5.c0
         have r15 := R5.c1
         have f05 := R5.f0
         have f15 := R5.f1))
  have hi1 : w.heap.size + 1 + 1 < w2.drew.heap.size := R2.lt4
  have o6 := ownsRow_setCell_below (a := ⟨w.heap.size + 1 + 1, 0, none⟩) q5 (by exact hi1) (.bool nr)
  have o7 := ownsRow_setCell_below (a := ⟨w.heap.size + 1 + 1, 1, none⟩) o6 (by exact hi1) (.slice ad5 lr.length cp5)
  have HO : Hid (World.ownsRow _ w.heap.size 3 1 (.slice ad5 lr.length cp5) lr.length (lr.map (Value.int .i64))) := ownsRow_mono o7 B2.size
  have HB : Hid (Below w.heap.size w _) := (B5.setCell (p := ⟨w.heap.size + 1 + 1, 0, none⟩) (by show w.heap.size ≤ w.heap.size + 1 + 1; omega) (.bool nr)).setCell (p := ⟨w.heap.size + 1 + 1, 1, none⟩) (by show w.heap.size ≤ w.heap.size + 1 + 1; omega) (.slice ad5 lr.length cp5)
  clear o6 o7 q5
  go_wp2
  (try simp only [Exit.inBlock, Exit.then])
  refine bodyPost_ret (v := .agg #[.bool nr, .slice ad5 lr.length cp5]) ?_ rfl ⟨_, rfl, ⟨_, rfl, HO.out⟩, HB.out⟩
  rw [results_cell1 rfl]
  go_simp

end Go.Proofs.Ytjelmbkngjlefaa

/- The specification's l4Up, by its contract. -/
namespace Go.Proofs.Ytjelmbkngjlefaa
open Go.RowKit

theorem up_len (m k L : Nat) (h : (limbs m).length ≤ L) : (limbs (m * 2 ^ k)).length ≤ L + (k + 1) := by
  have h1 := mul_limbs_len m (2 ^ k)
  have h2 := limbs_len_le (2 ^ k) (k + 1) (by
    have h3 : (2 : Nat) ^ k < 2 ^ (k + 1) := Nat.pow_lt_pow_right (by omega) (by omega)
    have h4 : (2 : Nat) ^ (k + 1) ≤ 16777216 ^ (k + 1) := Nat.pow_le_pow_left (by omega) _
    omega)
  omega
theorem up_sign (na : Bool) (mx k : Nat) : (if na = true then -((mx * 2 ^ k : Nat) : Int) else ((mx * 2 ^ k : Nat) : Int)) = (if na = true then -(mx : Int) else (mx : Int)) * 2 ^ k := by
  cases na <;> simp [Int.neg_mul]

set_option maxHeartbeats 1600000 in
theorem sWUp (va : Value) (x : Int) (k : Nat) (w : World) (ha : rowW w va (mkW x)) (hlx : (limbs x.natAbs).length ≤ 10000) (hk : k ≤ 100000) :
    Calls Try.prog 48 #[va, .int .i64 k] w fun e w' => ∃ v, e = .returned v ∧ ownsW w' w.heap.size v (mkW (x * 2 ^ k)) ∧ Below w.heap.size w w' := by
  obtain ⟨s, rfl, hs⟩ := ha
  have hs' : rowI w s (limbs x.natAbs) := hs
  have sx := signed x
  obtain ⟨a1, c1, rfl, -⟩ := id hs'
  have ku := fun W (h : Below w.heap.size w W) => sUp _ (limbs x.natAbs) k W (hs'.below h (Nat.le_refl _)) (limbs_inR _) (by omega) (by omega)
  simp only [num_limbs] at ku
  have kM := fun v4 w4 base (h : ownsI w4 base v4 (limbs (x.natAbs * 2 ^ k))) => sMake (mkW x).1 v4 (x.natAbs * 2 ^ k) base w4 h (by have := up_len x.natAbs k 10000 hlx; omega)
  rw [up_sign, sx] at kM
  obtain ⟨nr, lr, hm5⟩ : ∃ nb lb, mkW (x * 2 ^ k) = (nb, lb) := ⟨_, _, rfl⟩
  rw [hm5] at kM
  rw [hm5]
  clear hm5 hs hs' hlx sx
  generalize (mkW x).1 = na at *
  generalize x.natAbs = mx at *
  have s1 : (w.alloc (.cells #[.bool na, .slice a1 (limbs mx).length c1] 28)).heap.size = w.heap.size + 1 := by simp
  have A1 := (BoxW.made w (.bool na) (.slice a1 (limbs mx).length c1) 28).below (below1 _ (.cells #[.bool false, .slice none 0 0] 28)) (Nat.le_refl _)
  have R1 := BoxW.made (w.alloc (.cells #[.bool na, .slice a1 (limbs mx).length c1] 28)) (.bool false) (.slice none 0 0) 28
  rw [s1] at R1
  have B := below2 w (.cells #[.bool na, .slice a1 (limbs mx).length c1] 28) (.cells #[.bool false, .slice none 0 0] 28)
  clear s1
  go_enter Try.func48, Try.ntmps48
  go_wp2_with fail
  generalize (w.alloc (.cells #[.bool na, .slice a1 (limbs mx).length c1] 28)).alloc (.cells #[.bool false, .slice none 0 0] 28) = w2 at *
  have b2 := (Below.refl w2.heap.size w2).drew
  have A2 := A1.below b2 (Nat.le_refl _)
  have R2 := R1.below b2 (Nat.le_refl _)
  have B2 := B.trans (b2.mono B.size)
  have a02 := A2.c0
  have a12 := A2.c1
  have n1 : ¬ (w.heap.size = w.heap.size + 1) := by omega
  have n2 : ¬ (w.heap.size + 1 = w.heap.size) := by omega
  go_region_held (fun w' => w'.cell? ⟨w.heap.size, 0, none⟩ = some (.bool na) ∧ w'.cell? ⟨w.heap.size, 1, none⟩ = some (.slice a1 (limbs mx).length c1)) (go_keep)
    (first
      | (go_at_call 58
         refine (ku _ B2).mono ?_
         rintro e w4 ⟨v4, rfl, o4, b4⟩
         have A4 := A2.below b4 (Nat.le_refl _)
         have R4 := R2.below b4 (Nat.le_refl _)
         have B4 := B2.trans (b4.mono B2.size)
         have a04 := A4.c0
         have a14 := A4.c1)
      | (go_at_call 55
         refine (kM v4 w4 _ o4).mono ?_
         rintro e w5 ⟨v5, rfl, o5, b5⟩
         have A5 := A4.below b5 (Nat.le_refl _)
         have R5 := R4.below b5 (Nat.le_refl _)
         have B5 := B4.trans (b5.mono B4.size)
         have a05 := A5.c0
         have a15 := A5.c1
         obtain ⟨s5, rfl, q5⟩ := o5
         obtain ⟨ad5, cp5, rfl, -⟩ := q5.row
         have r05 := R5.c0
         have r15 := R5.c1
         have f05 := R5.f0
         have f15 := R5.f1))
  have hi1 : w.heap.size + 1 < w2.drew.heap.size := R2.lt4
  have o6 := ownsRow_setCell_below (a := ⟨w.heap.size + 1, 0, none⟩) q5 (by exact hi1) (.bool nr)
  have o7 := ownsRow_setCell_below (a := ⟨w.heap.size + 1, 1, none⟩) o6 (by exact hi1) (.slice ad5 lr.length cp5)
  have HO : Hid (World.ownsRow _ w.heap.size 3 1 (.slice ad5 lr.length cp5) lr.length (lr.map (Value.int .i64))) := ownsRow_mono o7 B2.size
  have HB : Hid (Below w.heap.size w _) := (B5.setCell (p := ⟨w.heap.size + 1, 0, none⟩) (by show w.heap.size ≤ w.heap.size + 1; omega) (.bool nr)).setCell (p := ⟨w.heap.size + 1, 1, none⟩) (by show w.heap.size ≤ w.heap.size + 1; omega) (.slice ad5 lr.length cp5)
  clear o6 o7 q5
  go_wp2
  (try simp only [Exit.inBlock, Exit.then])
  refine bodyPost_ret (v := .agg #[.bool nr, .slice ad5 lr.length cp5]) ?_ rfl ⟨_, rfl, ⟨_, rfl, HO.out⟩, HB.out⟩
  rw [results_cell1 rfl]
  go_simp

end Go.Proofs.Ytjelmbkngjlefaa

/- The specification's l4Floor, by its contract. -/
namespace Go.Proofs.Ytjelmbkngjlefaa
open Go.RowKit
set_option linter.unusedSimpArgs false

theorem ediv_is {x z P : Int} (hP : 0 < P) (h1 : z * P ≤ x) (h2 : x < z * P + P) : x / P = z := by
  have h3 := (Int.le_ediv_iff_mul_le hP).2 h1
  have h4 : x / P < z + 1 := (Int.ediv_lt_iff_lt_mul hP).2 (by rw [Int.add_mul, Int.one_mul]; exact h2)
  omega
theorem succ_len (m : Nat) : (limbs (m + 1)).length ≤ (limbs m).length + 1 := by
  have h1 := limbs_lt m
  refine limbs_len_le _ _ ?_
  rw [Nat.pow_succ]
  have h2 : 0 < 16777216 ^ (limbs m).length := Nat.pow_pos (by omega)
  omega
theorem floor_pos (m k : Nat) : ((m / 2 ^ k : Nat) : Int) = (m : Int) / 2 ^ k := by simp
theorem floor_neg (m k : Nat) : (m / 2 ^ k * 2 ^ k = m → -((m / 2 ^ k : Nat) : Int) = -(m : Int) / 2 ^ k) ∧ (m / 2 ^ k * 2 ^ k ≠ m → -((m / 2 ^ k + 1 : Nat) : Int) = -(m : Int) / 2 ^ k) := by
  have hP : (0 : Int) < 2 ^ k := Int.pow_pos (by omega)
  have e1 : ((2 ^ k : Nat) : Int) = (2 : Int) ^ k := by simp
  have hd := Nat.div_add_mod m (2 ^ k)
  have hm := Nat.mod_lt m (show 0 < 2 ^ k from Nat.pow_pos (by omega))
  rw [Nat.mul_comm] at hd
  have hd' : ((m / 2 ^ k : Nat) : Int) * 2 ^ k + ((m % 2 ^ k : Nat) : Int) = (m : Int) := by rw [← e1]; exact_mod_cast hd
  constructor
  · intro h
    symm
    apply ediv_is hP
    · have : ((m / 2 ^ k : Nat) : Int) * 2 ^ k = (m : Int) := by rw [← e1]; exact_mod_cast h
      rw [Int.neg_mul]; omega
    · have : ((m / 2 ^ k : Nat) : Int) * 2 ^ k = (m : Int) := by rw [← e1]; exact_mod_cast h
      rw [Int.neg_mul]; omega
  · intro h
    have hr : 0 < m % 2 ^ k := by
      apply Nat.pos_of_ne_zero
      intro h0
      exact h (by omega)
    symm
    apply ediv_is hP
    · rw [Int.neg_mul, show ((m / 2 ^ k + 1 : Nat) : Int) = ((m / 2 ^ k : Nat) : Int) + 1 by omega, Int.add_mul, Int.one_mul]
      omega
    · rw [Int.neg_mul, show ((m / 2 ^ k + 1 : Nat) : Int) = ((m / 2 ^ k : Nat) : Int) + 1 by omega, Int.add_mul, Int.one_mul]
      omega

set_option maxRecDepth 20000 in
set_option maxHeartbeats 3200000 in
theorem sWFloor (va : Value) (x : Int) (k : Nat) (w : World) (ha : rowW w va (mkW x)) (hlx : (limbs x.natAbs).length ≤ 10000) (hk : k ≤ 100000) :
    Calls Try.prog 36 #[va, .int .i64 k] w fun e w' => ∃ v, e = .returned v ∧ ownsW w' w.heap.size v (mkW (x / 2 ^ k)) ∧ Below w.heap.size w w' := by
  obtain ⟨s, rfl, hs⟩ := ha
  have hs' : rowI w s (limbs x.natAbs) := hs
  have sx := signed x
  obtain ⟨a1, c1, rfl, -⟩ := id hs'
  have kD := fun W (h : Below w.heap.size w W) => sDown _ (limbs x.natAbs) k W (hs'.below h (Nat.le_refl _)) (limbs_inR _) (by omega) (by omega)
  simp only [num_limbs] at kD
  have hlq : (limbs (x.natAbs / 2 ^ k)).length ≤ 10000 := Nat.le_trans (limbs_mono (Nat.div_le_self _ _)) hlx
  have kU := fun v W base (o : ownsI W base v (limbs (x.natAbs / 2 ^ k))) => sUp v (limbs (x.natAbs / 2 ^ k)) k W o.row (limbs_inR _) (by omega) (by omega)
  simp only [num_limbs] at kU
  have hle : x.natAbs / 2 ^ k * 2 ^ k ≤ x.natAbs := Nat.div_mul_le_self _ _
  have hlu : (limbs (x.natAbs / 2 ^ k * 2 ^ k)).length ≤ 10000 := Nat.le_trans (limbs_mono hle) hlx
  have kC := fun v W base (o : ownsI W base v (limbs (x.natAbs / 2 ^ k * 2 ^ k))) (h : Below w.heap.size w W) => sCmp v _ (limbs (x.natAbs / 2 ^ k * 2 ^ k)) (limbs x.natAbs) W o.row (hs'.below h (Nat.le_refl _)) (limbs_inR _) (limbs_inR _) (by omega) (by omega)
  simp only [num_limbs] at kC
  obtain ⟨nr, lr, hm5⟩ : ∃ nb lb, mkW (x / 2 ^ k) = (nb, lb) := ⟨_, _, rfl⟩
  have hfp := floor_pos x.natAbs k
  have hfn := floor_neg x.natAbs k
  obtain ⟨na, hna⟩ : ∃ n, (mkW x).1 = n := ⟨_, rfl⟩
  rw [hm5, hna]
  rw [hna] at sx
  cases na
  · have hz : (if false = true then -((x.natAbs / 2 ^ k : Nat) : Int) else ((x.natAbs / 2 ^ k : Nat) : Int)) = x / 2 ^ k := by
      simp only [Bool.false_eq_true, if_false] at sx ⊢
      rw [hfp, sx]
    have kM := fun v4 w4 base (h : ownsI w4 base v4 (limbs (x.natAbs / 2 ^ k))) => sMake false v4 (x.natAbs / 2 ^ k) base w4 h (by omega)
    rw [hz, hm5] at kM
    clear hm5 hs hs' hlx sx hz kU kC hle hlu hfp hfn hna
    generalize x.natAbs = mx at *
    have s1 : (w.alloc (.cells #[.bool false, .slice a1 (limbs mx).length c1] 28)).heap.size = w.heap.size + 1 := by simp
    have A1 := (BoxW.made w (.bool false) (.slice a1 (limbs mx).length c1) 28).below (below1 _ (.cells #[.bool false, .slice none 0 0] 28)) (Nat.le_refl _)
    have R1 := BoxW.made (w.alloc (.cells #[.bool false, .slice a1 (limbs mx).length c1] 28)) (.bool false) (.slice none 0 0) 28
    rw [s1] at R1
    have B := below2 w (.cells #[.bool false, .slice a1 (limbs mx).length c1] 28) (.cells #[.bool false, .slice none 0 0] 28)
    have hi2 := R1.lt4
    clear s1
    go_enter Try.func36, Try.ntmps36
    go_wp2_with fail
    refine (kD _ B).mono ?_
    generalize (w.alloc (.cells #[.bool false, .slice a1 (limbs mx).length c1] 28)).alloc (.cells #[.bool false, .slice none 0 0] 28) = w2 at *
    rintro e w3 ⟨v3, rfl, o3, b3⟩
    have B3 := B.trans (b3.mono B.size)
    have A3 := A1.below b3 (Nat.le_refl _)
    have R3 := R1.below b3 (Nat.le_refl _)
    have hs3 := B3.size
    clear A1 R1 kD
    go_wp2_with fail
    have bd := (Below.refl w3.heap.size w3).drew
    have A4 := A3.below bd (Nat.le_refl _)
    have R4 := R3.below bd (Nat.le_refl _)
    have o4 := ownsI.below o3 bd (Nat.le_refl _)
    have B4 := B3.trans (bd.mono B3.size)
    have c0 := A4.c0
    have c1' := A4.c1
    refine wp_region_held_drew (S := (fun w' => w'.cell? ⟨w.heap.size, 0, none⟩ = some (.bool false) ∧ w'.cell? ⟨w.heap.size, 1, none⟩ = some (.slice a1 (limbs mx).length c1))) (by kernel_rfl) ⟨c0, c1'⟩ ?_
    intro hHeld
    refine takeH 0 (some 10) (.pointer (some ⟨w.heap.size, 0, none⟩)) rfl rfl (by kernel_rfl) (by kernel_rfl) (by kernel_rfl) (fun _ _ _ h => h) (Or.inl ⟨rfl, fun W hW => by obtain ⟨q0, q1⟩ := hW; go_simp⟩) (by assumption) ?_
    simp only [Act.put, List.setIfInBounds_toArray, List.set_cons_zero, List.set_cons_succ]
    refine takeH 1 (some 11) (.bool false) rfl rfl (by kernel_rfl) (by kernel_rfl) (by kernel_rfl) (fun _ _ _ h => h) (Or.inl ⟨rfl, fun W hW => by obtain ⟨q0, q1⟩ := hW; go_simp⟩) (by assumption) ?_
    simp only [Act.put, List.setIfInBounds_toArray, List.set_cons_zero, List.set_cons_succ]
    refine takeH 2 (some 12) (.bool false) rfl rfl (by kernel_rfl) (by kernel_rfl) (by kernel_rfl) (fun _ _ _ h => h) (Or.inl ⟨rfl, fun W hW => by obtain ⟨q0, q1⟩ := hW; go_simp⟩) (by assumption) ?_
    simp only [Act.put, List.setIfInBounds_toArray, List.set_cons_zero, List.set_cons_succ]
    refine takeH 3 (some 13) (undef) rfl rfl (by kernel_rfl) (by kernel_rfl) (by kernel_rfl) (fun _ _ _ h => h) (yg_skip rfl) (by assumption) ?_
    simp only [Act.put, List.setIfInBounds_toArray, List.set_cons_zero, List.set_cons_succ]
    refine takeH 4 (some 14) (undef) rfl rfl (by kernel_rfl) (by kernel_rfl) (by kernel_rfl) (fun _ _ _ h => h) (yg_skip rfl) (by assumption) ?_
    simp only [Act.put, List.setIfInBounds_toArray, List.set_cons_zero, List.set_cons_succ]
    refine takeH 5 (some 15) (undef) rfl rfl (by kernel_rfl) (by kernel_rfl) (by kernel_rfl) (fun _ _ _ h => h) (yg_skip rfl) (by assumption) ?_
    simp only [Act.put, List.setIfInBounds_toArray, List.set_cons_zero, List.set_cons_succ]
    refine takeH 6 (some 16) (undef) rfl rfl (by kernel_rfl) (by kernel_rfl) (by kernel_rfl) (fun _ _ _ h => h) (yg_skip rfl) (by assumption) ?_
    simp only [Act.put, List.setIfInBounds_toArray, List.set_cons_zero, List.set_cons_succ]
    refine takeH 7 (some 17) (undef) rfl rfl (by kernel_rfl) (by kernel_rfl) (by kernel_rfl) (fun _ _ _ h => h) (yg_skip rfl) (by assumption) ?_
    simp only [Act.put, List.setIfInBounds_toArray, List.set_cons_zero, List.set_cons_succ]
    refine takeH 8 (some 18) (undef) rfl rfl (by kernel_rfl) (by kernel_rfl) (by kernel_rfl) (fun _ _ _ h => h) (yg_skip rfl) (by assumption) ?_
    simp only [Act.put, List.setIfInBounds_toArray, List.set_cons_zero, List.set_cons_succ]
    refine takeH 9 (some 19) (undef) rfl rfl (by kernel_rfl) (by kernel_rfl) (by kernel_rfl) (fun _ _ _ h => h) (yg_skip rfl) (by assumption) ?_
    simp only [Act.put, List.setIfInBounds_toArray, List.set_cons_zero, List.set_cons_succ]
    refine takeH 10 (some 20) (.bool false) rfl rfl (by kernel_rfl) (by kernel_rfl) (by kernel_rfl) (fun _ _ _ h => h) (yg_pick rfl (.tmp 12) (.tmp 19) (.const (.bool false)) rfl false rfl _ rfl) (by assumption) ?_
    simp only [Act.put, List.setIfInBounds_toArray, List.set_cons_zero, List.set_cons_succ]
    refine wpAnyH_done (by kernel_rfl) ?_ _
    have A9 := A4
    have R9 := R4
    have B9 := B4
    have o9 := o4
    have hiR : w.heap.size + 1 < w2.heap.size := hi2
    have hbase := B.size
    clear c0 c1'
    have g0 := A9.c0
    have g1 := A9.c1
    go_wp2_with fail
    refine (kM _ _ _ o9).mono ?_
    rintro e w10 ⟨v10, rfl, o10, b10⟩
    have B10 := B9.trans (b10.mono B9.size)
    have R10 := R9.below b10 (Nat.le_refl _)
    have q0 := R10.c0
    have q1 := R10.c1
    have f0 := R10.f0
    have f1 := R10.f1
    obtain ⟨s10, rfl, q10⟩ := o10
    obtain ⟨ad5, cp5, rfl, -⟩ := q10.row
    have o6 := ownsRow_setCell_below (a := ⟨w.heap.size + 1, 0, none⟩) q10 (by exact hiR) (.bool nr)
    have o7 := ownsRow_setCell_below (a := ⟨w.heap.size + 1, 1, none⟩) o6 (by exact hiR) (.slice ad5 lr.length cp5)
    have HO : Hid (World.ownsRow _ w.heap.size 3 1 (.slice ad5 lr.length cp5) lr.length (lr.map (Value.int .i64))) := ownsRow_mono o7 hbase
    have HB : Hid (Below w.heap.size w _) := (B10.setCell (p := ⟨w.heap.size + 1, 0, none⟩) (by show w.heap.size ≤ w.heap.size + 1; omega) (.bool nr)).setCell (p := ⟨w.heap.size + 1, 1, none⟩) (by show w.heap.size ≤ w.heap.size + 1; omega) (.slice ad5 lr.length cp5)
    clear o6 o7 q10 g0 g1
    go_wp2
    (try simp only [Exit.inBlock, Exit.then])
    refine bodyPost_ret (v := .agg #[.bool nr, .slice ad5 lr.length cp5]) ?_ rfl ⟨_, rfl, ⟨_, rfl, HO.out⟩, HB.out⟩
    rw [results_cell1 rfl]
    go_simp
  · simp only [if_true] at sx
    have hle2 := cmpI_le hle
    by_cases hq : x.natAbs / 2 ^ k * 2 ^ k = x.natAbs
    · have hz : (if true = true then -((x.natAbs / 2 ^ k : Nat) : Int) else ((x.natAbs / 2 ^ k : Nat) : Int)) = x / 2 ^ k := by
        rw [if_pos rfl, hfn.1 hq, sx]
      have kM := fun v4 w4 base (h : ownsI w4 base v4 (limbs (x.natAbs / 2 ^ k))) => sMake true v4 (x.natAbs / 2 ^ k) base w4 h (by omega)
      rw [hz, hm5] at kM
      have hc0 : cmpI (x.natAbs / 2 ^ k * 2 ^ k) x.natAbs = 0 := by rw [hq]; unfold cmpI; simp
      simp only [hc0] at kC
      clear hm5 hs hs' hlx sx hz hle hlu hfp hfn hna hq hc0 hle2
      generalize x.natAbs / 2 ^ k * 2 ^ k = mu at *
      generalize x.natAbs = mx at *
      have s1 : (w.alloc (.cells #[.bool true, .slice a1 (limbs mx).length c1] 28)).heap.size = w.heap.size + 1 := by simp
      have A1 := (BoxW.made w (.bool true) (.slice a1 (limbs mx).length c1) 28).below (below1 _ (.cells #[.bool false, .slice none 0 0] 28)) (Nat.le_refl _)
      have R1 := BoxW.made (w.alloc (.cells #[.bool true, .slice a1 (limbs mx).length c1] 28)) (.bool false) (.slice none 0 0) 28
      rw [s1] at R1
      have B := below2 w (.cells #[.bool true, .slice a1 (limbs mx).length c1] 28) (.cells #[.bool false, .slice none 0 0] 28)
      have hi2 := R1.lt4
      clear s1
      go_enter Try.func36, Try.ntmps36
      go_wp2_with fail
      refine (kD _ B).mono ?_
      generalize (w.alloc (.cells #[.bool true, .slice a1 (limbs mx).length c1] 28)).alloc (.cells #[.bool false, .slice none 0 0] 28) = w2 at *
      rintro e w3 ⟨v3, rfl, o3, b3⟩
      have B3 := B.trans (b3.mono B.size)
      have A3 := A1.below b3 (Nat.le_refl _)
      have R3 := R1.below b3 (Nat.le_refl _)
      have hs3 := B3.size
      clear A1 R1 kD
      go_wp2_with fail
      have bd := (Below.refl w3.heap.size w3).drew
      have A4 := A3.below bd (Nat.le_refl _)
      have R4 := R3.below bd (Nat.le_refl _)
      have o4 := ownsI.below o3 bd (Nat.le_refl _)
      have B4 := B3.trans (bd.mono B3.size)
      have c0 := A4.c0
      have c1' := A4.c1
      go_region_held (fun w' => w'.cell? ⟨w.heap.size, 0, none⟩ = some (.bool true) ∧ w'.cell? ⟨w.heap.size, 1, none⟩ = some (.slice a1 (limbs mx).length c1)) (go_keep)
        (first
          | (go_at_call 58
             refine (kU v3 _ _ o4).mono ?_
             rintro e w5 ⟨v5, rfl, o5, b5⟩
             have A5 := A4.below b5 (Nat.le_refl _)
             have R5 := R4.below b5 (Nat.le_refl _)
             have oq := ownsI.below o4 b5 (Nat.le_refl _)
             have B5 := B4.trans (b5.mono B4.size)
             have d0 := A5.c0
             have d1 := A5.c1)
          | (go_at_call 54
             refine (kC v5 w5 _ o5 B5).mono ?_
             rintro e w6 ⟨rfl, rfl⟩))
      have A9 := A5
      have R9 := R5
      have B9 := B5
      have o9 := oq
      have hiR : w.heap.size + 1 < w2.heap.size := hi2
      have hbase := B.size
      clear c0 c1' d0 d1
      have g0 := A9.c0
      have g1 := A9.c1
      go_wp2_with fail
      refine (kM _ _ _ o9).mono ?_
      rintro e w10 ⟨v10, rfl, o10, b10⟩
      have B10 := B9.trans (b10.mono B9.size)
      have R10 := R9.below b10 (Nat.le_refl _)
      have q0 := R10.c0
      have q1 := R10.c1
      have f0 := R10.f0
      have f1 := R10.f1
      obtain ⟨s10, rfl, q10⟩ := o10
      obtain ⟨ad5, cp5, rfl, -⟩ := q10.row
      have o6 := ownsRow_setCell_below (a := ⟨w.heap.size + 1, 0, none⟩) q10 (by exact hiR) (.bool nr)
      have o7 := ownsRow_setCell_below (a := ⟨w.heap.size + 1, 1, none⟩) o6 (by exact hiR) (.slice ad5 lr.length cp5)
      have HO : Hid (World.ownsRow _ w.heap.size 3 1 (.slice ad5 lr.length cp5) lr.length (lr.map (Value.int .i64))) := ownsRow_mono o7 hbase
      have HB : Hid (Below w.heap.size w _) := (B10.setCell (p := ⟨w.heap.size + 1, 0, none⟩) (by show w.heap.size ≤ w.heap.size + 1; omega) (.bool nr)).setCell (p := ⟨w.heap.size + 1, 1, none⟩) (by show w.heap.size ≤ w.heap.size + 1; omega) (.slice ad5 lr.length cp5)
      clear o6 o7 q10 g0 g1
      go_wp2
      (try simp only [Exit.inBlock, Exit.then])
      refine bodyPost_ret (v := .agg #[.bool nr, .slice ad5 lr.length cp5]) ?_ rfl ⟨_, rfl, ⟨_, rfl, HO.out⟩, HB.out⟩
      rw [results_cell1 rfl]
      go_simp
    · have hz : (if true = true then -((x.natAbs / 2 ^ k + 1 : Nat) : Int) else ((x.natAbs / 2 ^ k + 1 : Nat) : Int)) = x / 2 ^ k := by
        rw [if_pos rfl, hfn.2 hq, sx]
      have hlq1 := succ_len (x.natAbs / 2 ^ k)
      have kM := fun v4 w4 base (h : ownsI w4 base v4 (limbs (x.natAbs / 2 ^ k + 1))) => sMake true v4 (x.natAbs / 2 ^ k + 1) base w4 h (by omega)
      rw [hz, hm5] at kM
      have kP := fun v W base (o : ownsI W base v (limbs (x.natAbs / 2 ^ k))) vo (oo : rowI W vo [1]) => sPlus v vo (limbs (x.natAbs / 2 ^ k)) [1] W o.row oo (limbs_inR _) inR_one (by omega) (by simp)
      simp only [num_limbs, num_one] at kP
      have hc0 : cmpI (x.natAbs / 2 ^ k * 2 ^ k) x.natAbs = -1 := by unfold cmpI; rw [if_pos (by omega)]
      simp only [hc0] at kC
      clear hm5 hs hs' hlx sx hz hle hlu hfp hfn hna hq hc0 hle2 hlq1
      generalize x.natAbs / 2 ^ k * 2 ^ k = mu at *
      generalize x.natAbs = mx at *
      have s1 : (w.alloc (.cells #[.bool true, .slice a1 (limbs mx).length c1] 28)).heap.size = w.heap.size + 1 := by simp
      have A1 := (BoxW.made w (.bool true) (.slice a1 (limbs mx).length c1) 28).below (below1 _ (.cells #[.bool false, .slice none 0 0] 28)) (Nat.le_refl _)
      have R1 := BoxW.made (w.alloc (.cells #[.bool true, .slice a1 (limbs mx).length c1] 28)) (.bool false) (.slice none 0 0) 28
      rw [s1] at R1
      have B := below2 w (.cells #[.bool true, .slice a1 (limbs mx).length c1] 28) (.cells #[.bool false, .slice none 0 0] 28)
      have hi2 := R1.lt4
      clear s1
      go_enter Try.func36, Try.ntmps36
      go_wp2_with fail
      refine (kD _ B).mono ?_
      generalize (w.alloc (.cells #[.bool true, .slice a1 (limbs mx).length c1] 28)).alloc (.cells #[.bool false, .slice none 0 0] 28) = w2 at *
      rintro e w3 ⟨v3, rfl, o3, b3⟩
      have B3 := B.trans (b3.mono B.size)
      have A3 := A1.below b3 (Nat.le_refl _)
      have R3 := R1.below b3 (Nat.le_refl _)
      have hs3 := B3.size
      clear A1 R1 kD
      go_wp2_with fail
      have bd := (Below.refl w3.heap.size w3).drew
      have A4 := A3.below bd (Nat.le_refl _)
      have R4 := R3.below bd (Nat.le_refl _)
      have o4 := ownsI.below o3 bd (Nat.le_refl _)
      have B4 := B3.trans (bd.mono B3.size)
      have c0 := A4.c0
      have c1' := A4.c1
      go_region_held (fun w' => w'.cell? ⟨w.heap.size, 0, none⟩ = some (.bool true) ∧ w'.cell? ⟨w.heap.size, 1, none⟩ = some (.slice a1 (limbs mx).length c1)) (go_keep)
        (first
          | (go_at_call 58
             refine (kU v3 _ _ o4).mono ?_
             rintro e w5 ⟨v5, rfl, o5, b5⟩
             have A5 := A4.below b5 (Nat.le_refl _)
             have R5 := R4.below b5 (Nat.le_refl _)
             have oq := ownsI.below o4 b5 (Nat.le_refl _)
             have B5 := B4.trans (b5.mono B4.size)
             have d0 := A5.c0
             have d1 := A5.c1)
          | (go_at_call 54
             refine (kC v5 w5 _ o5 B5).mono ?_
             rintro e w6 ⟨rfl, rfl⟩))
      have oo := one_row w6
      have b6 := below1 w6 (.cells #[.int .i64 1] 3)
      have oq6 := ownsI.below oq b6 (Nat.le_refl _)
      have A6 := A5.below b6 (Nat.le_refl _)
      have R6 := R5.below b6 (Nat.le_refl _)
      have B6 := B5.trans (b6.mono B5.size)
      go_wp2_with fail
      refine (kP _ _ _ oq6 _ oo).mono ?_
      rintro e w7 ⟨v7, rfl, o9, b7⟩
      have A9 := A6.below b7 (Nat.le_refl _)
      have R9 := R6.below b7 (Nat.le_refl _)
      have B9 := B6.trans (b7.mono B6.size)
      have hiR := R6.lt4
      have hbase := B6.size
      clear c0 c1' d0 d1
      have g0 := A9.c0
      have g1 := A9.c1
      go_wp2_with fail
      refine (kM _ _ _ o9).mono ?_
      rintro e w10 ⟨v10, rfl, o10, b10⟩
      have B10 := B9.trans (b10.mono B9.size)
      have R10 := R9.below b10 (Nat.le_refl _)
      have q0 := R10.c0
      have q1 := R10.c1
      have f0 := R10.f0
      have f1 := R10.f1
      obtain ⟨s10, rfl, q10⟩ := o10
      obtain ⟨ad5, cp5, rfl, -⟩ := q10.row
      have o6 := ownsRow_setCell_below (a := ⟨w.heap.size + 1, 0, none⟩) q10 (by exact hiR) (.bool nr)
      have o7 := ownsRow_setCell_below (a := ⟨w.heap.size + 1, 1, none⟩) o6 (by exact hiR) (.slice ad5 lr.length cp5)
      have HO : Hid (World.ownsRow _ w.heap.size 3 1 (.slice ad5 lr.length cp5) lr.length (lr.map (Value.int .i64))) := ownsRow_mono o7 hbase
      have HB : Hid (Below w.heap.size w _) := (B10.setCell (p := ⟨w.heap.size + 1, 0, none⟩) (by show w.heap.size ≤ w.heap.size + 1; omega) (.bool nr)).setCell (p := ⟨w.heap.size + 1, 1, none⟩) (by show w.heap.size ≤ w.heap.size + 1; omega) (.slice ad5 lr.length cp5)
      clear o6 o7 q10 g0 g1
      go_wp2
      (try simp only [Exit.inBlock, Exit.then])
      refine bodyPost_ret (v := .agg #[.bool nr, .slice ad5 lr.length cp5]) ?_ rfl ⟨_, rfl, ⟨_, rfl, HO.out⟩, HB.out⟩
      rw [results_cell1 rfl]
      go_simp

end Go.Proofs.Ytjelmbkngjlefaa

/- The specification's WholeOk, by its contract. -/
namespace Go.Proofs.Ytjelmbkngjlefaa
open Go.RowKit

set_option maxHeartbeats 1600000 in
theorem sWholeOk (va : Value) (a : Wh) (w : World) (ha : rowW w va a) (hl : a.2.length ≤ 1048576) :
    Calls Try.prog 32 #[va] w fun e w' => e = .returned (.bool (okW a)) ∧ Below w.heap.size w w' := by
  obtain ⟨s, rfl, hs⟩ := ha
  obtain ⟨n, xs⟩ := a
  have ka := fun W (h : Below w.heap.size w W) => sNatOk s xs W (hs.below h (Nat.le_refl _)) (by show xs.length ≤ _; have : xs.length ≤ 1048576 := hl; omega)
  obtain ⟨ad, cap, rfl, -⟩ := id hs
  have hw : okW (n, xs) = (okB xs && (!n || decide (0 < xs.length))) := rfl
  have HW : Hid (okW (n, xs) = (okB xs && (!n || decide (0 < xs.length)))) := hw
  obtain ⟨b, hb⟩ : ∃ b, okB xs = b := ⟨_, rfl⟩
  rw [hb] at HW ka
  have hp : decide ((0 : Int) < (xs.length : Int)) = decide (0 < xs.length) := by simp
  clear hw hb hs
  cases b <;> cases n
  all_goals
    go_enter Try.func32, Try.ntmps32
    go_wp2_with fail
    refine (ka _ ((Below.refl w.heap.size w).alloc (Nat.le_refl _) _)).mono ?_
    rintro e w1 ⟨rfl, rfl⟩
    go_wp2
    go_ret
    exact ⟨by rw [HW.out]; simp, (Below.refl w.heap.size w).alloc (Nat.le_refl _) _⟩

end Go.Proofs.Ytjelmbkngjlefaa

/- 'append(row of the call's own, row...)' as one step of a region that draws its order. -/
namespace Go.Proofs.Ytjelmbkngjlefaa
open Go.RowKit

theorem stepI_all (w0 w : World) {ops : Array Oper} {o : Oper} {a : Act} {K : Act → World → Prop} {Q : Exit → Act → World → Prop} {E : Prop} (hgd : o.guard = none) (s x : Operand)
    (ho : o.op = Op.call { callee := Callee.builtin Builtin.append, args := #[s, x], argTypes := #[22, 22] }) (base : Nat) (v v2 : Value) (xs ys : List Int)
    (hs : a.eval s = v) (hown : ownsI w base v xs) (hx : a.eval x = v2) (hy : rowI w v2 ys) (hb : Below base w0 w) (hlen : xs.length + ys.length ≤ 1099511627776) (hbase : base ≤ w.heap.size)
    (h : ∀ v' w', ownsI w' base v' (xs ++ ys) → Below base w0 w' → K (a.put o.dst v') w') :
    if Region.wanted o (yielded ops a.tmps) = true then Oper.wp Try.prog o a w K Q else E := by
  have hw : Region.wanted o (yielded ops a.tmps) = true := by simp [Region.wanted, hgd]
  rw [if_pos hw]
  obtain ⟨i0, hi, hz0, hz1, hz2⟩ := info_parts Try.info3
  obtain ⟨ad, cap, rfl, h2, h3, h4, h5, h6⟩ := hy
  cases ad with
  | none =>
    have hc := h4 rfl
    have hy0 : ys.length = 0 := by omega
    obtain rfl := List.eq_nil_of_length_eq_zero hy0
    subst hc
    have hx' : a.eval x = .slice none 0 0 := hx
    have hrun := run_append_owned_none (P := Try.prog) (w := w) base 22 o.type 3 i0 1 Try.underlying22 hi v xs.length (xs.map (Value.int .i64)) hown
    unfold Oper.wp
    simp [execOp, ho, resolve, invoke, builtin, hs, hx', hrun, Result.andThen]
    exact h v w (by rw [List.append_nil]; exact hown) hb
  | some ad =>
    obtain ⟨g0, off0, spot⟩ := ad
    have hsp : spot = none := h5 _ rfl
    subst hsp
    refine wp_append_own _ s x 22 ho base 3 i0 (.int .i64 0) 1 8 Try.underlying22 hi hz0 hz1 hz2 rfl (by decide) v xs.length (xs.map (Value.int .i64)) hs hown ⟨g0, off0, none⟩ ys.length cap (ys.map (Value.int .i64)) hx (by simp) ?_ ?_ ?_ ?_ hbase ?_
    · intro j u hj
      rw [List.getElem?_map] at hj
      have hjl : j < ys.length := by
        apply Classical.byContradiction; intro hn
        rw [List.getElem?_eq_none (by omega)] at hj; cases hj
      obtain ⟨g, off, e, hg, hc⟩ := h6 j hjl
      cases e
      rw [List.getElem?_eq_getElem hjl] at hj
      simp only [Option.map_some, Option.some.injEq] at hj
      subst hj
      have hgd : ys.getD j 0 = ys[j] := by rw [List.getD_eq_getElem?_getD, List.getElem?_eq_getElem hjl]; rfl
      rw [hgd] at hc
      unfold Addr.add
      by_cases hj0 : j = 0
      · subst hj0; simpa using hc
      · simpa [hj0] using hc
    · intro u hu; obtain ⟨z, _, rfl⟩ := List.mem_map.1 hu; rfl
    · unfold maxLen; omega
    · omega
    · intro v' w' ho' hg _
      refine h v' w' ?_ (hb.grown hg hbase fun k hk => (World.ownsRow.lt hown k hk).1)
      unfold ownsI
      rw [List.length_append, List.map_append]
      exact ho'

end Go.Proofs.Ytjelmbkngjlefaa

/- The specification's l4Neg, by its contract. -/
namespace Go.Proofs.Ytjelmbkngjlefaa
open Go.RowKit

set_option maxRecDepth 20000 in
set_option maxHeartbeats 400000 in
theorem sWNeg (va : Value) (x : Int) (w : World) (ha : rowW w va (mkW x)) (hlx : (limbs x.natAbs).length ≤ 1048576) :
    Calls Try.prog 60 #[va] w fun e w' => ∃ v, e = .returned v ∧ ownsW w' w.heap.size v (mkW (-x)) ∧ Below w.heap.size w w' := by
  obtain ⟨s, rfl, hs⟩ := ha
  have hs' : rowI w s (limbs x.natAbs) := hs
  obtain ⟨n, hn⟩ : ∃ n, (mkW x).1 = n := ⟨_, rfl⟩
  have hz : (if (!n) = true then -(x.natAbs : Int) else (x.natAbs : Int)) = -x := by
    rw [← hn]
    unfold mkW
    by_cases h : x < 0
    · simp [h]; omega
    · simp [h]; omega
  rw [hn]
  obtain ⟨a1, c1, rfl, -⟩ := id hs'
  obtain ⟨m, hm⟩ : ∃ m, x.natAbs = m := ⟨_, rfl⟩
  rw [hm] at hs' hlx hz
  rw [hm]
  have HZ : Hid ((if (!n) = true then -(m : Int) else (m : Int)) = -x) := hz
  have kM := fun v4 base w4 (h : ownsI w4 base v4 (limbs m)) => sMake (!n) v4 m base w4 h (by omega)
  rw [hz] at kM
  obtain ⟨nb, lb, hm5⟩ : ∃ nb lb, mkW (-x) = (nb, lb) := ⟨_, _, rfl⟩
  rw [hm5] at kM
  rw [hm5]
  clear hs hz hn hm hm5 HZ
  -- the boxes
  have s1 : (w.alloc (.cells #[.bool n, .slice a1 (limbs m).length c1] 28)).heap.size = w.heap.size + 1 := by simp
  have A0 := BoxW.made w (.bool n) (.slice a1 (limbs m).length c1) 28
  have A1 := A0.below (below1 _ (.cells #[.bool false, .slice none 0 0] 28)) (Nat.le_refl _)
  have R1 := BoxW.made (w.alloc (.cells #[.bool n, .slice a1 (limbs m).length c1] 28)) (.bool false) (.slice none 0 0) 28
  rw [s1] at R1
  have B := below2 w (.cells #[.bool n, .slice a1 (limbs m).length c1] 28) (.cells #[.bool false, .slice none 0 0] 28)
  have hsz : ((w.alloc (.cells #[.bool n, .slice a1 (limbs m).length c1] 28)).alloc (.cells #[.bool false, .slice none 0 0] 28)).heap.size = w.heap.size + 2 := by simp
  go_enter Try.func60, Try.ntmps60
  go_wp2_with fail
  clear A0 s1
  generalize (w.alloc (.cells #[.bool n, .slice a1 (limbs m).length c1] 28)).alloc (.cells #[.bool false, .slice none 0 0] 28) = w2 at *
  have b2 := (Below.refl w2.heap.size w2).drew
  have A2 := A1.below b2 (Nat.le_refl _)
  have R2 := R1.below b2 (Nat.le_refl _)
  have B2 := B.trans (b2.mono B.size)
  have ho : ownsI (w2.alloc (.cells #[] 3)).drew w2.heap.size (.slice (some ⟨w2.heap.size, 0, none⟩) 0 0) [] := made_own w2
  have b3 : Below w2.heap.size w2 (w2.alloc (.cells #[] 3)).drew := (below1 w2 (.cells #[] 3)).drew
  have A3 := A1.below b3 (Nat.le_refl _)
  have hr3 := hs'.below (B.trans (b3.mono B.size)) (Nat.le_refl _)
  have hb3 : w2.heap.size ≤ (w2.alloc (.cells #[] 3)).drew.heap.size := b3.size
  clear hsz
  have a0 := A2.c0
  have a1' := A2.c1
  have a03 := A3.c0
  have a13 := A3.c1
  go_region_held_law (fun w' => w'.cell? ⟨w.heap.size, 0, none⟩ = some (.bool n) ∧ w'.cell? ⟨w.heap.size, 1, none⟩ = some (.slice a1 (limbs m).length c1)) (go_keep)
    (first
      | (go_at_call 55
         refine (kM v4 w2.heap.size w4 o4).mono ?_
         rintro e w5 ⟨v5, rfl, o5, b5⟩
         have A5 := A4.below b5 (Nat.le_refl _)
         have R5 := R4.below b5 (Nat.le_refl _)
         have B5 := B4.trans (b5.mono B4.size)
         have a05 := A5.c0
         have a15 := A5.c1
         obtain ⟨s5, rfl, q5⟩ := o5
         obtain ⟨ad5, cp5, rfl, -⟩ := q5.row
         have r05 := R5.c0
         have r15 := R5.c1
         have f05 := R5.f0
         have f15 := R5.f1)
      | (refine stepI_all w2 _ rfl (.tmp 6) (.tmp 8) rfl w2.heap.size _ _ [] (limbs m) rfl ho rfl hr3 b3 (by simp; omega) hb3 ?_
         intro v4 w4 o4 b4
         rw [List.nil_append] at o4
         have A4 := A1.below b4 (Nat.le_refl _)
         have R4 := R1.below b4 (Nat.le_refl _)
         have B4 := B.trans (b4.mono B.size)
         have a04 := A4.c0
         have a14 := A4.c1))
  have hi1 := R1.hi
  have o6 := ownsRow_setCell_below (a := ⟨w.heap.size + 1, 0, none⟩) q5 (by exact hi1) (.bool nb)
  have o7 := ownsRow_setCell_below (a := ⟨w.heap.size + 1, 1, none⟩) o6 (by exact hi1) (.slice ad5 lb.length cp5)
  have B7 := (B5.setCell (p := ⟨w.heap.size + 1, 0, none⟩) (by show w.heap.size ≤ w.heap.size + 1; omega) (.bool nb)).setCell (p := ⟨w.heap.size + 1, 1, none⟩) (by show w.heap.size ≤ w.heap.size + 1; omega) (.slice ad5 lb.length cp5)
  have HO : Hid (World.ownsRow _ w.heap.size 3 1 (.slice ad5 lb.length cp5) lb.length (lb.map (Value.int .i64))) := ownsRow_mono o7 (by omega)
  have HB : Hid (Below w.heap.size w _) := B7
  clear o6 o7 B7 q5
  go_wp2
  (try simp only [Exit.inBlock, Exit.then])
  refine bodyPost_ret (v := .agg #[.bool nb, .slice ad5 lb.length cp5]) ?_ rfl ⟨_, rfl, ⟨_, rfl, HO.out⟩, HB.out⟩
  rw [results_cell1 rfl]
  go_simp

end Go.Proofs.Ytjelmbkngjlefaa
