/- Several small texts in one: BoxLt, SWUp, SWFloor. -/
import Derived.Test.YtlpfjpbnedankaaBase
import Derived.Deep.RegionHeld
import Derived.Test.YtlpfjpbnedankaaSW
import Derived.Test.YtlpfjpbnedankaaUB
import Derived.Test.YtlpfjpbnedankaaGC
import Derived.Test.YtlpfjpbnedankaaGB
import Derived.Test.YtlpfjpbnedankaaNB
/- A box lies in the world (no walk). -/
namespace Go.Proofs.Ytlpfjpbnedankaa
open Go.RowKit

theorem BoxW.lt4 {w : World} {base b : Nat} {x y : Value} (h : BoxW w base b x y) : b < w.heap.size := block_lt_of_cell h.c0

end Go.Proofs.Ytlpfjpbnedankaa

/- The specification's l4Up, by its contract. -/
namespace Go.Proofs.Ytlpfjpbnedankaa
open Go.RowKit

theorem up_len (m k L : Nat) (h : (limbs m).length ≤ L) : (limbs (m * 2 ^ k)).length ≤ L + (k + 1) := by
  have h1 := mul_limbs_len m (2 ^ k)
  have h2 := limbs_len_le (2 ^ k) (k + 1) (by
    have h3 : (2 : Nat) ^ k < 2 ^ (k + 1) := Nat.pow_lt_pow_right (by omega) (by omega)
    have h4 : (2 : Nat) ^ (k + 1) ≤ 16777216 ^ (k + 1) := Nat.pow_le_pow_left (by omega) _
    omega)
  omega
theorem up_sign (na : Bool) (mx k : Nat) : (if na = true then -((mx * 2 ^ k : Nat) : Int) else ((mx * 2 ^ k : Nat) : Int)) = (if na = true then -(mx : Int) else (mx : Int)) * 2 ^ k := by
  cases na <;> simp [Int.neg_mul]

set_option maxHeartbeats 1600000 in
theorem sWUp (va : Value) (x : Int) (k : Nat) (w : World) (ha : rowW w va (mkW x)) (hlx : (limbs x.natAbs).length ≤ 10000) (hk : k ≤ 100000) :
    Calls Try.prog 50 #[va, .int .i64 k] w fun e w' => ∃ v, e = .returned v ∧ ownsW w' w.heap.size v (mkW (x * 2 ^ k)) ∧ Below w.heap.size w w' := by
  obtain ⟨s, rfl, hs⟩ := ha
  have hs' : rowI w s (limbs x.natAbs) := hs
  have sx := signed x
  obtain ⟨a1, c1, rfl, -⟩ := id hs'
  have ku := fun W (h : Below w.heap.size w W) => sUp _ (limbs x.natAbs) k W (hs'.below h (Nat.le_refl _)) (limbs_inR _) (by omega) (by omega)
  simp only [num_limbs] at ku
  have kM := fun v4 w4 base (h : ownsI w4 base v4 (limbs (x.natAbs * 2 ^ k))) => sMake (mkW x).1 v4 (x.natAbs * 2 ^ k) base w4 h (by have := up_len x.natAbs k 10000 hlx; omega)
  rw [up_sign, sx] at kM
  obtain ⟨nr, lr, hm5⟩ : ∃ nb lb, mkW (x * 2 ^ k) = (nb, lb) := ⟨_, _, rfl⟩
  rw [hm5] at kM
  rw [hm5]
  clear hm5 hs hs' hlx sx
  generalize (mkW x).1 = na at *
  generalize x.natAbs = mx at *
  have s1 : (w.alloc (.cells #[.bool na, .slice a1 (limbs mx).length c1] 27)).heap.size = w.heap.size + 1 := by simp
  have A1 := (BoxW.made w (.bool na) (.slice a1 (limbs mx).length c1) 27).below (below1 _ (.cells #[.bool false, .slice none 0 0] 27)) (Nat.le_refl _)
  have R1 := BoxW.made (w.alloc (.cells #[.bool na, .slice a1 (limbs mx).length c1] 27)) (.bool false) (.slice none 0 0) 27
  rw [s1] at R1
  have B := below2 w (.cells #[.bool na, .slice a1 (limbs mx).length c1] 27) (.cells #[.bool false, .slice none 0 0] 27)
  clear s1
  go_enter Try.func50, Try.ntmps50
  go_wp2_with fail
  generalize (w.alloc (.cells #[.bool na, .slice a1 (limbs mx).length c1] 27)).alloc (.cells #[.bool false, .slice none 0 0] 27) = w2 at *
  have b2 := (Below.refl w2.heap.size w2).drew
  have A2 := A1.below b2 (Nat.le_refl _)
  have R2 := R1.below b2 (Nat.le_refl _)
  have B2 := B.trans (b2.mono B.size)
  have a02 := A2.c0
  have a12 := A2.c1
  have n1 : ¬ (w.heap.size = w.heap.size + 1) := by omega
  have n2 : ¬ (w.heap.size + 1 = w.heap.size) := by omega
  go_region_held (fun w' => w'.cell? ⟨w.heap.size, 0, none⟩ = some (.bool na) ∧ w'.cell? ⟨w.heap.size, 1, none⟩ = some (.slice a1 (limbs mx).length c1)) (go_keep)
    (first
      | (go_at_call 84
         refine (ku _ B2).mono ?_
         rintro e w4 ⟨v4, rfl, o4, b4⟩
         have A4 := A2.below b4 (Nat.le_refl _)
         have R4 := R2.below b4 (Nat.le_refl _)
         have B4 := B2.trans (b4.mono B2.size)
         have a04 := A4.c0
         have a14 := A4.c1)
      | (go_at_call 83
         refine (kM v4 w4 _ o4).mono ?_
         rintro e w5 ⟨v5, rfl, o5, b5⟩
         have A5 := A4.below b5 (Nat.le_refl _)
         have R5 := R4.below b5 (Nat.le_refl _)
         have B5 := B4.trans (b5.mono B4.size)
         have a05 := A5.c0
         have a15 := A5.c1
         obtain ⟨s5, rfl, q5⟩ := o5
         obtain ⟨ad5, cp5, rfl, -⟩ := q5.row
         have r05 := R5.c0
         have r15 := R5.c1
         have f05 := R5.f0
         have f15 := R5.f1))
  have hi1 : w.heap.size + 1 < w2.drew.heap.size := R2.lt4
  have o6 := ownsRow_setCell_below (a := ⟨w.heap.size + 1, 0, none⟩) q5 (by exact hi1) (.bool nr)
  have o7 := ownsRow_setCell_below (a := ⟨w.heap.size + 1, 1, none⟩) o6 (by exact hi1) (.slice ad5 lr.length cp5)
  have HO : Hid (World.ownsRow _ w.heap.size 3 1 (.slice ad5 lr.length cp5) lr.length (lr.map (Value.int .i64))) := ownsRow_mono o7 B2.size
  have HB : Hid (Below w.heap.size w _) := (B5.setCell (p := ⟨w.heap.size + 1, 0, none⟩) (by show w.heap.size ≤ w.heap.size + 1; omega) (.bool nr)).setCell (p := ⟨w.heap.size + 1, 1, none⟩) (by show w.heap.size ≤ w.heap.size + 1; omega) (.slice ad5 lr.length cp5)
  clear o6 o7 q5
  go_wp2
  (try simp only [Exit.inBlock, Exit.then])
  refine bodyPost_ret (v := .agg #[.bool nr, .slice ad5 lr.length cp5]) ?_ rfl ⟨_, rfl, ⟨_, rfl, HO.out⟩, HB.out⟩
  rw [results_cell1 rfl]
  go_simp

end Go.Proofs.Ytlpfjpbnedankaa

/- The specification's l4Floor, by its contract. -/
namespace Go.Proofs.Ytlpfjpbnedankaa
open Go.RowKit
set_option linter.unusedSimpArgs false

theorem ediv_is {x z P : Int} (hP : 0 < P) (h1 : z * P ≤ x) (h2 : x < z * P + P) : x / P = z := by
  have h3 := (Int.le_ediv_iff_mul_le hP).2 h1
  have h4 : x / P < z + 1 := (Int.ediv_lt_iff_lt_mul hP).2 (by rw [Int.add_mul, Int.one_mul]; exact h2)
  omega
theorem succ_len (m : Nat) : (limbs (m + 1)).length ≤ (limbs m).length + 1 := by
  have h1 := limbs_lt m
  refine limbs_len_le _ _ ?_
  rw [Nat.pow_succ]
  have h2 : 0 < 16777216 ^ (limbs m).length := Nat.pow_pos (by omega)
  omega
theorem floor_pos (m k : Nat) : ((m / 2 ^ k : Nat) : Int) = (m : Int) / 2 ^ k := by simp
theorem floor_neg (m k : Nat) : (m / 2 ^ k * 2 ^ k = m → -((m / 2 ^ k : Nat) : Int) = -(m : Int) / 2 ^ k) ∧ (m / 2 ^ k * 2 ^ k ≠ m → -((m / 2 ^ k + 1 : Nat) : Int) = -(m : Int) / 2 ^ k) := by
  have hP : (0 : Int) < 2 ^ k := Int.pow_pos (by omega)
  have e1 : ((2 ^ k : Nat) : Int) = (2 : Int) ^ k := by simp
  have hd := Nat.div_add_mod m (2 ^ k)
  have hm := Nat.mod_lt m (show 0 < 2 ^ k from Nat.pow_pos (by omega))
  rw [Nat.mul_comm] at hd
  have hd' : ((m / 2 ^ k : Nat) : Int) * 2 ^ k + ((m % 2 ^ k : Nat) : Int) = (m : Int) := by rw [← e1]; exact_mod_cast hd
  constructor
  · intro h
    symm
    apply ediv_is hP
    · have : ((m / 2 ^ k : Nat) : Int) * 2 ^ k = (m : Int) := by rw [← e1]; exact_mod_cast h
      rw [Int.neg_mul]; omega
    · have : ((m / 2 ^ k : Nat) : Int) * 2 ^ k = (m : Int) := by rw [← e1]; exact_mod_cast h
      rw [Int.neg_mul]; omega
  · intro h
    have hr : 0 < m % 2 ^ k := by
      apply Nat.pos_of_ne_zero
      intro h0
      exact h (by omega)
    symm
    apply ediv_is hP
    · rw [Int.neg_mul, show ((m / 2 ^ k + 1 : Nat) : Int) = ((m / 2 ^ k : Nat) : Int) + 1 by omega, Int.add_mul, Int.one_mul]
      omega
    · rw [Int.neg_mul, show ((m / 2 ^ k + 1 : Nat) : Int) = ((m / 2 ^ k : Nat) : Int) + 1 by omega, Int.add_mul, Int.one_mul]
      omega

end Go.Proofs.Ytlpfjpbnedankaa
