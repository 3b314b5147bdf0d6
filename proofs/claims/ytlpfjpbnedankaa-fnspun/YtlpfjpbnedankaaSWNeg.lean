/- The specification's l4Neg, by its contract. -/
import Derived.Test.YtlpfjpbnedankaaSW
import Derived.Test.YtlpfjpbnedankaaStepI
namespace Go.Proofs.Ytlpfjpbnedankaa
open Go.RowKit

set_option maxRecDepth 20000 in
set_option maxHeartbeats 400000 in
theorem sWNeg (va : Value) (x : Int) (w : World) (ha : rowW w va (mkW x)) (hlx : (limbs x.natAbs).length ≤ 1048576) :
    Calls Try.prog 82 #[va] w fun e w' => ∃ v, e = .returned v ∧ ownsW w' w.heap.size v (mkW (-x)) ∧ Below w.heap.size w w' := by
  obtain ⟨s, rfl, hs⟩ := ha
  have hs' : rowI w s (limbs x.natAbs) := hs
  obtain ⟨n, hn⟩ : ∃ n, (mkW x).1 = n := ⟨_, rfl⟩
  have hz : (if (!n) = true then -(x.natAbs : Int) else (x.natAbs : Int)) = -x := by
    rw [← hn]
    unfold mkW
    by_cases h : x < 0
    · simp [h]; omega
    · simp [h]; omega
  rw [hn]
  obtain ⟨a1, c1, rfl, -⟩ := id hs'
  obtain ⟨m, hm⟩ : ∃ m, x.natAbs = m := ⟨_, rfl⟩
  rw [hm] at hs' hlx hz
  rw [hm]
  have HZ : Hid ((if (!n) = true then -(m : Int) else (m : Int)) = -x) := hz
  have kM := fun v4 base w4 (h : ownsI w4 base v4 (limbs m)) => sMake (!n) v4 m base w4 h (by omega)
  rw [hz] at kM
  obtain ⟨nb, lb, hm5⟩ : ∃ nb lb, mkW (-x) = (nb, lb) := ⟨_, _, rfl⟩
  rw [hm5] at kM
  rw [hm5]
  clear hs hz hn hm hm5 HZ
  -- the boxes
  have s1 : (w.alloc (.cells #[.bool n, .slice a1 (limbs m).length c1] 27)).heap.size = w.heap.size + 1 := by simp
  have A0 := BoxW.made w (.bool n) (.slice a1 (limbs m).length c1) 27
  have A1 := A0.below (below1 _ (.cells #[.bool false, .slice none 0 0] 27)) (Nat.le_refl _)
  have R1 := BoxW.made (w.alloc (.cells #[.bool n, .slice a1 (limbs m).length c1] 27)) (.bool false) (.slice none 0 0) 27
  rw [s1] at R1
  have B := below2 w (.cells #[.bool n, .slice a1 (limbs m).length c1] 27) (.cells #[.bool false, .slice none 0 0] 27)
  have hsz : ((w.alloc (.cells #[.bool n, .slice a1 (limbs m).length c1] 27)).alloc (.cells #[.bool false, .slice none 0 0] 27)).heap.size = w.heap.size + 2 := by simp
  go_enter Try.func82, Try.ntmps82
  go_wp2_with fail
  clear A0 s1
  generalize (w.alloc (.cells #[.bool n, .slice a1 (limbs m).length c1] 27)).alloc (.cells #[.bool false, .slice none 0 0] 27) = w2 at *
  have b2 := (Below.refl w2.heap.size w2).drew
  have A2 := A1.below b2 (Nat.le_refl _)
  have R2 := R1.below b2 (Nat.le_refl _)
  have B2 := B.trans (b2.mono B.size)
  have ho : ownsI (w2.alloc (.cells #[] 3)).drew w2.heap.size (.slice (some ⟨w2.heap.size, 0, none⟩) 0 0) [] := made_own w2
  have b3 : Below w2.heap.size w2 (w2.alloc (.cells #[] 3)).drew := (below1 w2 (.cells #[] 3)).drew
  have A3 := A1.below b3 (Nat.le_refl _)
  have hr3 := hs'.below (B.trans (b3.mono B.size)) (Nat.le_refl _)
  have hb3 : w2.heap.size ≤ (w2.alloc (.cells #[] 3)).drew.heap.size := b3.size
  clear hsz
  have a0 := A2.c0
  have a1' := A2.c1
  have a03 := A3.c0
  have a13 := A3.c1
  go_region_held_law (fun w' => w'.cell? ⟨w.heap.size, 0, none⟩ = some (.bool n) ∧ w'.cell? ⟨w.heap.size, 1, none⟩ = some (.slice a1 (limbs m).length c1)) (go_keep)
    (first
      | (go_at_call 83
         refine (kM v4 w2.heap.size w4 o4).mono ?_
         rintro e w5 ⟨v5, rfl, o5, b5⟩
         have A5 := A4.below b5 (Nat.le_refl _)
         have R5 := R4.below b5 (Nat.le_refl _)
         have B5 := B4.trans (b5.mono B4.size)
         have a05 := A5.c0
         have a15 := A5.c1
         obtain ⟨s5, rfl, q5⟩ := o5
         obtain ⟨ad5, cp5, rfl, -⟩ := q5.row
         have r05 := R5.c0
         have r15 := R5.c1
         have f05 := R5.f0
         have f15 := R5.f1)
      | (refine stepI_all w2 _ rfl (.tmp 6) (.tmp 8) rfl w2.heap.size _ _ [] (limbs m) rfl ho rfl hr3 b3 (by simp; omega) hb3 ?_
         intro v4 w4 o4 b4
         rw [List.nil_append] at o4
         have A4 := A1.below b4 (Nat.le_refl _)
         have R4 := R1.below b4 (Nat.le_refl _)
         have B4 := B.trans (b4.mono B.size)
         have a04 := A4.c0
         have a14 := A4.c1))
  have hi1 := R1.hi
  have o6 := ownsRow_setCell_below (a := ⟨w.heap.size + 1, 0, none⟩) q5 (by exact hi1) (.bool nb)
  have o7 := ownsRow_setCell_below (a := ⟨w.heap.size + 1, 1, none⟩) o6 (by exact hi1) (.slice ad5 lb.length cp5)
  have B7 := (B5.setCell (p := ⟨w.heap.size + 1, 0, none⟩) (by show w.heap.size ≤ w.heap.size + 1; omega) (.bool nb)).setCell (p := ⟨w.heap.size + 1, 1, none⟩) (by show w.heap.size ≤ w.heap.size + 1; omega) (.slice ad5 lb.length cp5)
  have HO : Hid (World.ownsRow _ w.heap.size 3 1 (.slice ad5 lb.length cp5) lb.length (lb.map (Value.int .i64))) := ownsRow_mono o7 (by omega)
  have HB : Hid (Below w.heap.size w _) := B7
  clear o6 o7 B7 q5
  go_wp2
  (try simp only [Exit.inBlock, Exit.then])
  refine bodyPost_ret (v := .agg #[.bool nb, .slice ad5 lb.length cp5]) ?_ rfl ⟨_, rfl, ⟨_, rfl, HO.out⟩, HB.out⟩
  rw [results_cell1 rfl]
  go_simp

end Go.Proofs.Ytlpfjpbnedankaa
