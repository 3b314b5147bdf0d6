/- The specification's l5At and RoundAt, each by its contract. -/
import Derived.Test.YtnplnekfeabneaaSRoundF
namespace Go.Proofs.Ytnplnekfeabneaa
open Go.RowKit
set_option linter.unusedSimpArgs false

theorem powS_len (k L : Nat) (h : k < 24 * L) : (limbs (2 ^ k)).length ≤ L := limbs_len_le _ L (by
  have e : (16777216 : Nat) ^ L = 2 ^ (24 * L) := by rw [Nat.pow_mul]
  rw [e]
  exact Nat.pow_lt_pow_right (by omega) h)
theorem natAbs_two_pow (k : Nat) : ((2 : Int) ^ k).natAbs = 2 ^ k := by rw [Int.natAbs_pow]; rfl

set_option maxRecDepth 20000 in
set_option maxHeartbeats 6400000 in
theorem sAt (va : Value) (x : Int) (k : Nat) (mode : Int) (w : World) (ha : rowW w va (mkW x)) (hlx : (limbs x.natAbs).length ≤ 200) (hk : k ≤ 600) (hm0 : 0 ≤ mode) (hm4 : mode ≤ 4) :
    Calls Try.prog 17 #[va, .int .i64 k, .int .i64 mode] w fun e w' => ∃ v, e = .returned v ∧ ownsW w' w.heap.size v (mkW (fracI x (2 ^ k) mode)) ∧ Below w.heap.size w w' := by
  have hlp : (limbs ((2 : Int) ^ k).natAbs).length ≤ 60 := by rw [natAbs_two_pow]; exact powS_len k 60 (by omega)
  have h1n : (limbs (1 : Int).natAbs).length ≤ 1 := limbs_len_le _ 1 (by decide)
  have k1 := fun W => sOne W
  have kU := fun v W (q : rowW W v (mkW 1)) => sWUp v 1 k W q (by omega) (by omega)
  rw [Int.one_mul] at kU
  have kF := fun v W (h : Below w.heap.size w W) (q : rowW W v (mkW (2 ^ k))) => sFrac va v x (2 ^ k) mode W (ha.below h (Nat.le_refl _)) q hlx (by omega) (Int.pow_pos (by omega)) hm0 hm4
  obtain ⟨s, rfl, hs⟩ := ha
  obtain ⟨a1, c1, rfl, -⟩ := id hs
  clear hs hlx hlp h1n hm0 hm4
  obtain ⟨nr, lr, hm5⟩ : ∃ nb lb, mkW (fracI x (2 ^ k) mode) = (nb, lb) := ⟨_, _, rfl⟩
  rw [hm5] at kF
  rw [hm5]
  clear hm5
  generalize mkW ((2 : Int) ^ k) = rp at *
  generalize mkW 1 = ro at *
  generalize (mkW x).1 = na at *
  generalize (mkW x).2.length = la at *
  have s1 : (w.alloc (.cells #[.bool na, .slice a1 la c1] 28)).heap.size = w.heap.size + 1 := by simp
  have A1 := (BoxW.made w (.bool na) (.slice a1 la c1) 28).below (below1 _ (.cells #[.bool false, .slice none 0 0] 28)) (Nat.le_refl _)
  have R1 := BoxW.made (w.alloc (.cells #[.bool na, .slice a1 la c1] 28)) (.bool false) (.slice none 0 0) 28
  rw [s1] at R1
  have B := below2 w (.cells #[.bool na, .slice a1 la c1] 28) (.cells #[.bool false, .slice none 0 0] 28)
  clear s1
  go_enter Try.func17, Try.ntmps17
  go_wp2_with fail
  generalize (w.alloc (.cells #[.bool na, .slice a1 la c1] 28)).alloc (.cells #[.bool false, .slice none 0 0] 28) = w2 at *
  have b2 := (Below.refl w2.heap.size w2).drew
  have A2 := A1.below b2 (Nat.le_refl _)
  have R2 := R1.below b2 (Nat.le_refl _)
  have B2 := B.trans (b2.mono B.size)
  have a02 := A2.c0
  have a12 := A2.c1
  have n1 : ¬ (w.heap.size = w.heap.size + 1) := by omega
  have n2 : ¬ (w.heap.size + 1 = w.heap.size) := by omega
  go_region_held (fun w' => w'.cell? ⟨w.heap.size, 0, none⟩ = some (.bool na) ∧ w'.cell? ⟨w.heap.size, 1, none⟩ = some (.slice a1 la c1)) (go_keep)
    (first
      | (go_at_call 20
         refine (k1 _).mono ?_
         rintro e w4 ⟨v4, rfl, o4, b4⟩
         have A4 := A2.below b4 (Nat.le_refl _)
         have R4 := R2.below b4 (Nat.le_refl _)
         have B4 := B2.trans (b4.mono B2.size)
         have a04 := A4.c0
         have a14 := A4.c1)
      | (go_at_call 19
         refine (kU v4 w4 o4.row).mono ?_
         rintro e w5 ⟨v5, rfl, o5, b5⟩
         have A5 := A4.below b5 (Nat.le_refl _)
         have R5 := R4.below b5 (Nat.le_refl _)
         have B5 := B4.trans (b5.mono B4.size)
         have a05 := A5.c0
         have a15 := A5.c1)
      | (go_at_call 38
         refine (kF v5 w5 B5 o5.row).mono ?_
         rintro e w6 ⟨v6, rfl, o6, b6⟩
         have A6 := A5.below b6 (Nat.le_refl _)
         have R6 := R5.below b6 (Nat.le_refl _)
         have B6 := B5.trans (b6.mono B5.size)
         have a06 := A6.c0
         have a16 := A6.c1
         obtain ⟨s6, rfl, q6⟩ := o6
         obtain ⟨ad6, cp6, rfl, -⟩ := q6.row
         have r06 := R6.c0
         have r16 := R6.c1
         have f06 := R6.f0
         have f16 := R6.f1))
  have hi1 : w.heap.size + 1 < w5.heap.size := R5.hi
  have o8 := ownsRow_setCell_below (a := ⟨w.heap.size + 1, 0, none⟩) q6 (by exact hi1) (.bool nr)
  have o9 := ownsRow_setCell_below (a := ⟨w.heap.size + 1, 1, none⟩) o8 (by exact hi1) (.slice ad6 lr.length cp6)
  have HO : Hid (World.ownsRow _ w.heap.size 3 1 (.slice ad6 lr.length cp6) lr.length (lr.map (Value.int .i64))) := ownsRow_mono o9 B5.size
  have HB : Hid (Below w.heap.size w _) := (B6.setCell (p := ⟨w.heap.size + 1, 0, none⟩) (by show w.heap.size ≤ w.heap.size + 1; omega) (.bool nr)).setCell (p := ⟨w.heap.size + 1, 1, none⟩) (by show w.heap.size ≤ w.heap.size + 1; omega) (.slice ad6 lr.length cp6)
  clear o8 o9 q6
  go_wp2
  (try simp only [Exit.inBlock, Exit.then])
  refine bodyPost_ret (v := .agg #[.bool nr, .slice ad6 lr.length cp6]) ?_ rfl ⟨_, rfl, ⟨_, rfl, HO.out⟩, HB.out⟩
  rw [results_cell1 rfl]
  go_simp

end Go.Proofs.Ytnplnekfeabneaa
