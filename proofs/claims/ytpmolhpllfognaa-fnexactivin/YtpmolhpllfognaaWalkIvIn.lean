/- The law FnExactIvIn: its walk, out of the two contracts (written by genlaw.py from the signature VV>B). -/
import Derived.Test.YtpmolhpllfognaaTn0
import Derived.Test.YtpmolhpllfognaaToV2
import Derived.Test.YtpmolhpllfognaaToW0
import Derived.Deep.RegionHeld
import Derived.Test.YtpmolhpllfognaaSMeet
import Derived.Test.YtpmolhpllfognaaIMeet
namespace Go.Proofs.Ytpmolhpllfognaa
open Go.RowKit

set_option maxHeartbeats 3200000 in
theorem walkIvIn_in (g0 : Bool) (a0 : Option Addr) (n0 c0 : Nat) (zs0 : List Int) (gg0 : Bool) (aa0 : Option Addr) (nn0 cc0 : Nat) (zz0 : List Int) (g1 : Bool) (a1 : Option Addr) (n1 c1 : Nat) (zs1 : List Int) (gg1 : Bool) (aa1 : Option Addr) (nn1 cc1 : Nat) (zz1 : List Int) (w : World) (hsum : n0 + nn0 + n1 + nn1 ≤ 1048576) (hr0 : IsRow .i64 w a0 n0 c0 zs0) (hh0 : IsRow .i64 w aa0 nn0 cc0 zz0) (hr1 : IsRow .i64 w a1 n1 c1 zs1) (hh1 : IsRow .i64 w aa1 nn1 cc1 zz1)
    (hS : ∀ (va0 : Value) (xs0 : Vh) (va1 : Value) (xs1 : Vh) (W : World), rowV W va0 xs0 → xs0.1.2.length ≤ 1048576 → xs0.2.2.length ≤ 1048576 → rowV W va1 xs1 → xs1.1.2.length ≤ 1048576 → xs1.2.2.length ≤ 1048576 → Calls Try.prog 33 #[va0, va1] W (fun e w' => e = .returned (.bool (ivInR xs0 xs1)) ∧ Below W.heap.size W w'))
    (hI : ∀ (va0 : Value) (xs0 : Vh) (va1 : Value) (xs1 : Vh) (W : World), rowV W va0 xs0 → xs0.1.2.length ≤ 1048576 → xs0.2.2.length ≤ 1048576 → rowV W va1 xs1 → xs1.1.2.length ≤ 1048576 → xs1.2.2.length ≤ 1048576 → Calls Try.prog 34 #[va0, va1] W (fun e w' => e = .returned (.bool (ivInR xs0 xs1)) ∧ Below W.heap.size W w')) :
    Calls Try.prog 9 #[.agg #[.bool g0, .slice a0 n0 c0, .bool gg0, .slice aa0 nn0 cc0], .agg #[.bool g1, .slice a1 n1 c1, .bool gg1, .slice aa1 nn1 cc1]] w fun e w' => e = .returned (.bool true) ∧ Below w.heap.size w w' := by
  have h0' : ¬ ((1048576 : Int) - (n0 : Int) - (nn0 : Int) < 0) := by omega
  have h1' : ¬ ((1048576 : Int) - (n0 : Int) - (nn0 : Int) - (n1 : Int) - (nn1 : Int) < 0) := by omega
  have T0 : ∀ W : World, IsRow .i64 W a0 n0 c0 zs0 → IsRow .i64 W aa0 nn0 cc0 zz0 → Calls Try.prog 14 #[.agg #[.bool g0, .slice a0 n0 c0, .bool gg0, .slice aa0 nn0 cc0]] W fun e w' => ∃ v, e = .returned v ∧ ownsV w' W.heap.size v ((g0, zs0.take n0), (gg0, zz0.take nn0)) ∧ Below W.heap.size W w' := fun W h h' => toV g0 a0 n0 c0 zs0 gg0 aa0 nn0 cc0 zz0 W (by omega) (by omega) h h'
  have l0 : (((g0, zs0.take n0), (gg0, zz0.take nn0)) : Vh).1.2.length ≤ 1048576 ∧ (((g0, zs0.take n0), (gg0, zz0.take nn0)) : Vh).2.2.length ≤ 1048576 := by show (zs0.take n0).length ≤ 1048576 ∧ (zz0.take nn0).length ≤ 1048576; rw [List.length_take, List.length_take]; omega
  obtain ⟨xs0, hxs0⟩ : ∃ xs : Vh, ((g0, zs0.take n0), (gg0, zz0.take nn0)) = xs := ⟨_, rfl⟩
  rw [hxs0] at T0 l0
  clear hxs0
  have T1 : ∀ W : World, IsRow .i64 W a1 n1 c1 zs1 → IsRow .i64 W aa1 nn1 cc1 zz1 → Calls Try.prog 14 #[.agg #[.bool g1, .slice a1 n1 c1, .bool gg1, .slice aa1 nn1 cc1]] W fun e w' => ∃ v, e = .returned v ∧ ownsV w' W.heap.size v ((g1, zs1.take n1), (gg1, zz1.take nn1)) ∧ Below W.heap.size W w' := fun W h h' => toV g1 a1 n1 c1 zs1 gg1 aa1 nn1 cc1 zz1 W (by omega) (by omega) h h'
  have l1 : (((g1, zs1.take n1), (gg1, zz1.take nn1)) : Vh).1.2.length ≤ 1048576 ∧ (((g1, zs1.take n1), (gg1, zz1.take nn1)) : Vh).2.2.length ≤ 1048576 := by show (zs1.take n1).length ≤ 1048576 ∧ (zz1.take nn1).length ≤ 1048576; rw [List.length_take, List.length_take]; omega
  obtain ⟨xs1, hxs1⟩ : ∃ xs : Vh, ((g1, zs1.take n1), (gg1, zz1.take nn1)) = xs := ⟨_, rfl⟩
  rw [hxs1] at T1 l1
  clear hxs1
  have S := fun va0 va1 W q0 q1 => hS va0 xs0 va1 xs1 W q0 l0.1 l0.2 q1 l1.1 l1.2
  have I := fun va0 va1 W q0 q1 => hI va0 xs0 va1 xs1 W q0 l0.1 l0.2 q1 l1.1 l1.2
  obtain ⟨r0, hr⟩ : ∃ r0, ivInR xs0 xs1 = r0 := ⟨_, rfl⟩
  simp only [hr] at S I
  clear hS hI hr
  have eb0 : (r0 != r0) = false := by simp
  have B := Below.refl w.heap.size w
  go_enter Try.func9, Try.ntmps9
  go_wp2_with fail
  have hsw1 : (w.alloc (.cells #[.bool g0, .slice a0 n0 c0, .bool gg0, .slice aa0 nn0 cc0] 26)).heap.size = w.heap.size + 1 := by simp
  have bB := below1 w (.cells #[.bool g0, .slice a0 n0 c0, .bool gg0, .slice aa0 nn0 cc0] 26)
  have oba0 := BoxV.made w (.bool g0) (.slice a0 n0 c0) (.bool gg0) (.slice aa0 nn0 cc0) 26
  have B := B.trans (bB.mono B.size)
  clear bB
  generalize w.alloc (.cells #[.bool g0, .slice a0 n0 c0, .bool gg0, .slice aa0 nn0 cc0] 26) = w1 at *
  have hsw2 : (w1.alloc (.cells #[.bool g1, .slice a1 n1 c1, .bool gg1, .slice aa1 nn1 cc1] 26)).heap.size = w1.heap.size + 1 := by simp
  have bB := below1 w1 (.cells #[.bool g1, .slice a1 n1 c1, .bool gg1, .slice aa1 nn1 cc1] 26)
  have oba1 := BoxV.made w1 (.bool g1) (.slice a1 n1 c1) (.bool gg1) (.slice aa1 nn1 cc1) 26
  have dba0_ba1 := apart_of (fun k hk => (oba0.ltb k hk).2) (fun k hk => (oba1.ltb k hk).1)
  rw [hsw1] at oba1
  have oba0 := oba0.below bB (Nat.le_refl _)
  have B := B.trans (bB.mono B.size)
  clear bB
  generalize w1.alloc (.cells #[.bool g1, .slice a1 n1 c1, .bool gg1, .slice aa1 nn1 cc1] 26) = w2 at *
  refine (szV_yes g0 a0 n0 c0 gg0 aa0 nn0 cc0 ((1048576 : Int)) w2 (by omega) (by omega)).mono ?_
  rintro e w3 ⟨rfl, bw3⟩
  have oba0 := oba0.below bw3 (Nat.le_refl _)
  have oba1 := oba1.below bw3 (Nat.le_refl _)
  have B := B.trans (bw3.mono B.size)
  clear bw3
  have cba00 := oba0.c0
  have cba01 := oba0.c1
  have cba02 := oba0.c2
  have cba03 := oba0.c3
  have hba0 := oba0.hi
  have cba10 := oba1.c0
  have cba11 := oba1.c1
  have cba12 := oba1.c2
  have cba13 := oba1.c3
  have hba1 := oba1.hi
  go_wp2_with fail
  clear cba00 cba01 cba02 cba03 hba0
  clear cba10 cba11 cba12 cba13 hba1
  refine (szV_yes g1 a1 n1 c1 gg1 aa1 nn1 cc1 ((1048576 : Int) - (n0 : Int) - (nn0 : Int)) w3 (by omega) (by omega)).mono ?_
  rintro e w4 ⟨rfl, bw4⟩
  have oba0 := oba0.below bw4 (Nat.le_refl _)
  have oba1 := oba1.below bw4 (Nat.le_refl _)
  have B := B.trans (bw4.mono B.size)
  clear bw4
  -- the specification's answer
  have bB := (Below.refl w4.heap.size w4).drew
  have cba00 := oba0.c0
  have cba01 := oba0.c1
  have cba02 := oba0.c2
  have cba03 := oba0.c3
  have hba0 := oba0.hi
  have cba10 := oba1.c0
  have cba11 := oba1.c1
  have cba12 := oba1.c2
  have cba13 := oba1.c3
  have hba1 := oba1.hi
  go_wp2_with fail
  clear cba00 cba01 cba02 cba03 hba0
  clear cba10 cba11 cba12 cba13 hba1
  have oba0 := oba0.below bB (Nat.le_refl _)
  have oba1 := oba1.below bB (Nat.le_refl _)
  have B := B.trans (bB.mono B.size)
  clear bB
  have cba00 := oba0.c0
  have cba01 := oba0.c1
  have cba02 := oba0.c2
  have cba03 := oba0.c3
  have cba10 := oba1.c0
  have cba11 := oba1.c1
  have cba12 := oba1.c2
  have cba13 := oba1.c3
  go_region_held (fun w' => w'.cell? ⟨w.heap.size, 0, none⟩ = some (.bool g0) ∧ w'.cell? ⟨w.heap.size, 1, none⟩ = some (.slice a0 n0 c0) ∧ w'.cell? ⟨w.heap.size, 2, none⟩ = some (.bool gg0) ∧ w'.cell? ⟨w.heap.size, 3, none⟩ = some (.slice aa0 nn0 cc0) ∧ w'.cell? ⟨w.heap.size + 1, 0, none⟩ = some (.bool g1) ∧ w'.cell? ⟨w.heap.size + 1, 1, none⟩ = some (.slice a1 n1 c1) ∧ w'.cell? ⟨w.heap.size + 1, 2, none⟩ = some (.bool gg1) ∧ w'.cell? ⟨w.heap.size + 1, 3, none⟩ = some (.slice aa1 nn1 cc1)) (go_keep) (first
    | (go_at_call_of 14 (Value.slice a0 n0 c0)
       refine (T0 w4.drew (hr0.below B) (hh0.below B)).mono ?_
       rintro e w5 ⟨vs0, rfl, os0, bw5⟩
       have oba0 := oba0.below bw5 (Nat.le_refl _)
       have oba1 := oba1.below bw5 (Nat.le_refl _)
       have B := B.trans (bw5.mono B.size)
       clear bw5
       have cba00 := oba0.c0
       have cba01 := oba0.c1
       have cba02 := oba0.c2
       have cba03 := oba0.c3
       have cba10 := oba1.c0
       have cba11 := oba1.c1
       have cba12 := oba1.c2
       have cba13 := oba1.c3)
    | (go_at_call_of 14 (Value.slice a1 n1 c1)
       refine (T1 w5 (hr1.below B) (hh1.below B)).mono ?_
       rintro e w6 ⟨vs1, rfl, os1, bw6⟩
       have oba0 := oba0.below bw6 (Nat.le_refl _)
       have oba1 := oba1.below bw6 (Nat.le_refl _)
       have os0 := os0.below bw6 (Nat.le_refl _)
       have B := B.trans (bw6.mono B.size)
       clear bw6
       have cba00 := oba0.c0
       have cba01 := oba0.c1
       have cba02 := oba0.c2
       have cba03 := oba0.c3
       have cba10 := oba1.c0
       have cba11 := oba1.c1
       have cba12 := oba1.c2
       have cba13 := oba1.c3)
    | (go_at_call 33
       refine (S _ _ w6 os0.row os1.row).mono ?_
       rintro e w7 ⟨rfl, bw7⟩
       have oba0 := oba0.below bw7 (Nat.le_refl _)
       have oba1 := oba1.below bw7 (Nat.le_refl _)
       have os0 := os0.below bw7 (Nat.le_refl _)
       have os1 := os1.below bw7 (Nat.le_refl _)
       have B := B.trans (bw7.mono B.size)
       clear bw7
       have cba00 := oba0.c0
       have cba01 := oba0.c1
       have cba02 := oba0.c2
       have cba03 := oba0.c3
       have cba10 := oba1.c0
       have cba11 := oba1.c1
       have cba12 := oba1.c2
       have cba13 := oba1.c3)
    )
  clear cba00 cba01 cba02 cba03 cba10 cba11 cba12 cba13
  clear os0 os1
  -- the arguments, copied; the program's answer
  have cba00 := oba0.c0
  have cba01 := oba0.c1
  have cba02 := oba0.c2
  have cba03 := oba0.c3
  have hba0 := oba0.hi
  have cba10 := oba1.c0
  have cba11 := oba1.c1
  have cba12 := oba1.c2
  have cba13 := oba1.c3
  have hba1 := oba1.hi
  go_wp2_with fail
  clear cba00 cba01 cba02 cba03 hba0
  clear cba10 cba11 cba12 cba13 hba1
  refine (T0 w7 (hr0.below B) (hh0.below B)).mono ?_
  rintro e w8 ⟨vx0, rfl, ox0, bw8⟩
  have dba0_x0 := apart_of (fun k hk => (oba0.ltb k hk).2) (fun k hk => (ox0.ltb k hk).1)
  have dba1_x0 := apart_of (fun k hk => (oba1.ltb k hk).2) (fun k hk => (ox0.ltb k hk).1)
  have mx0 : ∀ k ∈ blkV vx0, w.heap.size ≤ k := fun k hk => Nat.le_trans B.size (ox0.ltb k hk).1
  obtain ⟨sx0, tx0, rfl, hqx0, hpx0, -⟩ := id ox0
  obtain ⟨adx0, cpx0, rfl, -⟩ := hqx0.row
  obtain ⟨aex0, cqx0, rfl, -⟩ := hpx0.row
  clear hqx0 hpx0
  have oba0 := oba0.below bw8 (Nat.le_refl _)
  have oba1 := oba1.below bw8 (Nat.le_refl _)
  have B := B.trans (bw8.mono B.size)
  clear bw8
  have cba00 := oba0.c0
  have cba01 := oba0.c1
  have cba02 := oba0.c2
  have cba03 := oba0.c3
  have hba0 := oba0.hi
  have cba10 := oba1.c0
  have cba11 := oba1.c1
  have cba12 := oba1.c2
  have cba13 := oba1.c3
  have hba1 := oba1.hi
  have eba0 := oba0.below (below1 w8 (.cells #[.bool xs0.1.1, .slice adx0 xs0.1.2.length cpx0, .bool xs0.2.1, .slice aex0 xs0.2.2.length cqx0] 31)) (Nat.le_refl _)
  have eba00 := eba0.c0
  have eba01 := eba0.c1
  have eba02 := eba0.c2
  have eba03 := eba0.c3
  have eba1 := oba1.below (below1 w8 (.cells #[.bool xs0.1.1, .slice adx0 xs0.1.2.length cpx0, .bool xs0.2.1, .slice aex0 xs0.2.2.length cqx0] 31)) (Nat.le_refl _)
  have eba10 := eba1.c0
  have eba11 := eba1.c1
  have eba12 := eba1.c2
  have eba13 := eba1.c3
  go_wp2_with fail
  clear cba00 cba01 cba02 cba03 hba0
  clear cba10 cba11 cba12 cba13 hba1
  clear eba0 eba00 eba01 eba02 eba03
  clear eba1 eba10 eba11 eba12 eba13
  have hsw9 : (w8.alloc (.cells #[.bool xs0.1.1, .slice adx0 xs0.1.2.length cpx0, .bool xs0.2.1, .slice aex0 xs0.2.2.length cqx0] 31)).heap.size = w8.heap.size + 1 := by simp
  have bB := below1 w8 (.cells #[.bool xs0.1.1, .slice adx0 xs0.1.2.length cpx0, .bool xs0.2.1, .slice aex0 xs0.2.2.length cqx0] 31)
  have obx0 := BoxV.made w8 (.bool xs0.1.1) (.slice adx0 xs0.1.2.length cpx0) (.bool xs0.2.1) (.slice aex0 xs0.2.2.length cqx0) 31
  have dba0_bx0 := apart_of (fun k hk => (oba0.ltb k hk).2) (fun k hk => (obx0.ltb k hk).1)
  have dba1_bx0 := apart_of (fun k hk => (oba1.ltb k hk).2) (fun k hk => (obx0.ltb k hk).1)
  have dx0_bx0 := apart_of (fun k hk => (ox0.ltb k hk).2) (fun k hk => (obx0.ltb k hk).1)
  have oba0 := oba0.below bB (Nat.le_refl _)
  have oba1 := oba1.below bB (Nat.le_refl _)
  have ox0 := ox0.below bB (Nat.le_refl _)
  have B := B.trans (bB.mono B.size)
  clear bB
  generalize w8.alloc (.cells #[.bool xs0.1.1, .slice adx0 xs0.1.2.length cpx0, .bool xs0.2.1, .slice aex0 xs0.2.2.length cqx0] 31) = w9 at *
  refine (T1 w9 (hr1.below B) (hh1.below B)).mono ?_
  rintro e w10 ⟨vx1, rfl, ox1, bw10⟩
  have dba0_x1 := apart_of (fun k hk => (oba0.ltb k hk).2) (fun k hk => (ox1.ltb k hk).1)
  have dba1_x1 := apart_of (fun k hk => (oba1.ltb k hk).2) (fun k hk => (ox1.ltb k hk).1)
  have dx0_x1 := apart_of (fun k hk => (ox0.ltb k hk).2) (fun k hk => (ox1.ltb k hk).1)
  have dbx0_x1 := apart_of (fun k hk => (obx0.ltb k hk).2) (fun k hk => (ox1.ltb k hk).1)
  have mx1 : ∀ k ∈ blkV vx1, w.heap.size ≤ k := fun k hk => Nat.le_trans B.size (ox1.ltb k hk).1
  obtain ⟨sx1, tx1, rfl, hqx1, hpx1, -⟩ := id ox1
  obtain ⟨adx1, cpx1, rfl, -⟩ := hqx1.row
  obtain ⟨aex1, cqx1, rfl, -⟩ := hpx1.row
  clear hqx1 hpx1
  have oba0 := oba0.below bw10 (Nat.le_refl _)
  have oba1 := oba1.below bw10 (Nat.le_refl _)
  have ox0 := ox0.below bw10 (Nat.le_refl _)
  have obx0 := obx0.below bw10 (Nat.le_refl _)
  have B := B.trans (bw10.mono B.size)
  clear bw10
  have cba00 := oba0.c0
  have cba01 := oba0.c1
  have cba02 := oba0.c2
  have cba03 := oba0.c3
  have hba0 := oba0.hi
  have cba10 := oba1.c0
  have cba11 := oba1.c1
  have cba12 := oba1.c2
  have cba13 := oba1.c3
  have hba1 := oba1.hi
  have cbx00 := obx0.c0
  have cbx01 := obx0.c1
  have cbx02 := obx0.c2
  have cbx03 := obx0.c3
  have hbx0 := obx0.hi
  have eba0 := oba0.below (below1 w10 (.cells #[.bool xs1.1.1, .slice adx1 xs1.1.2.length cpx1, .bool xs1.2.1, .slice aex1 xs1.2.2.length cqx1] 31)) (Nat.le_refl _)
  have eba00 := eba0.c0
  have eba01 := eba0.c1
  have eba02 := eba0.c2
  have eba03 := eba0.c3
  have eba1 := oba1.below (below1 w10 (.cells #[.bool xs1.1.1, .slice adx1 xs1.1.2.length cpx1, .bool xs1.2.1, .slice aex1 xs1.2.2.length cqx1] 31)) (Nat.le_refl _)
  have eba10 := eba1.c0
  have eba11 := eba1.c1
  have eba12 := eba1.c2
  have eba13 := eba1.c3
  have ebx0 := obx0.below (below1 w10 (.cells #[.bool xs1.1.1, .slice adx1 xs1.1.2.length cpx1, .bool xs1.2.1, .slice aex1 xs1.2.2.length cqx1] 31)) (Nat.le_refl _)
  have ebx00 := ebx0.c0
  have ebx01 := ebx0.c1
  have ebx02 := ebx0.c2
  have ebx03 := ebx0.c3
  go_wp2_with fail
  clear cba00 cba01 cba02 cba03 hba0
  clear cba10 cba11 cba12 cba13 hba1
  clear cbx00 cbx01 cbx02 cbx03 hbx0
  clear eba0 eba00 eba01 eba02 eba03
  clear eba1 eba10 eba11 eba12 eba13
  clear ebx0 ebx00 ebx01 ebx02 ebx03
  have hsw11 : (w10.alloc (.cells #[.bool xs1.1.1, .slice adx1 xs1.1.2.length cpx1, .bool xs1.2.1, .slice aex1 xs1.2.2.length cqx1] 31)).heap.size = w10.heap.size + 1 := by simp
  have bB := below1 w10 (.cells #[.bool xs1.1.1, .slice adx1 xs1.1.2.length cpx1, .bool xs1.2.1, .slice aex1 xs1.2.2.length cqx1] 31)
  have obx1 := BoxV.made w10 (.bool xs1.1.1) (.slice adx1 xs1.1.2.length cpx1) (.bool xs1.2.1) (.slice aex1 xs1.2.2.length cqx1) 31
  have dba0_bx1 := apart_of (fun k hk => (oba0.ltb k hk).2) (fun k hk => (obx1.ltb k hk).1)
  have dba1_bx1 := apart_of (fun k hk => (oba1.ltb k hk).2) (fun k hk => (obx1.ltb k hk).1)
  have dx0_bx1 := apart_of (fun k hk => (ox0.ltb k hk).2) (fun k hk => (obx1.ltb k hk).1)
  have dbx0_bx1 := apart_of (fun k hk => (obx0.ltb k hk).2) (fun k hk => (obx1.ltb k hk).1)
  have dx1_bx1 := apart_of (fun k hk => (ox1.ltb k hk).2) (fun k hk => (obx1.ltb k hk).1)
  have oba0 := oba0.below bB (Nat.le_refl _)
  have oba1 := oba1.below bB (Nat.le_refl _)
  have ox0 := ox0.below bB (Nat.le_refl _)
  have obx0 := obx0.below bB (Nat.le_refl _)
  have ox1 := ox1.below bB (Nat.le_refl _)
  have B := B.trans (bB.mono B.size)
  clear bB
  generalize w10.alloc (.cells #[.bool xs1.1.1, .slice adx1 xs1.1.2.length cpx1, .bool xs1.2.1, .slice aex1 xs1.2.2.length cqx1] 31) = w11 at *
  refine (I _ _ w11 ox0.row ox1.row).mono ?_
  rintro e w12 ⟨rfl, bw12⟩
  have oba0 := oba0.below bw12 (Nat.le_refl _)
  have oba1 := oba1.below bw12 (Nat.le_refl _)
  have ox0 := ox0.below bw12 (Nat.le_refl _)
  have obx0 := obx0.below bw12 (Nat.le_refl _)
  have ox1 := ox1.below bw12 (Nat.le_refl _)
  have obx1 := obx1.below bw12 (Nat.le_refl _)
  have B := B.trans (bw12.mono B.size)
  clear bw12
  -- the copies are as they were
  have bB := (Below.refl w12.heap.size w12).drew
  have cba00 := oba0.c0
  have cba01 := oba0.c1
  have cba02 := oba0.c2
  have cba03 := oba0.c3
  have hba0 := oba0.hi
  have cba10 := oba1.c0
  have cba11 := oba1.c1
  have cba12 := oba1.c2
  have cba13 := oba1.c3
  have hba1 := oba1.hi
  have cbx00 := obx0.c0
  have cbx01 := obx0.c1
  have cbx02 := obx0.c2
  have cbx03 := obx0.c3
  have hbx0 := obx0.hi
  have cbx10 := obx1.c0
  have cbx11 := obx1.c1
  have cbx12 := obx1.c2
  have cbx13 := obx1.c3
  have hbx1 := obx1.hi
  go_wp2_with fail
  clear cba00 cba01 cba02 cba03 hba0
  clear cba10 cba11 cba12 cba13 hba1
  clear cbx00 cbx01 cbx02 cbx03 hbx0
  clear cbx10 cbx11 cbx12 cbx13 hbx1
  have oba0 := oba0.below bB (Nat.le_refl _)
  have oba1 := oba1.below bB (Nat.le_refl _)
  have ox0 := ox0.below bB (Nat.le_refl _)
  have obx0 := obx0.below bB (Nat.le_refl _)
  have ox1 := ox1.below bB (Nat.le_refl _)
  have obx1 := obx1.below bB (Nat.le_refl _)
  have B := B.trans (bB.mono B.size)
  clear bB
  have cba00 := oba0.c0
  have cba01 := oba0.c1
  have cba02 := oba0.c2
  have cba03 := oba0.c3
  have cba10 := oba1.c0
  have cba11 := oba1.c1
  have cba12 := oba1.c2
  have cba13 := oba1.c3
  have cbx00 := obx0.c0
  have cbx01 := obx0.c1
  have cbx02 := obx0.c2
  have cbx03 := obx0.c3
  have cbx10 := obx1.c0
  have cbx11 := obx1.c1
  have cbx12 := obx1.c2
  have cbx13 := obx1.c3
  go_region_held (fun w' => w'.cell? ⟨w.heap.size, 0, none⟩ = some (.bool g0) ∧ w'.cell? ⟨w.heap.size, 1, none⟩ = some (.slice a0 n0 c0) ∧ w'.cell? ⟨w.heap.size, 2, none⟩ = some (.bool gg0) ∧ w'.cell? ⟨w.heap.size, 3, none⟩ = some (.slice aa0 nn0 cc0) ∧ w'.cell? ⟨w.heap.size + 1, 0, none⟩ = some (.bool g1) ∧ w'.cell? ⟨w.heap.size + 1, 1, none⟩ = some (.slice a1 n1 c1) ∧ w'.cell? ⟨w.heap.size + 1, 2, none⟩ = some (.bool gg1) ∧ w'.cell? ⟨w.heap.size + 1, 3, none⟩ = some (.slice aa1 nn1 cc1) ∧ w'.cell? ⟨w8.heap.size, 0, none⟩ = some (.bool xs0.1.1) ∧ w'.cell? ⟨w8.heap.size, 1, none⟩ = some (.slice adx0 xs0.1.2.length cpx0) ∧ w'.cell? ⟨w8.heap.size, 2, none⟩ = some (.bool xs0.2.1) ∧ w'.cell? ⟨w8.heap.size, 3, none⟩ = some (.slice aex0 xs0.2.2.length cqx0) ∧ w'.cell? ⟨w10.heap.size, 0, none⟩ = some (.bool xs1.1.1) ∧ w'.cell? ⟨w10.heap.size, 1, none⟩ = some (.slice adx1 xs1.1.2.length cpx1) ∧ w'.cell? ⟨w10.heap.size, 2, none⟩ = some (.bool xs1.2.1) ∧ w'.cell? ⟨w10.heap.size, 3, none⟩ = some (.slice aex1 xs1.2.2.length cqx1)) (go_keep) (first
    | (go_at_call_of 14 (Value.slice a0 n0 c0)
       refine (T0 w12.drew (hr0.below B) (hh0.below B)).mono ?_
       rintro e w13 ⟨vy0, rfl, oy0, bw13⟩
       have oba0 := oba0.below bw13 (Nat.le_refl _)
       have oba1 := oba1.below bw13 (Nat.le_refl _)
       have ox0 := ox0.below bw13 (Nat.le_refl _)
       have obx0 := obx0.below bw13 (Nat.le_refl _)
       have ox1 := ox1.below bw13 (Nat.le_refl _)
       have obx1 := obx1.below bw13 (Nat.le_refl _)
       have B := B.trans (bw13.mono B.size)
       clear bw13
       have cba00 := oba0.c0
       have cba01 := oba0.c1
       have cba02 := oba0.c2
       have cba03 := oba0.c3
       have cba10 := oba1.c0
       have cba11 := oba1.c1
       have cba12 := oba1.c2
       have cba13 := oba1.c3
       have cbx00 := obx0.c0
       have cbx01 := obx0.c1
       have cbx02 := obx0.c2
       have cbx03 := obx0.c3
       have cbx10 := obx1.c0
       have cbx11 := obx1.c1
       have cbx12 := obx1.c2
       have cbx13 := obx1.c3)
    | (go_at_call 16
       refine (eqV' _ _ _ _ _ w13 (by omega) ox0 oy0).mono ?_
       rintro e w14 ⟨rfl, bw14⟩
       have oba0 := oba0.below bw14 (Nat.le_refl _)
       have oba1 := oba1.below bw14 (Nat.le_refl _)
       have ox0 := ox0.below bw14 (Nat.le_refl _)
       have obx0 := obx0.below bw14 (Nat.le_refl _)
       have ox1 := ox1.below bw14 (Nat.le_refl _)
       have obx1 := obx1.below bw14 (Nat.le_refl _)
       have oy0 := oy0.below bw14 (Nat.le_refl _)
       have B := B.trans (bw14.mono B.size)
       clear bw14
       have cba00 := oba0.c0
       have cba01 := oba0.c1
       have cba02 := oba0.c2
       have cba03 := oba0.c3
       have cba10 := oba1.c0
       have cba11 := oba1.c1
       have cba12 := oba1.c2
       have cba13 := oba1.c3
       have cbx00 := obx0.c0
       have cbx01 := obx0.c1
       have cbx02 := obx0.c2
       have cbx03 := obx0.c3
       have cbx10 := obx1.c0
       have cbx11 := obx1.c1
       have cbx12 := obx1.c2
       have cbx13 := obx1.c3)
    )
  clear cba00 cba01 cba02 cba03 cba10 cba11 cba12 cba13 cbx00 cbx01 cbx02 cbx03 cbx10 cbx11 cbx12 cbx13
  clear oy0
  have bB := (Below.refl w14.heap.size w14).drew
  have cba00 := oba0.c0
  have cba01 := oba0.c1
  have cba02 := oba0.c2
  have cba03 := oba0.c3
  have hba0 := oba0.hi
  have cba10 := oba1.c0
  have cba11 := oba1.c1
  have cba12 := oba1.c2
  have cba13 := oba1.c3
  have hba1 := oba1.hi
  have cbx00 := obx0.c0
  have cbx01 := obx0.c1
  have cbx02 := obx0.c2
  have cbx03 := obx0.c3
  have hbx0 := obx0.hi
  have cbx10 := obx1.c0
  have cbx11 := obx1.c1
  have cbx12 := obx1.c2
  have cbx13 := obx1.c3
  have hbx1 := obx1.hi
  go_wp2_with fail
  clear cba00 cba01 cba02 cba03 hba0
  clear cba10 cba11 cba12 cba13 hba1
  clear cbx00 cbx01 cbx02 cbx03 hbx0
  clear cbx10 cbx11 cbx12 cbx13 hbx1
  have oba0 := oba0.below bB (Nat.le_refl _)
  have oba1 := oba1.below bB (Nat.le_refl _)
  have ox0 := ox0.below bB (Nat.le_refl _)
  have obx0 := obx0.below bB (Nat.le_refl _)
  have ox1 := ox1.below bB (Nat.le_refl _)
  have obx1 := obx1.below bB (Nat.le_refl _)
  have B := B.trans (bB.mono B.size)
  clear bB
  have cba00 := oba0.c0
  have cba01 := oba0.c1
  have cba02 := oba0.c2
  have cba03 := oba0.c3
  have cba10 := oba1.c0
  have cba11 := oba1.c1
  have cba12 := oba1.c2
  have cba13 := oba1.c3
  have cbx00 := obx0.c0
  have cbx01 := obx0.c1
  have cbx02 := obx0.c2
  have cbx03 := obx0.c3
  have cbx10 := obx1.c0
  have cbx11 := obx1.c1
  have cbx12 := obx1.c2
  have cbx13 := obx1.c3
  go_region_held (fun w' => w'.cell? ⟨w.heap.size, 0, none⟩ = some (.bool g0) ∧ w'.cell? ⟨w.heap.size, 1, none⟩ = some (.slice a0 n0 c0) ∧ w'.cell? ⟨w.heap.size, 2, none⟩ = some (.bool gg0) ∧ w'.cell? ⟨w.heap.size, 3, none⟩ = some (.slice aa0 nn0 cc0) ∧ w'.cell? ⟨w.heap.size + 1, 0, none⟩ = some (.bool g1) ∧ w'.cell? ⟨w.heap.size + 1, 1, none⟩ = some (.slice a1 n1 c1) ∧ w'.cell? ⟨w.heap.size + 1, 2, none⟩ = some (.bool gg1) ∧ w'.cell? ⟨w.heap.size + 1, 3, none⟩ = some (.slice aa1 nn1 cc1) ∧ w'.cell? ⟨w8.heap.size, 0, none⟩ = some (.bool xs0.1.1) ∧ w'.cell? ⟨w8.heap.size, 1, none⟩ = some (.slice adx0 xs0.1.2.length cpx0) ∧ w'.cell? ⟨w8.heap.size, 2, none⟩ = some (.bool xs0.2.1) ∧ w'.cell? ⟨w8.heap.size, 3, none⟩ = some (.slice aex0 xs0.2.2.length cqx0) ∧ w'.cell? ⟨w10.heap.size, 0, none⟩ = some (.bool xs1.1.1) ∧ w'.cell? ⟨w10.heap.size, 1, none⟩ = some (.slice adx1 xs1.1.2.length cpx1) ∧ w'.cell? ⟨w10.heap.size, 2, none⟩ = some (.bool xs1.2.1) ∧ w'.cell? ⟨w10.heap.size, 3, none⟩ = some (.slice aex1 xs1.2.2.length cqx1)) (go_keep) (first
    | (go_at_call_of 14 (Value.slice a1 n1 c1)
       refine (T1 w14.drew (hr1.below B) (hh1.below B)).mono ?_
       rintro e w15 ⟨vy1, rfl, oy1, bw15⟩
       have oba0 := oba0.below bw15 (Nat.le_refl _)
       have oba1 := oba1.below bw15 (Nat.le_refl _)
       have ox0 := ox0.below bw15 (Nat.le_refl _)
       have obx0 := obx0.below bw15 (Nat.le_refl _)
       have ox1 := ox1.below bw15 (Nat.le_refl _)
       have obx1 := obx1.below bw15 (Nat.le_refl _)
       have B := B.trans (bw15.mono B.size)
       clear bw15
       have cba00 := oba0.c0
       have cba01 := oba0.c1
       have cba02 := oba0.c2
       have cba03 := oba0.c3
       have cba10 := oba1.c0
       have cba11 := oba1.c1
       have cba12 := oba1.c2
       have cba13 := oba1.c3
       have cbx00 := obx0.c0
       have cbx01 := obx0.c1
       have cbx02 := obx0.c2
       have cbx03 := obx0.c3
       have cbx10 := obx1.c0
       have cbx11 := obx1.c1
       have cbx12 := obx1.c2
       have cbx13 := obx1.c3)
    | (go_at_call 16
       refine (eqV' _ _ _ _ _ w15 (by omega) ox1 oy1).mono ?_
       rintro e w16 ⟨rfl, bw16⟩
       have oba0 := oba0.below bw16 (Nat.le_refl _)
       have oba1 := oba1.below bw16 (Nat.le_refl _)
       have ox0 := ox0.below bw16 (Nat.le_refl _)
       have obx0 := obx0.below bw16 (Nat.le_refl _)
       have ox1 := ox1.below bw16 (Nat.le_refl _)
       have obx1 := obx1.below bw16 (Nat.le_refl _)
       have oy1 := oy1.below bw16 (Nat.le_refl _)
       have B := B.trans (bw16.mono B.size)
       clear bw16
       have cba00 := oba0.c0
       have cba01 := oba0.c1
       have cba02 := oba0.c2
       have cba03 := oba0.c3
       have cba10 := oba1.c0
       have cba11 := oba1.c1
       have cba12 := oba1.c2
       have cba13 := oba1.c3
       have cbx00 := obx0.c0
       have cbx01 := obx0.c1
       have cbx02 := obx0.c2
       have cbx03 := obx0.c3
       have cbx10 := obx1.c0
       have cbx11 := obx1.c1
       have cbx12 := obx1.c2
       have cbx13 := obx1.c3)
    )
  clear cba00 cba01 cba02 cba03 cba10 cba11 cba12 cba13 cbx00 cbx01 cbx02 cbx03 cbx10 cbx11 cbx12 cbx13
  clear oy1
  clear ox0 ox1
  have cba00 := oba0.c0
  have cba01 := oba0.c1
  have cba02 := oba0.c2
  have cba03 := oba0.c3
  have hba0 := oba0.hi
  have cba10 := oba1.c0
  have cba11 := oba1.c1
  have cba12 := oba1.c2
  have cba13 := oba1.c3
  have hba1 := oba1.hi
  have cbx00 := obx0.c0
  have cbx01 := obx0.c1
  have cbx02 := obx0.c2
  have cbx03 := obx0.c3
  have hbx0 := obx0.hi
  have cbx10 := obx1.c0
  have cbx11 := obx1.c1
  have cbx12 := obx1.c2
  have cbx13 := obx1.c3
  have hbx1 := obx1.hi
  go_wp2
  go_ret
  exact ⟨rfl, B⟩

set_option maxHeartbeats 1600000 in
theorem walkIvIn (g0 : Bool) (a0 : Option Addr) (n0 c0 : Nat) (zs0 : List Int) (gg0 : Bool) (aa0 : Option Addr) (nn0 cc0 : Nat) (zz0 : List Int) (g1 : Bool) (a1 : Option Addr) (n1 c1 : Nat) (zs1 : List Int) (gg1 : Bool) (aa1 : Option Addr) (nn1 cc1 : Nat) (zz1 : List Int) (w : World) (hr0 : IsRow .i64 w a0 n0 c0 zs0) (hh0 : IsRow .i64 w aa0 nn0 cc0 zz0) (hr1 : IsRow .i64 w a1 n1 c1 zs1) (hh1 : IsRow .i64 w aa1 nn1 cc1 zz1)
    (hS : ∀ (va0 : Value) (xs0 : Vh) (va1 : Value) (xs1 : Vh) (W : World), rowV W va0 xs0 → xs0.1.2.length ≤ 1048576 → xs0.2.2.length ≤ 1048576 → rowV W va1 xs1 → xs1.1.2.length ≤ 1048576 → xs1.2.2.length ≤ 1048576 → Calls Try.prog 33 #[va0, va1] W (fun e w' => e = .returned (.bool (ivInR xs0 xs1)) ∧ Below W.heap.size W w'))
    (hI : ∀ (va0 : Value) (xs0 : Vh) (va1 : Value) (xs1 : Vh) (W : World), rowV W va0 xs0 → xs0.1.2.length ≤ 1048576 → xs0.2.2.length ≤ 1048576 → rowV W va1 xs1 → xs1.1.2.length ≤ 1048576 → xs1.2.2.length ≤ 1048576 → Calls Try.prog 34 #[va0, va1] W (fun e w' => e = .returned (.bool (ivInR xs0 xs1)) ∧ Below W.heap.size W w')) :
    Calls Try.prog 9 #[.agg #[.bool g0, .slice a0 n0 c0, .bool gg0, .slice aa0 nn0 cc0], .agg #[.bool g1, .slice a1 n1 c1, .bool gg1, .slice aa1 nn1 cc1]] w fun e w' => e = .returned (.bool true) ∧ Below w.heap.size w w' := by
  by_cases h0 : n0 + nn0 ≤ 1048576
  · skip
    by_cases h1 : n0 + nn0 + n1 + nn1 ≤ 1048576
    · skip
      exact walkIvIn_in g0 a0 n0 c0 zs0 gg0 aa0 nn0 cc0 zz0 g1 a1 n1 c1 zs1 gg1 aa1 nn1 cc1 zz1 w  (by omega) hr0 hh0 hr1 hh1 hS hI
    · have hL1 := And.intro hr1.len_le hh1.len_le
      have h0' : ¬ ((1048576 : Int) - (n0 : Int) - (nn0 : Int) < 0) := by omega
      clear hS hI
      have B := Below.refl w.heap.size w
      go_enter Try.func9, Try.ntmps9
      go_wp2_with fail
      have hsw1 : (w.alloc (.cells #[.bool g0, .slice a0 n0 c0, .bool gg0, .slice aa0 nn0 cc0] 26)).heap.size = w.heap.size + 1 := by simp
      have bB := below1 w (.cells #[.bool g0, .slice a0 n0 c0, .bool gg0, .slice aa0 nn0 cc0] 26)
      have oba0 := BoxV.made w (.bool g0) (.slice a0 n0 c0) (.bool gg0) (.slice aa0 nn0 cc0) 26
      have B := B.trans (bB.mono B.size)
      clear bB
      generalize w.alloc (.cells #[.bool g0, .slice a0 n0 c0, .bool gg0, .slice aa0 nn0 cc0] 26) = w1 at *
      have hsw2 : (w1.alloc (.cells #[.bool g1, .slice a1 n1 c1, .bool gg1, .slice aa1 nn1 cc1] 26)).heap.size = w1.heap.size + 1 := by simp
      have bB := below1 w1 (.cells #[.bool g1, .slice a1 n1 c1, .bool gg1, .slice aa1 nn1 cc1] 26)
      have oba1 := BoxV.made w1 (.bool g1) (.slice a1 n1 c1) (.bool gg1) (.slice aa1 nn1 cc1) 26
      have dba0_ba1 := apart_of (fun k hk => (oba0.ltb k hk).2) (fun k hk => (oba1.ltb k hk).1)
      rw [hsw1] at oba1
      have oba0 := oba0.below bB (Nat.le_refl _)
      have B := B.trans (bB.mono B.size)
      clear bB
      generalize w1.alloc (.cells #[.bool g1, .slice a1 n1 c1, .bool gg1, .slice aa1 nn1 cc1] 26) = w2 at *
      refine (szV_yes g0 a0 n0 c0 gg0 aa0 nn0 cc0 ((1048576 : Int)) w2 (by omega) (by omega)).mono ?_
      rintro e w3 ⟨rfl, bw3⟩
      have oba0 := oba0.below bw3 (Nat.le_refl _)
      have oba1 := oba1.below bw3 (Nat.le_refl _)
      have B := B.trans (bw3.mono B.size)
      clear bw3
      have cba00 := oba0.c0
      have cba01 := oba0.c1
      have cba02 := oba0.c2
      have cba03 := oba0.c3
      have hba0 := oba0.hi
      have cba10 := oba1.c0
      have cba11 := oba1.c1
      have cba12 := oba1.c2
      have cba13 := oba1.c3
      have hba1 := oba1.hi
      go_wp2_with fail
      clear cba00 cba01 cba02 cba03 hba0
      clear cba10 cba11 cba12 cba13 hba1
      refine (szV_no g1 a1 n1 c1 gg1 aa1 nn1 cc1 ((1048576 : Int) - (n0 : Int) - (nn0 : Int)) w3 (by omega) (by omega) hL1.1 hL1.2 (by omega)).mono ?_
      rintro e w4 ⟨rfl, bw4⟩
      have oba0 := oba0.below bw4 (Nat.le_refl _)
      have oba1 := oba1.below bw4 (Nat.le_refl _)
      have B := B.trans (bw4.mono B.size)
      clear bw4
      have cba00 := oba0.c0
      have cba01 := oba0.c1
      have cba02 := oba0.c2
      have cba03 := oba0.c3
      have hba0 := oba0.hi
      have cba10 := oba1.c0
      have cba11 := oba1.c1
      have cba12 := oba1.c2
      have cba13 := oba1.c3
      have hba1 := oba1.hi
      go_wp2
      go_ret
      exact ⟨rfl, B⟩
  · have hL0 := And.intro hr0.len_le hh0.len_le
    clear hS hI
    have B := Below.refl w.heap.size w
    go_enter Try.func9, Try.ntmps9
    go_wp2_with fail
    have hsw1 : (w.alloc (.cells #[.bool g0, .slice a0 n0 c0, .bool gg0, .slice aa0 nn0 cc0] 26)).heap.size = w.heap.size + 1 := by simp
    have bB := below1 w (.cells #[.bool g0, .slice a0 n0 c0, .bool gg0, .slice aa0 nn0 cc0] 26)
    have oba0 := BoxV.made w (.bool g0) (.slice a0 n0 c0) (.bool gg0) (.slice aa0 nn0 cc0) 26
    have B := B.trans (bB.mono B.size)
    clear bB
    generalize w.alloc (.cells #[.bool g0, .slice a0 n0 c0, .bool gg0, .slice aa0 nn0 cc0] 26) = w1 at *
    have hsw2 : (w1.alloc (.cells #[.bool g1, .slice a1 n1 c1, .bool gg1, .slice aa1 nn1 cc1] 26)).heap.size = w1.heap.size + 1 := by simp
    have bB := below1 w1 (.cells #[.bool g1, .slice a1 n1 c1, .bool gg1, .slice aa1 nn1 cc1] 26)
    have oba1 := BoxV.made w1 (.bool g1) (.slice a1 n1 c1) (.bool gg1) (.slice aa1 nn1 cc1) 26
    have dba0_ba1 := apart_of (fun k hk => (oba0.ltb k hk).2) (fun k hk => (oba1.ltb k hk).1)
    rw [hsw1] at oba1
    have oba0 := oba0.below bB (Nat.le_refl _)
    have B := B.trans (bB.mono B.size)
    clear bB
    generalize w1.alloc (.cells #[.bool g1, .slice a1 n1 c1, .bool gg1, .slice aa1 nn1 cc1] 26) = w2 at *
    refine (szV_no g0 a0 n0 c0 gg0 aa0 nn0 cc0 ((1048576 : Int)) w2 (by omega) (by omega) hL0.1 hL0.2 (by omega)).mono ?_
    rintro e w3 ⟨rfl, bw3⟩
    have oba0 := oba0.below bw3 (Nat.le_refl _)
    have oba1 := oba1.below bw3 (Nat.le_refl _)
    have B := B.trans (bw3.mono B.size)
    clear bw3
    have cba00 := oba0.c0
    have cba01 := oba0.c1
    have cba02 := oba0.c2
    have cba03 := oba0.c3
    have hba0 := oba0.hi
    have cba10 := oba1.c0
    have cba11 := oba1.c1
    have cba12 := oba1.c2
    have cba13 := oba1.c3
    have hba1 := oba1.hi
    go_wp2
    go_ret
    exact ⟨rfl, B⟩

end Go.Proofs.Ytpmolhpllfognaa
