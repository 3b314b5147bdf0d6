/- The law FnExactIvDiv: its walk, out of the two contracts (written by genlaw.py from the signature VVI>VB). -/
import Derived.Test.YtjelmbkngjlefaaBase
import Derived.Test.YtjelmbkngjlefaaVB
import Derived.Deep.RegionHeld
import Derived.Test.YtjelmbkngjlefaaCutV
import Derived.Test.YtjelmbkngjlefaaSIvDiv
import Derived.Test.YtjelmbkngjlefaaIIvDiv
namespace Go.Proofs.Ytjelmbkngjlefaa
open Go.RowKit

set_option maxHeartbeats 3200000 in
theorem walkIvDiv_in (g0 : Bool) (a0 : Option Addr) (n0 c0 : Nat) (zs0 : List Int) (gg0 : Bool) (aa0 : Option Addr) (nn0 cc0 : Nat) (zz0 : List Int) (g1 : Bool) (a1 : Option Addr) (n1 c1 : Nat) (zs1 : List Int) (gg1 : Bool) (aa1 : Option Addr) (nn1 cc1 : Nat) (zz1 : List Int) (k2 : Int) (w : World) (hsum : n0 + nn0 + n1 + nn1 ≤ 1048576) (hr0 : IsRow .i64 w a0 n0 c0 zs0) (hh0 : IsRow .i64 w aa0 nn0 cc0 zz0) (hr1 : IsRow .i64 w a1 n1 c1 zs1) (hh1 : IsRow .i64 w aa1 nn1 cc1 zz1) (hk2 : -9223372036854775808 ≤ k2 ∧ k2 ≤ 9223372036854775807) (hR : (ivDivR ((g0, zs0.take n0), (gg0, zz0.take nn0)) ((g1, zs1.take n1), (gg1, zz1.take nn1)) k2).1.1.2.length ≤ 1048576 ∧ (ivDivR ((g0, zs0.take n0), (gg0, zz0.take nn0)) ((g1, zs1.take n1), (gg1, zz1.take nn1)) k2).1.2.2.length ≤ 1048576)
    (hS : ∀ (va0 : Value) (xs0 : Vh) (va1 : Value) (xs1 : Vh) (k2 : Int) (W : World), rowV W va0 xs0 → xs0.1.2.length ≤ 1048576 → xs0.2.2.length ≤ 1048576 → rowV W va1 xs1 → xs1.1.2.length ≤ 1048576 → xs1.2.2.length ≤ 1048576 → -9223372036854775808 ≤ k2 → k2 ≤ 9223372036854775807 → Calls Try.prog 12 #[va0, va1, .int .i64 k2] W (fun e w' => ∃ v0, e = .returned (.tuple #[v0, .bool (ivDivR xs0 xs1 k2).2]) ∧ ownsV w' W.heap.size v0 (ivDivR xs0 xs1 k2).1 ∧ Below W.heap.size W w'))
    (hI : ∀ (va0 : Value) (xs0 : Vh) (va1 : Value) (xs1 : Vh) (k2 : Int) (W : World), rowV W va0 xs0 → xs0.1.2.length ≤ 1048576 → xs0.2.2.length ≤ 1048576 → rowV W va1 xs1 → xs1.1.2.length ≤ 1048576 → xs1.2.2.length ≤ 1048576 → -9223372036854775808 ≤ k2 → k2 ≤ 9223372036854775807 → Calls Try.prog 13 #[va0, va1, .int .i64 k2] W (fun e w' => ∃ v0, e = .returned (.tuple #[v0, .bool (ivDivR xs0 xs1 k2).2]) ∧ ownsV w' W.heap.size v0 (ivDivR xs0 xs1 k2).1 ∧ Below W.heap.size W w')) :
    Calls Try.prog 4 #[.agg #[.bool g0, .slice a0 n0 c0, .bool gg0, .slice aa0 nn0 cc0], .agg #[.bool g1, .slice a1 n1 c1, .bool gg1, .slice aa1 nn1 cc1], .int .i64 k2] w fun e w' => e = .returned (.bool true) ∧ Below w.heap.size w w' := by
  have h0' : ¬ ((1048576 : Int) - (n0 : Int) - (nn0 : Int) < 0) := by omega
  have h1' : ¬ ((1048576 : Int) - (n0 : Int) - (nn0 : Int) - (n1 : Int) - (nn1 : Int) < 0) := by omega
  have T0 : ∀ W : World, IsRow .i64 W a0 n0 c0 zs0 → IsRow .i64 W aa0 nn0 cc0 zz0 → Calls Try.prog 7 #[.agg #[.bool g0, .slice a0 n0 c0, .bool gg0, .slice aa0 nn0 cc0]] W fun e w' => ∃ v, e = .returned v ∧ ownsV w' W.heap.size v ((g0, zs0.take n0), (gg0, zz0.take nn0)) ∧ Below W.heap.size W w' := fun W h h' => toV g0 a0 n0 c0 zs0 gg0 aa0 nn0 cc0 zz0 W (by omega) (by omega) h h'
  have l0 : (((g0, zs0.take n0), (gg0, zz0.take nn0)) : Vh).1.2.length ≤ 1048576 ∧ (((g0, zs0.take n0), (gg0, zz0.take nn0)) : Vh).2.2.length ≤ 1048576 := by show (zs0.take n0).length ≤ 1048576 ∧ (zz0.take nn0).length ≤ 1048576; rw [List.length_take, List.length_take]; omega
  obtain ⟨xs0, hxs0⟩ : ∃ xs : Vh, ((g0, zs0.take n0), (gg0, zz0.take nn0)) = xs := ⟨_, rfl⟩
  rw [hxs0] at T0 l0 hR
  clear hxs0
  have T1 : ∀ W : World, IsRow .i64 W a1 n1 c1 zs1 → IsRow .i64 W aa1 nn1 cc1 zz1 → Calls Try.prog 7 #[.agg #[.bool g1, .slice a1 n1 c1, .bool gg1, .slice aa1 nn1 cc1]] W fun e w' => ∃ v, e = .returned v ∧ ownsV w' W.heap.size v ((g1, zs1.take n1), (gg1, zz1.take nn1)) ∧ Below W.heap.size W w' := fun W h h' => toV g1 a1 n1 c1 zs1 gg1 aa1 nn1 cc1 zz1 W (by omega) (by omega) h h'
  have l1 : (((g1, zs1.take n1), (gg1, zz1.take nn1)) : Vh).1.2.length ≤ 1048576 ∧ (((g1, zs1.take n1), (gg1, zz1.take nn1)) : Vh).2.2.length ≤ 1048576 := by show (zs1.take n1).length ≤ 1048576 ∧ (zz1.take nn1).length ≤ 1048576; rw [List.length_take, List.length_take]; omega
  obtain ⟨xs1, hxs1⟩ : ∃ xs : Vh, ((g1, zs1.take n1), (gg1, zz1.take nn1)) = xs := ⟨_, rfl⟩
  rw [hxs1] at T1 l1 hR
  clear hxs1
  have S := fun va0 va1 W q0 q1 => hS va0 xs0 va1 xs1 k2 W q0 l0.1 l0.2 q1 l1.1 l1.2 hk2.1 hk2.2
  have I := fun va0 va1 W q0 q1 => hI va0 xs0 va1 xs1 k2 W q0 l0.1 l0.2 q1 l1.1 l1.2 hk2.1 hk2.2
  obtain ⟨r0, r1, hr⟩ : ∃ r0 r1, ivDivR xs0 xs1 k2 = (r0, r1) := ⟨_, _, rfl⟩
  simp only [hr] at S I hR
  clear hS hI hr
  have eb1 : (r1 != r1) = false := by simp
  have B := Below.refl w.heap.size w
  go_enter Try.func4, Try.ntmps4
  go_wp2_with fail
  have hsw1 : (w.alloc (.cells #[.bool g0, .slice a0 n0 c0, .bool gg0, .slice aa0 nn0 cc0] 26)).heap.size = w.heap.size + 1 := by simp
  have bB := below1 w (.cells #[.bool g0, .slice a0 n0 c0, .bool gg0, .slice aa0 nn0 cc0] 26)
  have oba0 := BoxV.made w (.bool g0) (.slice a0 n0 c0) (.bool gg0) (.slice aa0 nn0 cc0) 26
  have B := B.trans (bB.mono B.size)
  clear bB
  generalize w.alloc (.cells #[.bool g0, .slice a0 n0 c0, .bool gg0, .slice aa0 nn0 cc0] 26) = w1 at *
  have hsw2 : (w1.alloc (.cells #[.bool g1, .slice a1 n1 c1, .bool gg1, .slice aa1 nn1 cc1] 26)).heap.size = w1.heap.size + 1 := by simp
  have bB := below1 w1 (.cells #[.bool g1, .slice a1 n1 c1, .bool gg1, .slice aa1 nn1 cc1] 26)
  have oba1 := BoxV.made w1 (.bool g1) (.slice a1 n1 c1) (.bool gg1) (.slice aa1 nn1 cc1) 26
  have dba0_ba1 := apart_of (fun k hk => (oba0.ltb k hk).2) (fun k hk => (oba1.ltb k hk).1)
  rw [hsw1] at oba1
  have oba0 := oba0.below bB (Nat.le_refl _)
  have B := B.trans (bB.mono B.size)
  clear bB
  generalize w1.alloc (.cells #[.bool g1, .slice a1 n1 c1, .bool gg1, .slice aa1 nn1 cc1] 26) = w2 at *
  refine (szV_yes g0 a0 n0 c0 gg0 aa0 nn0 cc0 ((1048576 : Int)) w2 (by omega) (by omega)).mono ?_
  rintro e w3 ⟨rfl, bw3⟩
  have oba0 := oba0.below bw3 (Nat.le_refl _)
  have oba1 := oba1.below bw3 (Nat.le_refl _)
  have B := B.trans (bw3.mono B.size)
  clear bw3
  have cba00 := oba0.c0
  have cba01 := oba0.c1
  have cba02 := oba0.c2
  have cba03 := oba0.c3
  have hba0 := oba0.hi
  have cba10 := oba1.c0
  have cba11 := oba1.c1
  have cba12 := oba1.c2
  have cba13 := oba1.c3
  have hba1 := oba1.hi
  go_wp2_with fail
  clear cba00 cba01 cba02 cba03 hba0
  clear cba10 cba11 cba12 cba13 hba1
  refine (szV_yes g1 a1 n1 c1 gg1 aa1 nn1 cc1 ((1048576 : Int) - (n0 : Int) - (nn0 : Int)) w3 (by omega) (by omega)).mono ?_
  rintro e w4 ⟨rfl, bw4⟩
  have oba0 := oba0.below bw4 (Nat.le_refl _)
  have oba1 := oba1.below bw4 (Nat.le_refl _)
  have B := B.trans (bw4.mono B.size)
  clear bw4
  -- the specification's answer
  have cba00 := oba0.c0
  have cba01 := oba0.c1
  have cba02 := oba0.c2
  have cba03 := oba0.c3
  have hba0 := oba0.hi
  have cba10 := oba1.c0
  have cba11 := oba1.c1
  have cba12 := oba1.c2
  have cba13 := oba1.c3
  have hba1 := oba1.hi
  go_wp2_with fail
  clear cba00 cba01 cba02 cba03 hba0
  clear cba10 cba11 cba12 cba13 hba1
  apply wp_cutV (r := r0) (base := w4.heap.size) (W := w4)
  case hA =>
    have C0 : Below w4.heap.size w4 w4.drew := (Below.refl w4.heap.size w4).drew
    have hC0 : w4.heap.size ≤ w4.drew.heap.size := C0.size
    have kba0 := oba0.below C0 (Nat.le_refl _)
    have kba1 := oba1.below C0 (Nat.le_refl _)
    have kba00 := kba0.c0
    have kba01 := kba0.c1
    have kba02 := kba0.c2
    have kba03 := kba0.c3
    have kba10 := kba1.c0
    have kba11 := kba1.c1
    have kba12 := kba1.c2
    have kba13 := kba1.c3
    have CZ : Below w4.heap.size w4 (w4.alloc (.cells #[.bool false, .slice none 0 0, .bool false, .slice none 0 0] 30)).drew := (below1 w4 (.cells #[.bool false, .slice none 0 0, .bool false, .slice none 0 0] 30)).drew
    have hCZ : w4.heap.size ≤ (w4.alloc (.cells #[.bool false, .slice none 0 0, .bool false, .slice none 0 0] 30)).drew.heap.size := CZ.size
    have obz := (BoxV.made w4 (.bool false) (.slice none 0 0) (.bool false) (.slice none 0 0) 30).below ((Below.refl (w4.alloc (.cells #[.bool false, .slice none 0 0, .bool false, .slice none 0 0] 30)).heap.size (w4.alloc (.cells #[.bool false, .slice none 0 0, .bool false, .slice none 0 0] 30))).drew) (Nat.le_refl _)
    have hbz : w4.heap.size < (w4.alloc (.cells #[.bool false, .slice none 0 0, .bool false, .slice none 0 0] 30)).drew.heap.size := obz.hi
    have kzba0 := oba0.below CZ (Nat.le_refl _)
    have kzba00 := kzba0.c0
    have kzba01 := kzba0.c1
    have kzba02 := kzba0.c2
    have kzba03 := kzba0.c3
    have kzba1 := oba1.below CZ (Nat.le_refl _)
    have kzba10 := kzba1.c0
    have kzba11 := kzba1.c1
    have kzba12 := kzba1.c2
    have kzba13 := kzba1.c3
    have hiba0 := oba0.hi
    have hiba1 := oba1.hi
    have nzba0 : ¬ (w4.heap.size = w.heap.size) := by omega
    have nyba0 : ¬ (w.heap.size = w4.heap.size) := by omega
    have nzba1 : ¬ (w4.heap.size = w.heap.size + 1) := by omega
    have nyba1 : ¬ (w.heap.size + 1 = w4.heap.size) := by omega
    go_region_held (fun w' => w'.cell? ⟨w.heap.size, 0, none⟩ = some (.bool g0) ∧ w'.cell? ⟨w.heap.size, 1, none⟩ = some (.slice a0 n0 c0) ∧ w'.cell? ⟨w.heap.size, 2, none⟩ = some (.bool gg0) ∧ w'.cell? ⟨w.heap.size, 3, none⟩ = some (.slice aa0 nn0 cc0) ∧ w'.cell? ⟨w.heap.size + 1, 0, none⟩ = some (.bool g1) ∧ w'.cell? ⟨w.heap.size + 1, 1, none⟩ = some (.slice a1 n1 c1) ∧ w'.cell? ⟨w.heap.size + 1, 2, none⟩ = some (.bool gg1) ∧ w'.cell? ⟨w.heap.size + 1, 3, none⟩ = some (.slice aa1 nn1 cc1)) (go_keep) (first
      | (go_at_call_of 7 (Value.slice a0 n0 c0)
         (first
           | (refine (T0 w4.drew (hr0.below (B.trans (C0.mono B.size))) (hh0.below (B.trans (C0.mono B.size)))).mono ?_; rintro e wc1 ⟨vs0, rfl, os0, bb1⟩; have C1 := C0.trans (bb1.mono hC0); have hC1 := Nat.le_trans hC0 bb1.size)
           | (refine (T0 (w4.alloc (.cells #[.bool false, .slice none 0 0, .bool false, .slice none 0 0] 30)).drew (hr0.below (B.trans (CZ.mono B.size))) (hh0.below (B.trans (CZ.mono B.size)))).mono ?_; rintro e wc1 ⟨vs0, rfl, os0, bb1⟩; have C1 := CZ.trans (bb1.mono hCZ); have hC1 := Nat.le_trans hCZ bb1.size; have obx := obz.below bb1 (Nat.le_refl _); have hbx := Nat.lt_of_lt_of_le hbz bb1.size)
           )
         have kba0 := oba0.below C1 (Nat.le_refl _)
         have kba1 := oba1.below C1 (Nat.le_refl _)
         have kba00 := kba0.c0
         have kba01 := kba0.c1
         have kba02 := kba0.c2
         have kba03 := kba0.c3
         have kba10 := kba1.c0
         have kba11 := kba1.c1
         have kba12 := kba1.c2
         have kba13 := kba1.c3)
      | (go_at_call_of 7 (Value.slice a1 n1 c1)
         (first
           | (have qx := obx; refine (T1 wc1 (hr1.below (B.trans (C1.mono B.size))) (hh1.below (B.trans (C1.mono B.size)))).mono ?_; rintro e wc2 ⟨vs1, rfl, os1, bb2⟩; have os0 := os0.below bb2 (Nat.le_refl _); have C2 := C1.trans (bb2.mono hC1); have hC2 := Nat.le_trans hC1 bb2.size; have obx := qx.below bb2 (Nat.le_refl _); clear qx; skip)
           | (refine (T1 wc1 (hr1.below (B.trans (C1.mono B.size))) (hh1.below (B.trans (C1.mono B.size)))).mono ?_; rintro e wc2 ⟨vs1, rfl, os1, bb2⟩; have os0 := os0.below bb2 (Nat.le_refl _); have C2 := C1.trans (bb2.mono hC1); have hC2 := Nat.le_trans hC1 bb2.size)
           | (have CA := C1.alloc hC1 (.cells #[.bool false, .slice none 0 0, .bool false, .slice none 0 0] 30); refine (T1 (wc1.alloc (.cells #[.bool false, .slice none 0 0, .bool false, .slice none 0 0] 30)) (hr1.below (B.trans (CA.mono B.size))) (hh1.below (B.trans (CA.mono B.size)))).mono ?_; rintro e wc2 ⟨vs1, rfl, os1, bb2⟩; have os0 := (os0.below (below1 wc1 (.cells #[.bool false, .slice none 0 0, .bool false, .slice none 0 0] 30)) (Nat.le_refl _)).below bb2 (Nat.le_refl _); have C2 := CA.trans (bb2.mono (Nat.le_trans hC1 (below1 wc1 (.cells #[.bool false, .slice none 0 0, .bool false, .slice none 0 0] 30)).size)); have hC2 := Nat.le_trans (Nat.le_trans hC1 (below1 wc1 (.cells #[.bool false, .slice none 0 0, .bool false, .slice none 0 0] 30)).size) bb2.size; have obx := ((BoxV.made wc1 (.bool false) (.slice none 0 0) (.bool false) (.slice none 0 0) 30).mono hC1).below bb2 (Nat.le_refl _); have hbx : wc1.heap.size < (wc1.alloc (.cells #[.bool false, .slice none 0 0, .bool false, .slice none 0 0] 30)).heap.size := (by simp); have naba0 : ¬ (wc1.heap.size = w.heap.size) := (by omega); have nbba0 : ¬ (w.heap.size = wc1.heap.size) := (by omega); have naba1 : ¬ (wc1.heap.size = w.heap.size + 1) := (by omega); have nbba1 : ¬ (w.heap.size + 1 = wc1.heap.size) := (by omega))
           )
         have kba0 := oba0.below C2 (Nat.le_refl _)
         have kba1 := oba1.below C2 (Nat.le_refl _)
         have kba00 := kba0.c0
         have kba01 := kba0.c1
         have kba02 := kba0.c2
         have kba03 := kba0.c3
         have kba10 := kba1.c0
         have kba11 := kba1.c1
         have kba12 := kba1.c2
         have kba13 := kba1.c3)
      | (go_at_call 12
         (first
           | (have qx := obx; refine (S _ _ (wc2) os0.row os1.row).mono ?_; rintro e wc3 ⟨vF, rfl, oF, bb3⟩; have os0 := os0.below bb3 (Nat.le_refl _); have os1 := os1.below bb3 (Nat.le_refl _); have hBF := hC2; have hXF := qx.hi; have C3 := C2.trans (bb3.mono hC2); have hC3 := Nat.le_trans hC2 bb3.size; have obx := qx.below bb3 (Nat.le_refl _); clear qx; skip)
           | (refine (S _ _ (wc2) os0.row os1.row).mono ?_; rintro e wc3 ⟨vF, rfl, oF, bb3⟩; have os0 := os0.below bb3 (Nat.le_refl _); have os1 := os1.below bb3 (Nat.le_refl _); have hBF := hC2; have C3 := C2.trans (bb3.mono hC2); have hC3 := Nat.le_trans hC2 bb3.size)
           | (have CA := C2.alloc hC2 (.cells #[.bool false, .slice none 0 0, .bool false, .slice none 0 0] 30); refine (S _ _ ((wc2.alloc (.cells #[.bool false, .slice none 0 0, .bool false, .slice none 0 0] 30))) (os0.below (below1 wc2 (.cells #[.bool false, .slice none 0 0, .bool false, .slice none 0 0] 30)) (Nat.le_refl _)).row (os1.below (below1 wc2 (.cells #[.bool false, .slice none 0 0, .bool false, .slice none 0 0] 30)) (Nat.le_refl _)).row).mono ?_; rintro e wc3 ⟨vF, rfl, oF, bb3⟩; have os0 := (os0.below (below1 wc2 (.cells #[.bool false, .slice none 0 0, .bool false, .slice none 0 0] 30)) (Nat.le_refl _)).below bb3 (Nat.le_refl _); have os1 := (os1.below (below1 wc2 (.cells #[.bool false, .slice none 0 0, .bool false, .slice none 0 0] 30)) (Nat.le_refl _)).below bb3 (Nat.le_refl _); have hBF : w4.heap.size ≤ (wc2.alloc (.cells #[.bool false, .slice none 0 0, .bool false, .slice none 0 0] 30)).heap.size := Nat.le_trans hC2 (below1 wc2 (.cells #[.bool false, .slice none 0 0, .bool false, .slice none 0 0] 30)).size; have hXF : wc2.heap.size < (wc2.alloc (.cells #[.bool false, .slice none 0 0, .bool false, .slice none 0 0] 30)).heap.size := (by simp); have C3 := CA.trans (bb3.mono (Nat.le_trans hC2 (below1 wc2 (.cells #[.bool false, .slice none 0 0, .bool false, .slice none 0 0] 30)).size)); have hC3 := Nat.le_trans (Nat.le_trans hC2 (below1 wc2 (.cells #[.bool false, .slice none 0 0, .bool false, .slice none 0 0] 30)).size) bb3.size; have obx := ((BoxV.made wc2 (.bool false) (.slice none 0 0) (.bool false) (.slice none 0 0) 30).mono hC2).below bb3 (Nat.le_refl _); have hbx : wc2.heap.size < (wc2.alloc (.cells #[.bool false, .slice none 0 0, .bool false, .slice none 0 0] 30)).heap.size := (by simp); have naba0 : ¬ (wc2.heap.size = w.heap.size) := (by omega); have nbba0 : ¬ (w.heap.size = wc2.heap.size) := (by omega); have naba1 : ¬ (wc2.heap.size = w.heap.size + 1) := (by omega); have nbba1 : ¬ (w.heap.size + 1 = wc2.heap.size) := (by omega))
           )
         have kba0 := oba0.below C3 (Nat.le_refl _)
         have kba1 := oba1.below C3 (Nat.le_refl _)
         have kba00 := kba0.c0
         have kba01 := kba0.c1
         have kba02 := kba0.c2
         have kba03 := kba0.c3
         have kba10 := kba1.c0
         have kba11 := kba1.c1
         have kba12 := kba1.c2
         have kba13 := kba1.c3
         obtain ⟨sF, tF, rfl, hqF, hpF, -⟩ := id oF
         obtain ⟨ad, cp, rfl, -⟩ := hqF.row
         obtain ⟨ae, cq, rfl, -⟩ := hpF.row
         clear hqF hpF
         have nuba0 : ¬ (wc3.heap.size = w.heap.size) := by omega
         have nvba0 : ¬ (w.heap.size = wc3.heap.size) := by omega
         have nuba1 : ¬ (wc3.heap.size = w.heap.size + 1) := by omega
         have nvba1 : ¬ (w.heap.size + 1 = wc3.heap.size) := by omega
         (try have ox0 := obx.c0)
         (try have ox1 := obx.c1)
         (try have ox2 := obx.c2)
         (try have ox3 := obx.c3)
         (try have ox4 := obx.f0)
         (try have ox5 := obx.f1)
         (try have ox6 := obx.f2)
         (try have ox7 := obx.f3))
      )
    all_goals first
      | (have hcut := cutV_old obx oF hBF hXF C3 (.bool r0.1.1) (.slice ad r0.1.2.length cp) (.bool r0.2.1) (.slice ae r0.2.2.length cq); exact cutMV_in vs0 vs1 ad cp ae cq _ rfl hcut)
      | (have hcut := cutV_new oF hBF hC3 C3 30 (.bool r0.1.1) (.slice ad r0.1.2.length cp) (.bool r0.2.1) (.slice ae r0.2.2.length cq); generalize wc3.heap.size = bx at *; exact cutMV_in vs0 vs1 ad cp ae cq bx rfl hcut)
  intro vs0 vs1 adw0 cpw0 aew0 cqw0 bkw0 w5 ow0 obw0 dw0_bw0 bw5
  have dba0_w0 := apart_of (fun k hk => (oba0.ltb k hk).2) (fun k hk => (ow0.ltb k hk).1)
  have dba0_bw0 := apart_of (fun k hk => (oba0.ltb k hk).2) (fun k hk => (obw0.ltb k hk).1)
  have dba1_w0 := apart_of (fun k hk => (oba1.ltb k hk).2) (fun k hk => (ow0.ltb k hk).1)
  have dba1_bw0 := apart_of (fun k hk => (oba1.ltb k hk).2) (fun k hk => (obw0.ltb k hk).1)
  have mw0 : ∀ k ∈ blkV (.agg #[.bool r0.1.1, .slice adw0 r0.1.2.length cpw0, .bool r0.2.1, .slice aew0 r0.2.2.length cqw0]), w.heap.size ≤ k := fun k hk => Nat.le_trans B.size (ow0.ltb k hk).1
  have oba0 := oba0.below bw5 (Nat.le_refl _)
  have oba1 := oba1.below bw5 (Nat.le_refl _)
  have B := B.trans (bw5.mono B.size)
  clear bw5
  -- the arguments, copied; the program's answer
  have cba00 := oba0.c0
  have cba01 := oba0.c1
  have cba02 := oba0.c2
  have cba03 := oba0.c3
  have hba0 := oba0.hi
  have cba10 := oba1.c0
  have cba11 := oba1.c1
  have cba12 := oba1.c2
  have cba13 := oba1.c3
  have hba1 := oba1.hi
  have cbw00 := obw0.c0
  have cbw01 := obw0.c1
  have cbw02 := obw0.c2
  have cbw03 := obw0.c3
  have hbw0 := obw0.hi
  go_wp2_with fail
  clear cba00 cba01 cba02 cba03 hba0
  clear cba10 cba11 cba12 cba13 hba1
  clear cbw00 cbw01 cbw02 cbw03 hbw0
  refine (T0 w5 (hr0.below B) (hh0.below B)).mono ?_
  rintro e w6 ⟨vx0, rfl, ox0, bw6⟩
  have dba0_x0 := apart_of (fun k hk => (oba0.ltb k hk).2) (fun k hk => (ox0.ltb k hk).1)
  have dba1_x0 := apart_of (fun k hk => (oba1.ltb k hk).2) (fun k hk => (ox0.ltb k hk).1)
  have dw0_x0 := apart_of (fun k hk => (ow0.ltb k hk).2) (fun k hk => (ox0.ltb k hk).1)
  have dbw0_x0 := apart_of (fun k hk => (obw0.ltb k hk).2) (fun k hk => (ox0.ltb k hk).1)
  have mx0 : ∀ k ∈ blkV vx0, w.heap.size ≤ k := fun k hk => Nat.le_trans B.size (ox0.ltb k hk).1
  obtain ⟨sx0, tx0, rfl, hqx0, hpx0, -⟩ := id ox0
  obtain ⟨adx0, cpx0, rfl, -⟩ := hqx0.row
  obtain ⟨aex0, cqx0, rfl, -⟩ := hpx0.row
  clear hqx0 hpx0
  have oba0 := oba0.below bw6 (Nat.le_refl _)
  have oba1 := oba1.below bw6 (Nat.le_refl _)
  have ow0 := ow0.below bw6 (Nat.le_refl _)
  have obw0 := obw0.below bw6 (Nat.le_refl _)
  have B := B.trans (bw6.mono B.size)
  clear bw6
  have cba00 := oba0.c0
  have cba01 := oba0.c1
  have cba02 := oba0.c2
  have cba03 := oba0.c3
  have hba0 := oba0.hi
  have cba10 := oba1.c0
  have cba11 := oba1.c1
  have cba12 := oba1.c2
  have cba13 := oba1.c3
  have hba1 := oba1.hi
  have cbw00 := obw0.c0
  have cbw01 := obw0.c1
  have cbw02 := obw0.c2
  have cbw03 := obw0.c3
  have hbw0 := obw0.hi
  have eba0 := oba0.below (below1 w6 (.cells #[.bool xs0.1.1, .slice adx0 xs0.1.2.length cpx0, .bool xs0.2.1, .slice aex0 xs0.2.2.length cqx0] 30)) (Nat.le_refl _)
  have eba00 := eba0.c0
  have eba01 := eba0.c1
  have eba02 := eba0.c2
  have eba03 := eba0.c3
  have eba1 := oba1.below (below1 w6 (.cells #[.bool xs0.1.1, .slice adx0 xs0.1.2.length cpx0, .bool xs0.2.1, .slice aex0 xs0.2.2.length cqx0] 30)) (Nat.le_refl _)
  have eba10 := eba1.c0
  have eba11 := eba1.c1
  have eba12 := eba1.c2
  have eba13 := eba1.c3
  have ebw0 := obw0.below (below1 w6 (.cells #[.bool xs0.1.1, .slice adx0 xs0.1.2.length cpx0, .bool xs0.2.1, .slice aex0 xs0.2.2.length cqx0] 30)) (Nat.le_refl _)
  have ebw00 := ebw0.c0
  have ebw01 := ebw0.c1
  have ebw02 := ebw0.c2
  have ebw03 := ebw0.c3
  go_wp2_with fail
  clear cba00 cba01 cba02 cba03 hba0
  clear cba10 cba11 cba12 cba13 hba1
  clear cbw00 cbw01 cbw02 cbw03 hbw0
  clear eba0 eba00 eba01 eba02 eba03
  clear eba1 eba10 eba11 eba12 eba13
  clear ebw0 ebw00 ebw01 ebw02 ebw03
  have hsw7 : (w6.alloc (.cells #[.bool xs0.1.1, .slice adx0 xs0.1.2.length cpx0, .bool xs0.2.1, .slice aex0 xs0.2.2.length cqx0] 30)).heap.size = w6.heap.size + 1 := by simp
  have bB := below1 w6 (.cells #[.bool xs0.1.1, .slice adx0 xs0.1.2.length cpx0, .bool xs0.2.1, .slice aex0 xs0.2.2.length cqx0] 30)
  have obx0 := BoxV.made w6 (.bool xs0.1.1) (.slice adx0 xs0.1.2.length cpx0) (.bool xs0.2.1) (.slice aex0 xs0.2.2.length cqx0) 30
  have dba0_bx0 := apart_of (fun k hk => (oba0.ltb k hk).2) (fun k hk => (obx0.ltb k hk).1)
  have dba1_bx0 := apart_of (fun k hk => (oba1.ltb k hk).2) (fun k hk => (obx0.ltb k hk).1)
  have dw0_bx0 := apart_of (fun k hk => (ow0.ltb k hk).2) (fun k hk => (obx0.ltb k hk).1)
  have dbw0_bx0 := apart_of (fun k hk => (obw0.ltb k hk).2) (fun k hk => (obx0.ltb k hk).1)
  have dx0_bx0 := apart_of (fun k hk => (ox0.ltb k hk).2) (fun k hk => (obx0.ltb k hk).1)
  have oba0 := oba0.below bB (Nat.le_refl _)
  have oba1 := oba1.below bB (Nat.le_refl _)
  have ow0 := ow0.below bB (Nat.le_refl _)
  have obw0 := obw0.below bB (Nat.le_refl _)
  have ox0 := ox0.below bB (Nat.le_refl _)
  have B := B.trans (bB.mono B.size)
  clear bB
  generalize w6.alloc (.cells #[.bool xs0.1.1, .slice adx0 xs0.1.2.length cpx0, .bool xs0.2.1, .slice aex0 xs0.2.2.length cqx0] 30) = w7 at *
  refine (T1 w7 (hr1.below B) (hh1.below B)).mono ?_
  rintro e w8 ⟨vx1, rfl, ox1, bw8⟩
  have dba0_x1 := apart_of (fun k hk => (oba0.ltb k hk).2) (fun k hk => (ox1.ltb k hk).1)
  have dba1_x1 := apart_of (fun k hk => (oba1.ltb k hk).2) (fun k hk => (ox1.ltb k hk).1)
  have dw0_x1 := apart_of (fun k hk => (ow0.ltb k hk).2) (fun k hk => (ox1.ltb k hk).1)
  have dbw0_x1 := apart_of (fun k hk => (obw0.ltb k hk).2) (fun k hk => (ox1.ltb k hk).1)
  have dx0_x1 := apart_of (fun k hk => (ox0.ltb k hk).2) (fun k hk => (ox1.ltb k hk).1)
  have dbx0_x1 := apart_of (fun k hk => (obx0.ltb k hk).2) (fun k hk => (ox1.ltb k hk).1)
  have mx1 : ∀ k ∈ blkV vx1, w.heap.size ≤ k := fun k hk => Nat.le_trans B.size (ox1.ltb k hk).1
  obtain ⟨sx1, tx1, rfl, hqx1, hpx1, -⟩ := id ox1
  obtain ⟨adx1, cpx1, rfl, -⟩ := hqx1.row
  obtain ⟨aex1, cqx1, rfl, -⟩ := hpx1.row
  clear hqx1 hpx1
  have oba0 := oba0.below bw8 (Nat.le_refl _)
  have oba1 := oba1.below bw8 (Nat.le_refl _)
  have ow0 := ow0.below bw8 (Nat.le_refl _)
  have obw0 := obw0.below bw8 (Nat.le_refl _)
  have ox0 := ox0.below bw8 (Nat.le_refl _)
  have obx0 := obx0.below bw8 (Nat.le_refl _)
  have B := B.trans (bw8.mono B.size)
  clear bw8
  have cba00 := oba0.c0
  have cba01 := oba0.c1
  have cba02 := oba0.c2
  have cba03 := oba0.c3
  have hba0 := oba0.hi
  have cba10 := oba1.c0
  have cba11 := oba1.c1
  have cba12 := oba1.c2
  have cba13 := oba1.c3
  have hba1 := oba1.hi
  have cbw00 := obw0.c0
  have cbw01 := obw0.c1
  have cbw02 := obw0.c2
  have cbw03 := obw0.c3
  have hbw0 := obw0.hi
  have cbx00 := obx0.c0
  have cbx01 := obx0.c1
  have cbx02 := obx0.c2
  have cbx03 := obx0.c3
  have hbx0 := obx0.hi
  have eba0 := oba0.below (below1 w8 (.cells #[.bool xs1.1.1, .slice adx1 xs1.1.2.length cpx1, .bool xs1.2.1, .slice aex1 xs1.2.2.length cqx1] 30)) (Nat.le_refl _)
  have eba00 := eba0.c0
  have eba01 := eba0.c1
  have eba02 := eba0.c2
  have eba03 := eba0.c3
  have eba1 := oba1.below (below1 w8 (.cells #[.bool xs1.1.1, .slice adx1 xs1.1.2.length cpx1, .bool xs1.2.1, .slice aex1 xs1.2.2.length cqx1] 30)) (Nat.le_refl _)
  have eba10 := eba1.c0
  have eba11 := eba1.c1
  have eba12 := eba1.c2
  have eba13 := eba1.c3
  have ebw0 := obw0.below (below1 w8 (.cells #[.bool xs1.1.1, .slice adx1 xs1.1.2.length cpx1, .bool xs1.2.1, .slice aex1 xs1.2.2.length cqx1] 30)) (Nat.le_refl _)
  have ebw00 := ebw0.c0
  have ebw01 := ebw0.c1
  have ebw02 := ebw0.c2
  have ebw03 := ebw0.c3
  have ebx0 := obx0.below (below1 w8 (.cells #[.bool xs1.1.1, .slice adx1 xs1.1.2.length cpx1, .bool xs1.2.1, .slice aex1 xs1.2.2.length cqx1] 30)) (Nat.le_refl _)
  have ebx00 := ebx0.c0
  have ebx01 := ebx0.c1
  have ebx02 := ebx0.c2
  have ebx03 := ebx0.c3
  go_wp2_with fail
  clear cba00 cba01 cba02 cba03 hba0
  clear cba10 cba11 cba12 cba13 hba1
  clear cbw00 cbw01 cbw02 cbw03 hbw0
  clear cbx00 cbx01 cbx02 cbx03 hbx0
  clear eba0 eba00 eba01 eba02 eba03
  clear eba1 eba10 eba11 eba12 eba13
  clear ebw0 ebw00 ebw01 ebw02 ebw03
  clear ebx0 ebx00 ebx01 ebx02 ebx03
  have hsw9 : (w8.alloc (.cells #[.bool xs1.1.1, .slice adx1 xs1.1.2.length cpx1, .bool xs1.2.1, .slice aex1 xs1.2.2.length cqx1] 30)).heap.size = w8.heap.size + 1 := by simp
  have bB := below1 w8 (.cells #[.bool xs1.1.1, .slice adx1 xs1.1.2.length cpx1, .bool xs1.2.1, .slice aex1 xs1.2.2.length cqx1] 30)
  have obx1 := BoxV.made w8 (.bool xs1.1.1) (.slice adx1 xs1.1.2.length cpx1) (.bool xs1.2.1) (.slice aex1 xs1.2.2.length cqx1) 30
  have dba0_bx1 := apart_of (fun k hk => (oba0.ltb k hk).2) (fun k hk => (obx1.ltb k hk).1)
  have dba1_bx1 := apart_of (fun k hk => (oba1.ltb k hk).2) (fun k hk => (obx1.ltb k hk).1)
  have dw0_bx1 := apart_of (fun k hk => (ow0.ltb k hk).2) (fun k hk => (obx1.ltb k hk).1)
  have dbw0_bx1 := apart_of (fun k hk => (obw0.ltb k hk).2) (fun k hk => (obx1.ltb k hk).1)
  have dx0_bx1 := apart_of (fun k hk => (ox0.ltb k hk).2) (fun k hk => (obx1.ltb k hk).1)
  have dbx0_bx1 := apart_of (fun k hk => (obx0.ltb k hk).2) (fun k hk => (obx1.ltb k hk).1)
  have dx1_bx1 := apart_of (fun k hk => (ox1.ltb k hk).2) (fun k hk => (obx1.ltb k hk).1)
  have oba0 := oba0.below bB (Nat.le_refl _)
  have oba1 := oba1.below bB (Nat.le_refl _)
  have ow0 := ow0.below bB (Nat.le_refl _)
  have obw0 := obw0.below bB (Nat.le_refl _)
  have ox0 := ox0.below bB (Nat.le_refl _)
  have obx0 := obx0.below bB (Nat.le_refl _)
  have ox1 := ox1.below bB (Nat.le_refl _)
  have B := B.trans (bB.mono B.size)
  clear bB
  generalize w8.alloc (.cells #[.bool xs1.1.1, .slice adx1 xs1.1.2.length cpx1, .bool xs1.2.1, .slice aex1 xs1.2.2.length cqx1] 30) = w9 at *
  refine (I _ _ w9 ox0.row ox1.row).mono ?_
  rintro e w10 ⟨vg0, rfl, og0, bw10⟩
  have dba0_g0 := apart_of (fun k hk => (oba0.ltb k hk).2) (fun k hk => (og0.ltb k hk).1)
  have dba1_g0 := apart_of (fun k hk => (oba1.ltb k hk).2) (fun k hk => (og0.ltb k hk).1)
  have dw0_g0 := apart_of (fun k hk => (ow0.ltb k hk).2) (fun k hk => (og0.ltb k hk).1)
  have dbw0_g0 := apart_of (fun k hk => (obw0.ltb k hk).2) (fun k hk => (og0.ltb k hk).1)
  have dx0_g0 := apart_of (fun k hk => (ox0.ltb k hk).2) (fun k hk => (og0.ltb k hk).1)
  have dbx0_g0 := apart_of (fun k hk => (obx0.ltb k hk).2) (fun k hk => (og0.ltb k hk).1)
  have dx1_g0 := apart_of (fun k hk => (ox1.ltb k hk).2) (fun k hk => (og0.ltb k hk).1)
  have dbx1_g0 := apart_of (fun k hk => (obx1.ltb k hk).2) (fun k hk => (og0.ltb k hk).1)
  have mg0 : ∀ k ∈ blkV vg0, w.heap.size ≤ k := fun k hk => Nat.le_trans B.size (og0.ltb k hk).1
  obtain ⟨sg0, tg0, rfl, hqg0, hpg0, -⟩ := id og0
  obtain ⟨adg0, cpg0, rfl, -⟩ := hqg0.row
  obtain ⟨aeg0, cqg0, rfl, -⟩ := hpg0.row
  clear hqg0 hpg0
  have oba0 := oba0.below bw10 (Nat.le_refl _)
  have oba1 := oba1.below bw10 (Nat.le_refl _)
  have ow0 := ow0.below bw10 (Nat.le_refl _)
  have obw0 := obw0.below bw10 (Nat.le_refl _)
  have ox0 := ox0.below bw10 (Nat.le_refl _)
  have obx0 := obx0.below bw10 (Nat.le_refl _)
  have ox1 := ox1.below bw10 (Nat.le_refl _)
  have obx1 := obx1.below bw10 (Nat.le_refl _)
  have B := B.trans (bw10.mono B.size)
  clear bw10
  have cba00 := oba0.c0
  have cba01 := oba0.c1
  have cba02 := oba0.c2
  have cba03 := oba0.c3
  have hba0 := oba0.hi
  have cba10 := oba1.c0
  have cba11 := oba1.c1
  have cba12 := oba1.c2
  have cba13 := oba1.c3
  have hba1 := oba1.hi
  have cbw00 := obw0.c0
  have cbw01 := obw0.c1
  have cbw02 := obw0.c2
  have cbw03 := obw0.c3
  have hbw0 := obw0.hi
  have cbx00 := obx0.c0
  have cbx01 := obx0.c1
  have cbx02 := obx0.c2
  have cbx03 := obx0.c3
  have hbx0 := obx0.hi
  have cbx10 := obx1.c0
  have cbx11 := obx1.c1
  have cbx12 := obx1.c2
  have cbx13 := obx1.c3
  have hbx1 := obx1.hi
  have eba0 := oba0.below (below1 w10 (.cells #[.bool r0.1.1, .slice adg0 r0.1.2.length cpg0, .bool r0.2.1, .slice aeg0 r0.2.2.length cqg0] 30)) (Nat.le_refl _)
  have eba00 := eba0.c0
  have eba01 := eba0.c1
  have eba02 := eba0.c2
  have eba03 := eba0.c3
  have eba1 := oba1.below (below1 w10 (.cells #[.bool r0.1.1, .slice adg0 r0.1.2.length cpg0, .bool r0.2.1, .slice aeg0 r0.2.2.length cqg0] 30)) (Nat.le_refl _)
  have eba10 := eba1.c0
  have eba11 := eba1.c1
  have eba12 := eba1.c2
  have eba13 := eba1.c3
  have ebw0 := obw0.below (below1 w10 (.cells #[.bool r0.1.1, .slice adg0 r0.1.2.length cpg0, .bool r0.2.1, .slice aeg0 r0.2.2.length cqg0] 30)) (Nat.le_refl _)
  have ebw00 := ebw0.c0
  have ebw01 := ebw0.c1
  have ebw02 := ebw0.c2
  have ebw03 := ebw0.c3
  have ebx0 := obx0.below (below1 w10 (.cells #[.bool r0.1.1, .slice adg0 r0.1.2.length cpg0, .bool r0.2.1, .slice aeg0 r0.2.2.length cqg0] 30)) (Nat.le_refl _)
  have ebx00 := ebx0.c0
  have ebx01 := ebx0.c1
  have ebx02 := ebx0.c2
  have ebx03 := ebx0.c3
  have ebx1 := obx1.below (below1 w10 (.cells #[.bool r0.1.1, .slice adg0 r0.1.2.length cpg0, .bool r0.2.1, .slice aeg0 r0.2.2.length cqg0] 30)) (Nat.le_refl _)
  have ebx10 := ebx1.c0
  have ebx11 := ebx1.c1
  have ebx12 := ebx1.c2
  have ebx13 := ebx1.c3
  go_wp2_with fail
  clear cba00 cba01 cba02 cba03 hba0
  clear cba10 cba11 cba12 cba13 hba1
  clear cbw00 cbw01 cbw02 cbw03 hbw0
  clear cbx00 cbx01 cbx02 cbx03 hbx0
  clear cbx10 cbx11 cbx12 cbx13 hbx1
  clear eba0 eba00 eba01 eba02 eba03
  clear eba1 eba10 eba11 eba12 eba13
  clear ebw0 ebw00 ebw01 ebw02 ebw03
  clear ebx0 ebx00 ebx01 ebx02 ebx03
  clear ebx1 ebx10 ebx11 ebx12 ebx13
  have hsw11 : (w10.alloc (.cells #[.bool r0.1.1, .slice adg0 r0.1.2.length cpg0, .bool r0.2.1, .slice aeg0 r0.2.2.length cqg0] 30)).heap.size = w10.heap.size + 1 := by simp
  have bB := below1 w10 (.cells #[.bool r0.1.1, .slice adg0 r0.1.2.length cpg0, .bool r0.2.1, .slice aeg0 r0.2.2.length cqg0] 30)
  have obg0 := BoxV.made w10 (.bool r0.1.1) (.slice adg0 r0.1.2.length cpg0) (.bool r0.2.1) (.slice aeg0 r0.2.2.length cqg0) 30
  have dba0_bg0 := apart_of (fun k hk => (oba0.ltb k hk).2) (fun k hk => (obg0.ltb k hk).1)
  have dba1_bg0 := apart_of (fun k hk => (oba1.ltb k hk).2) (fun k hk => (obg0.ltb k hk).1)
  have dw0_bg0 := apart_of (fun k hk => (ow0.ltb k hk).2) (fun k hk => (obg0.ltb k hk).1)
  have dbw0_bg0 := apart_of (fun k hk => (obw0.ltb k hk).2) (fun k hk => (obg0.ltb k hk).1)
  have dx0_bg0 := apart_of (fun k hk => (ox0.ltb k hk).2) (fun k hk => (obg0.ltb k hk).1)
  have dbx0_bg0 := apart_of (fun k hk => (obx0.ltb k hk).2) (fun k hk => (obg0.ltb k hk).1)
  have dx1_bg0 := apart_of (fun k hk => (ox1.ltb k hk).2) (fun k hk => (obg0.ltb k hk).1)
  have dbx1_bg0 := apart_of (fun k hk => (obx1.ltb k hk).2) (fun k hk => (obg0.ltb k hk).1)
  have dg0_bg0 := apart_of (fun k hk => (og0.ltb k hk).2) (fun k hk => (obg0.ltb k hk).1)
  have oba0 := oba0.below bB (Nat.le_refl _)
  have oba1 := oba1.below bB (Nat.le_refl _)
  have ow0 := ow0.below bB (Nat.le_refl _)
  have obw0 := obw0.below bB (Nat.le_refl _)
  have ox0 := ox0.below bB (Nat.le_refl _)
  have obx0 := obx0.below bB (Nat.le_refl _)
  have ox1 := ox1.below bB (Nat.le_refl _)
  have obx1 := obx1.below bB (Nat.le_refl _)
  have og0 := og0.below bB (Nat.le_refl _)
  have B := B.trans (bB.mono B.size)
  clear bB
  generalize w10.alloc (.cells #[.bool r0.1.1, .slice adg0 r0.1.2.length cpg0, .bool r0.2.1, .slice aeg0 r0.2.2.length cqg0] 30) = w11 at *
  refine (eqV' _ _ _ _ _ w11 (by omega) og0 ow0).mono ?_
  rintro e w12 ⟨rfl, bw12⟩
  have oba0 := oba0.below bw12 (Nat.le_refl _)
  have oba1 := oba1.below bw12 (Nat.le_refl _)
  have ow0 := ow0.below bw12 (Nat.le_refl _)
  have obw0 := obw0.below bw12 (Nat.le_refl _)
  have ox0 := ox0.below bw12 (Nat.le_refl _)
  have obx0 := obx0.below bw12 (Nat.le_refl _)
  have ox1 := ox1.below bw12 (Nat.le_refl _)
  have obx1 := obx1.below bw12 (Nat.le_refl _)
  have og0 := og0.below bw12 (Nat.le_refl _)
  have obg0 := obg0.below bw12 (Nat.le_refl _)
  have B := B.trans (bw12.mono B.size)
  clear bw12
  -- the copies are as they were
  have bB := (Below.refl w12.heap.size w12).drew
  have cba00 := oba0.c0
  have cba01 := oba0.c1
  have cba02 := oba0.c2
  have cba03 := oba0.c3
  have hba0 := oba0.hi
  have cba10 := oba1.c0
  have cba11 := oba1.c1
  have cba12 := oba1.c2
  have cba13 := oba1.c3
  have hba1 := oba1.hi
  have cbw00 := obw0.c0
  have cbw01 := obw0.c1
  have cbw02 := obw0.c2
  have cbw03 := obw0.c3
  have hbw0 := obw0.hi
  have cbx00 := obx0.c0
  have cbx01 := obx0.c1
  have cbx02 := obx0.c2
  have cbx03 := obx0.c3
  have hbx0 := obx0.hi
  have cbx10 := obx1.c0
  have cbx11 := obx1.c1
  have cbx12 := obx1.c2
  have cbx13 := obx1.c3
  have hbx1 := obx1.hi
  have cbg00 := obg0.c0
  have cbg01 := obg0.c1
  have cbg02 := obg0.c2
  have cbg03 := obg0.c3
  have hbg0 := obg0.hi
  go_wp2_with fail
  clear cba00 cba01 cba02 cba03 hba0
  clear cba10 cba11 cba12 cba13 hba1
  clear cbw00 cbw01 cbw02 cbw03 hbw0
  clear cbx00 cbx01 cbx02 cbx03 hbx0
  clear cbx10 cbx11 cbx12 cbx13 hbx1
  clear cbg00 cbg01 cbg02 cbg03 hbg0
  have oba0 := oba0.below bB (Nat.le_refl _)
  have oba1 := oba1.below bB (Nat.le_refl _)
  have ow0 := ow0.below bB (Nat.le_refl _)
  have obw0 := obw0.below bB (Nat.le_refl _)
  have ox0 := ox0.below bB (Nat.le_refl _)
  have obx0 := obx0.below bB (Nat.le_refl _)
  have ox1 := ox1.below bB (Nat.le_refl _)
  have obx1 := obx1.below bB (Nat.le_refl _)
  have og0 := og0.below bB (Nat.le_refl _)
  have obg0 := obg0.below bB (Nat.le_refl _)
  have B := B.trans (bB.mono B.size)
  clear bB
  have cba00 := oba0.c0
  have cba01 := oba0.c1
  have cba02 := oba0.c2
  have cba03 := oba0.c3
  have cba10 := oba1.c0
  have cba11 := oba1.c1
  have cba12 := oba1.c2
  have cba13 := oba1.c3
  have cbw00 := obw0.c0
  have cbw01 := obw0.c1
  have cbw02 := obw0.c2
  have cbw03 := obw0.c3
  have cbx00 := obx0.c0
  have cbx01 := obx0.c1
  have cbx02 := obx0.c2
  have cbx03 := obx0.c3
  have cbx10 := obx1.c0
  have cbx11 := obx1.c1
  have cbx12 := obx1.c2
  have cbx13 := obx1.c3
  have cbg00 := obg0.c0
  have cbg01 := obg0.c1
  have cbg02 := obg0.c2
  have cbg03 := obg0.c3
  go_region_held (fun w' => w'.cell? ⟨w.heap.size, 0, none⟩ = some (.bool g0) ∧ w'.cell? ⟨w.heap.size, 1, none⟩ = some (.slice a0 n0 c0) ∧ w'.cell? ⟨w.heap.size, 2, none⟩ = some (.bool gg0) ∧ w'.cell? ⟨w.heap.size, 3, none⟩ = some (.slice aa0 nn0 cc0) ∧ w'.cell? ⟨w.heap.size + 1, 0, none⟩ = some (.bool g1) ∧ w'.cell? ⟨w.heap.size + 1, 1, none⟩ = some (.slice a1 n1 c1) ∧ w'.cell? ⟨w.heap.size + 1, 2, none⟩ = some (.bool gg1) ∧ w'.cell? ⟨w.heap.size + 1, 3, none⟩ = some (.slice aa1 nn1 cc1) ∧ w'.cell? ⟨bkw0, 0, none⟩ = some (.bool r0.1.1) ∧ w'.cell? ⟨bkw0, 1, none⟩ = some (.slice adw0 r0.1.2.length cpw0) ∧ w'.cell? ⟨bkw0, 2, none⟩ = some (.bool r0.2.1) ∧ w'.cell? ⟨bkw0, 3, none⟩ = some (.slice aew0 r0.2.2.length cqw0) ∧ w'.cell? ⟨w6.heap.size, 0, none⟩ = some (.bool xs0.1.1) ∧ w'.cell? ⟨w6.heap.size, 1, none⟩ = some (.slice adx0 xs0.1.2.length cpx0) ∧ w'.cell? ⟨w6.heap.size, 2, none⟩ = some (.bool xs0.2.1) ∧ w'.cell? ⟨w6.heap.size, 3, none⟩ = some (.slice aex0 xs0.2.2.length cqx0) ∧ w'.cell? ⟨w8.heap.size, 0, none⟩ = some (.bool xs1.1.1) ∧ w'.cell? ⟨w8.heap.size, 1, none⟩ = some (.slice adx1 xs1.1.2.length cpx1) ∧ w'.cell? ⟨w8.heap.size, 2, none⟩ = some (.bool xs1.2.1) ∧ w'.cell? ⟨w8.heap.size, 3, none⟩ = some (.slice aex1 xs1.2.2.length cqx1) ∧ w'.cell? ⟨w10.heap.size, 0, none⟩ = some (.bool r0.1.1) ∧ w'.cell? ⟨w10.heap.size, 1, none⟩ = some (.slice adg0 r0.1.2.length cpg0) ∧ w'.cell? ⟨w10.heap.size, 2, none⟩ = some (.bool r0.2.1) ∧ w'.cell? ⟨w10.heap.size, 3, none⟩ = some (.slice aeg0 r0.2.2.length cqg0)) (go_keep) (first
    | (go_at_call_of 7 (Value.slice a0 n0 c0)
       refine (T0 w12.drew (hr0.below B) (hh0.below B)).mono ?_
       rintro e w13 ⟨vy0, rfl, oy0, bw13⟩
       have oba0 := oba0.below bw13 (Nat.le_refl _)
       have oba1 := oba1.below bw13 (Nat.le_refl _)
       have ow0 := ow0.below bw13 (Nat.le_refl _)
       have obw0 := obw0.below bw13 (Nat.le_refl _)
       have ox0 := ox0.below bw13 (Nat.le_refl _)
       have obx0 := obx0.below bw13 (Nat.le_refl _)
       have ox1 := ox1.below bw13 (Nat.le_refl _)
       have obx1 := obx1.below bw13 (Nat.le_refl _)
       have og0 := og0.below bw13 (Nat.le_refl _)
       have obg0 := obg0.below bw13 (Nat.le_refl _)
       have B := B.trans (bw13.mono B.size)
       clear bw13
       have cba00 := oba0.c0
       have cba01 := oba0.c1
       have cba02 := oba0.c2
       have cba03 := oba0.c3
       have cba10 := oba1.c0
       have cba11 := oba1.c1
       have cba12 := oba1.c2
       have cba13 := oba1.c3
       have cbw00 := obw0.c0
       have cbw01 := obw0.c1
       have cbw02 := obw0.c2
       have cbw03 := obw0.c3
       have cbx00 := obx0.c0
       have cbx01 := obx0.c1
       have cbx02 := obx0.c2
       have cbx03 := obx0.c3
       have cbx10 := obx1.c0
       have cbx11 := obx1.c1
       have cbx12 := obx1.c2
       have cbx13 := obx1.c3
       have cbg00 := obg0.c0
       have cbg01 := obg0.c1
       have cbg02 := obg0.c2
       have cbg03 := obg0.c3)
    | (go_at_call 9
       refine (eqV' _ _ _ _ _ w13 (by omega) ox0 oy0).mono ?_
       rintro e w14 ⟨rfl, bw14⟩
       have oba0 := oba0.below bw14 (Nat.le_refl _)
       have oba1 := oba1.below bw14 (Nat.le_refl _)
       have ow0 := ow0.below bw14 (Nat.le_refl _)
       have obw0 := obw0.below bw14 (Nat.le_refl _)
       have ox0 := ox0.below bw14 (Nat.le_refl _)
       have obx0 := obx0.below bw14 (Nat.le_refl _)
       have ox1 := ox1.below bw14 (Nat.le_refl _)
       have obx1 := obx1.below bw14 (Nat.le_refl _)
       have og0 := og0.below bw14 (Nat.le_refl _)
       have obg0 := obg0.below bw14 (Nat.le_refl _)
       have oy0 := oy0.below bw14 (Nat.le_refl _)
       have B := B.trans (bw14.mono B.size)
       clear bw14
       have cba00 := oba0.c0
       have cba01 := oba0.c1
       have cba02 := oba0.c2
       have cba03 := oba0.c3
       have cba10 := oba1.c0
       have cba11 := oba1.c1
       have cba12 := oba1.c2
       have cba13 := oba1.c3
       have cbw00 := obw0.c0
       have cbw01 := obw0.c1
       have cbw02 := obw0.c2
       have cbw03 := obw0.c3
       have cbx00 := obx0.c0
       have cbx01 := obx0.c1
       have cbx02 := obx0.c2
       have cbx03 := obx0.c3
       have cbx10 := obx1.c0
       have cbx11 := obx1.c1
       have cbx12 := obx1.c2
       have cbx13 := obx1.c3
       have cbg00 := obg0.c0
       have cbg01 := obg0.c1
       have cbg02 := obg0.c2
       have cbg03 := obg0.c3)
    )
  clear cba00 cba01 cba02 cba03 cba10 cba11 cba12 cba13 cbw00 cbw01 cbw02 cbw03 cbx00 cbx01 cbx02 cbx03 cbx10 cbx11 cbx12 cbx13 cbg00 cbg01 cbg02 cbg03
  clear oy0
  have bB := (Below.refl w14.heap.size w14).drew
  have cba00 := oba0.c0
  have cba01 := oba0.c1
  have cba02 := oba0.c2
  have cba03 := oba0.c3
  have hba0 := oba0.hi
  have cba10 := oba1.c0
  have cba11 := oba1.c1
  have cba12 := oba1.c2
  have cba13 := oba1.c3
  have hba1 := oba1.hi
  have cbw00 := obw0.c0
  have cbw01 := obw0.c1
  have cbw02 := obw0.c2
  have cbw03 := obw0.c3
  have hbw0 := obw0.hi
  have cbx00 := obx0.c0
  have cbx01 := obx0.c1
  have cbx02 := obx0.c2
  have cbx03 := obx0.c3
  have hbx0 := obx0.hi
  have cbx10 := obx1.c0
  have cbx11 := obx1.c1
  have cbx12 := obx1.c2
  have cbx13 := obx1.c3
  have hbx1 := obx1.hi
  have cbg00 := obg0.c0
  have cbg01 := obg0.c1
  have cbg02 := obg0.c2
  have cbg03 := obg0.c3
  have hbg0 := obg0.hi
  go_wp2_with fail
  clear cba00 cba01 cba02 cba03 hba0
  clear cba10 cba11 cba12 cba13 hba1
  clear cbw00 cbw01 cbw02 cbw03 hbw0
  clear cbx00 cbx01 cbx02 cbx03 hbx0
  clear cbx10 cbx11 cbx12 cbx13 hbx1
  clear cbg00 cbg01 cbg02 cbg03 hbg0
  have oba0 := oba0.below bB (Nat.le_refl _)
  have oba1 := oba1.below bB (Nat.le_refl _)
  have ow0 := ow0.below bB (Nat.le_refl _)
  have obw0 := obw0.below bB (Nat.le_refl _)
  have ox0 := ox0.below bB (Nat.le_refl _)
  have obx0 := obx0.below bB (Nat.le_refl _)
  have ox1 := ox1.below bB (Nat.le_refl _)
  have obx1 := obx1.below bB (Nat.le_refl _)
  have og0 := og0.below bB (Nat.le_refl _)
  have obg0 := obg0.below bB (Nat.le_refl _)
  have B := B.trans (bB.mono B.size)
  clear bB
  have cba00 := oba0.c0
  have cba01 := oba0.c1
  have cba02 := oba0.c2
  have cba03 := oba0.c3
  have cba10 := oba1.c0
  have cba11 := oba1.c1
  have cba12 := oba1.c2
  have cba13 := oba1.c3
  have cbw00 := obw0.c0
  have cbw01 := obw0.c1
  have cbw02 := obw0.c2
  have cbw03 := obw0.c3
  have cbx00 := obx0.c0
  have cbx01 := obx0.c1
  have cbx02 := obx0.c2
  have cbx03 := obx0.c3
  have cbx10 := obx1.c0
  have cbx11 := obx1.c1
  have cbx12 := obx1.c2
  have cbx13 := obx1.c3
  have cbg00 := obg0.c0
  have cbg01 := obg0.c1
  have cbg02 := obg0.c2
  have cbg03 := obg0.c3
  go_region_held (fun w' => w'.cell? ⟨w.heap.size, 0, none⟩ = some (.bool g0) ∧ w'.cell? ⟨w.heap.size, 1, none⟩ = some (.slice a0 n0 c0) ∧ w'.cell? ⟨w.heap.size, 2, none⟩ = some (.bool gg0) ∧ w'.cell? ⟨w.heap.size, 3, none⟩ = some (.slice aa0 nn0 cc0) ∧ w'.cell? ⟨w.heap.size + 1, 0, none⟩ = some (.bool g1) ∧ w'.cell? ⟨w.heap.size + 1, 1, none⟩ = some (.slice a1 n1 c1) ∧ w'.cell? ⟨w.heap.size + 1, 2, none⟩ = some (.bool gg1) ∧ w'.cell? ⟨w.heap.size + 1, 3, none⟩ = some (.slice aa1 nn1 cc1) ∧ w'.cell? ⟨bkw0, 0, none⟩ = some (.bool r0.1.1) ∧ w'.cell? ⟨bkw0, 1, none⟩ = some (.slice adw0 r0.1.2.length cpw0) ∧ w'.cell? ⟨bkw0, 2, none⟩ = some (.bool r0.2.1) ∧ w'.cell? ⟨bkw0, 3, none⟩ = some (.slice aew0 r0.2.2.length cqw0) ∧ w'.cell? ⟨w6.heap.size, 0, none⟩ = some (.bool xs0.1.1) ∧ w'.cell? ⟨w6.heap.size, 1, none⟩ = some (.slice adx0 xs0.1.2.length cpx0) ∧ w'.cell? ⟨w6.heap.size, 2, none⟩ = some (.bool xs0.2.1) ∧ w'.cell? ⟨w6.heap.size, 3, none⟩ = some (.slice aex0 xs0.2.2.length cqx0) ∧ w'.cell? ⟨w8.heap.size, 0, none⟩ = some (.bool xs1.1.1) ∧ w'.cell? ⟨w8.heap.size, 1, none⟩ = some (.slice adx1 xs1.1.2.length cpx1) ∧ w'.cell? ⟨w8.heap.size, 2, none⟩ = some (.bool xs1.2.1) ∧ w'.cell? ⟨w8.heap.size, 3, none⟩ = some (.slice aex1 xs1.2.2.length cqx1) ∧ w'.cell? ⟨w10.heap.size, 0, none⟩ = some (.bool r0.1.1) ∧ w'.cell? ⟨w10.heap.size, 1, none⟩ = some (.slice adg0 r0.1.2.length cpg0) ∧ w'.cell? ⟨w10.heap.size, 2, none⟩ = some (.bool r0.2.1) ∧ w'.cell? ⟨w10.heap.size, 3, none⟩ = some (.slice aeg0 r0.2.2.length cqg0)) (go_keep) (first
    | (go_at_call_of 7 (Value.slice a1 n1 c1)
       refine (T1 w14.drew (hr1.below B) (hh1.below B)).mono ?_
       rintro e w15 ⟨vy1, rfl, oy1, bw15⟩
       have oba0 := oba0.below bw15 (Nat.le_refl _)
       have oba1 := oba1.below bw15 (Nat.le_refl _)
       have ow0 := ow0.below bw15 (Nat.le_refl _)
       have obw0 := obw0.below bw15 (Nat.le_refl _)
       have ox0 := ox0.below bw15 (Nat.le_refl _)
       have obx0 := obx0.below bw15 (Nat.le_refl _)
       have ox1 := ox1.below bw15 (Nat.le_refl _)
       have obx1 := obx1.below bw15 (Nat.le_refl _)
       have og0 := og0.below bw15 (Nat.le_refl _)
       have obg0 := obg0.below bw15 (Nat.le_refl _)
       have B := B.trans (bw15.mono B.size)
       clear bw15
       have cba00 := oba0.c0
       have cba01 := oba0.c1
       have cba02 := oba0.c2
       have cba03 := oba0.c3
       have cba10 := oba1.c0
       have cba11 := oba1.c1
       have cba12 := oba1.c2
       have cba13 := oba1.c3
       have cbw00 := obw0.c0
       have cbw01 := obw0.c1
       have cbw02 := obw0.c2
       have cbw03 := obw0.c3
       have cbx00 := obx0.c0
       have cbx01 := obx0.c1
       have cbx02 := obx0.c2
       have cbx03 := obx0.c3
       have cbx10 := obx1.c0
       have cbx11 := obx1.c1
       have cbx12 := obx1.c2
       have cbx13 := obx1.c3
       have cbg00 := obg0.c0
       have cbg01 := obg0.c1
       have cbg02 := obg0.c2
       have cbg03 := obg0.c3)
    | (go_at_call 9
       refine (eqV' _ _ _ _ _ w15 (by omega) ox1 oy1).mono ?_
       rintro e w16 ⟨rfl, bw16⟩
       have oba0 := oba0.below bw16 (Nat.le_refl _)
       have oba1 := oba1.below bw16 (Nat.le_refl _)
       have ow0 := ow0.below bw16 (Nat.le_refl _)
       have obw0 := obw0.below bw16 (Nat.le_refl _)
       have ox0 := ox0.below bw16 (Nat.le_refl _)
       have obx0 := obx0.below bw16 (Nat.le_refl _)
       have ox1 := ox1.below bw16 (Nat.le_refl _)
       have obx1 := obx1.below bw16 (Nat.le_refl _)
       have og0 := og0.below bw16 (Nat.le_refl _)
       have obg0 := obg0.below bw16 (Nat.le_refl _)
       have oy1 := oy1.below bw16 (Nat.le_refl _)
       have B := B.trans (bw16.mono B.size)
       clear bw16
       have cba00 := oba0.c0
       have cba01 := oba0.c1
       have cba02 := oba0.c2
       have cba03 := oba0.c3
       have cba10 := oba1.c0
       have cba11 := oba1.c1
       have cba12 := oba1.c2
       have cba13 := oba1.c3
       have cbw00 := obw0.c0
       have cbw01 := obw0.c1
       have cbw02 := obw0.c2
       have cbw03 := obw0.c3
       have cbx00 := obx0.c0
       have cbx01 := obx0.c1
       have cbx02 := obx0.c2
       have cbx03 := obx0.c3
       have cbx10 := obx1.c0
       have cbx11 := obx1.c1
       have cbx12 := obx1.c2
       have cbx13 := obx1.c3
       have cbg00 := obg0.c0
       have cbg01 := obg0.c1
       have cbg02 := obg0.c2
       have cbg03 := obg0.c3)
    )
  clear cba00 cba01 cba02 cba03 cba10 cba11 cba12 cba13 cbw00 cbw01 cbw02 cbw03 cbx00 cbx01 cbx02 cbx03 cbx10 cbx11 cbx12 cbx13 cbg00 cbg01 cbg02 cbg03
  clear oy1
  -- marks in the copies do not reach the answer
  have cba00 := oba0.c0
  have cba01 := oba0.c1
  have cba02 := oba0.c2
  have cba03 := oba0.c3
  have hba0 := oba0.hi
  have cba10 := oba1.c0
  have cba11 := oba1.c1
  have cba12 := oba1.c2
  have cba13 := oba1.c3
  have hba1 := oba1.hi
  have cbw00 := obw0.c0
  have cbw01 := obw0.c1
  have cbw02 := obw0.c2
  have cbw03 := obw0.c3
  have hbw0 := obw0.hi
  have cbx00 := obx0.c0
  have cbx01 := obx0.c1
  have cbx02 := obx0.c2
  have cbx03 := obx0.c3
  have hbx0 := obx0.hi
  have cbx10 := obx1.c0
  have cbx11 := obx1.c1
  have cbx12 := obx1.c2
  have cbx13 := obx1.c3
  have hbx1 := obx1.hi
  have cbg00 := obg0.c0
  have cbg01 := obg0.c1
  have cbg02 := obg0.c2
  have cbg03 := obg0.c3
  have hbg0 := obg0.hi
  go_wp2_with fail
  clear cba00 cba01 cba02 cba03 hba0
  clear cba10 cba11 cba12 cba13 hba1
  clear cbw00 cbw01 cbw02 cbw03 hbw0
  clear cbx00 cbx01 cbx02 cbx03 hbx0
  clear cbx10 cbx11 cbx12 cbx13 hbx1
  clear cbg00 cbg01 cbg02 cbg03 hbg0
  refine (markV _ _ xs0 (1) w16 (by omega) (by omega) (by omega) (by omega) (by omega) ox0).mono ?_
  rintro e w17 ⟨rfl, oM, gw17⟩
  have oba0 := oba0.tn gw17 dba0_x0
  have oba1 := oba1.tn gw17 dba1_x0
  have ow0 := ow0.tn gw17 dw0_x0
  have obw0 := obw0.tn gw17 dbw0_x0
  have obx0 := obx0.tn gw17 dx0_bx0.symm
  have ox1 := ox1.tn gw17 dx0_x1.symm
  have obx1 := obx1.tn gw17 dx0_bx1.symm
  have og0 := og0.tn gw17 dx0_g0.symm
  have obg0 := obg0.tn gw17 dx0_bg0.symm
  have B := gw17.below B B.size mx0
  clear gw17
  clear ox0 oM
  have cba00 := oba0.c0
  have cba01 := oba0.c1
  have cba02 := oba0.c2
  have cba03 := oba0.c3
  have hba0 := oba0.hi
  have cba10 := oba1.c0
  have cba11 := oba1.c1
  have cba12 := oba1.c2
  have cba13 := oba1.c3
  have hba1 := oba1.hi
  have cbw00 := obw0.c0
  have cbw01 := obw0.c1
  have cbw02 := obw0.c2
  have cbw03 := obw0.c3
  have hbw0 := obw0.hi
  have cbx00 := obx0.c0
  have cbx01 := obx0.c1
  have cbx02 := obx0.c2
  have cbx03 := obx0.c3
  have hbx0 := obx0.hi
  have cbx10 := obx1.c0
  have cbx11 := obx1.c1
  have cbx12 := obx1.c2
  have cbx13 := obx1.c3
  have hbx1 := obx1.hi
  have cbg00 := obg0.c0
  have cbg01 := obg0.c1
  have cbg02 := obg0.c2
  have cbg03 := obg0.c3
  have hbg0 := obg0.hi
  go_wp2_with fail
  clear cba00 cba01 cba02 cba03 hba0
  clear cba10 cba11 cba12 cba13 hba1
  clear cbw00 cbw01 cbw02 cbw03 hbw0
  clear cbx00 cbx01 cbx02 cbx03 hbx0
  clear cbx10 cbx11 cbx12 cbx13 hbx1
  clear cbg00 cbg01 cbg02 cbg03 hbg0
  refine (markV _ _ xs1 (1 + xs0.1.2.length + xs0.2.2.length) w17 (by omega) (by omega) (by omega) (by omega) (by omega) ox1).mono ?_
  rintro e w18 ⟨rfl, oM, gw18⟩
  have oba0 := oba0.tn gw18 dba0_x1
  have oba1 := oba1.tn gw18 dba1_x1
  have ow0 := ow0.tn gw18 dw0_x1
  have obw0 := obw0.tn gw18 dbw0_x1
  have obx0 := obx0.tn gw18 dbx0_x1
  have obx1 := obx1.tn gw18 dx1_bx1.symm
  have og0 := og0.tn gw18 dx1_g0.symm
  have obg0 := obg0.tn gw18 dx1_bg0.symm
  have B := gw18.below B B.size mx1
  clear gw18
  clear ox1 oM
  have hkn : ¬ (((1 : Int) + xs0.1.2.length + xs0.2.2.length + xs1.1.2.length + xs1.2.2.length) < 0) := by omega
  have cba00 := oba0.c0
  have cba01 := oba0.c1
  have cba02 := oba0.c2
  have cba03 := oba0.c3
  have hba0 := oba0.hi
  have cba10 := oba1.c0
  have cba11 := oba1.c1
  have cba12 := oba1.c2
  have cba13 := oba1.c3
  have hba1 := oba1.hi
  have cbw00 := obw0.c0
  have cbw01 := obw0.c1
  have cbw02 := obw0.c2
  have cbw03 := obw0.c3
  have hbw0 := obw0.hi
  have cbx00 := obx0.c0
  have cbx01 := obx0.c1
  have cbx02 := obx0.c2
  have cbx03 := obx0.c3
  have hbx0 := obx0.hi
  have cbx10 := obx1.c0
  have cbx11 := obx1.c1
  have cbx12 := obx1.c2
  have cbx13 := obx1.c3
  have hbx1 := obx1.hi
  have cbg00 := obg0.c0
  have cbg01 := obg0.c1
  have cbg02 := obg0.c2
  have cbg03 := obg0.c3
  have hbg0 := obg0.hi
  go_wp2_with fail
  clear cba00 cba01 cba02 cba03 hba0
  clear cba10 cba11 cba12 cba13 hba1
  clear cbw00 cbw01 cbw02 cbw03 hbw0
  clear cbx00 cbx01 cbx02 cbx03 hbx0
  clear cbx10 cbx11 cbx12 cbx13 hbx1
  clear cbg00 cbg01 cbg02 cbg03 hbg0
  refine (eqV' _ _ _ _ _ w18 (by omega) og0 ow0).mono ?_
  rintro e w19 ⟨rfl, bw19⟩
  have oba0 := oba0.below bw19 (Nat.le_refl _)
  have oba1 := oba1.below bw19 (Nat.le_refl _)
  have ow0 := ow0.below bw19 (Nat.le_refl _)
  have obw0 := obw0.below bw19 (Nat.le_refl _)
  have obx0 := obx0.below bw19 (Nat.le_refl _)
  have obx1 := obx1.below bw19 (Nat.le_refl _)
  have og0 := og0.below bw19 (Nat.le_refl _)
  have obg0 := obg0.below bw19 (Nat.le_refl _)
  have B := B.trans (bw19.mono B.size)
  clear bw19
  -- the answer's own memory
  have cba00 := oba0.c0
  have cba01 := oba0.c1
  have cba02 := oba0.c2
  have cba03 := oba0.c3
  have hba0 := oba0.hi
  have cba10 := oba1.c0
  have cba11 := oba1.c1
  have cba12 := oba1.c2
  have cba13 := oba1.c3
  have hba1 := oba1.hi
  have cbw00 := obw0.c0
  have cbw01 := obw0.c1
  have cbw02 := obw0.c2
  have cbw03 := obw0.c3
  have hbw0 := obw0.hi
  have cbx00 := obx0.c0
  have cbx01 := obx0.c1
  have cbx02 := obx0.c2
  have cbx03 := obx0.c3
  have hbx0 := obx0.hi
  have cbx10 := obx1.c0
  have cbx11 := obx1.c1
  have cbx12 := obx1.c2
  have cbx13 := obx1.c3
  have hbx1 := obx1.hi
  have cbg00 := obg0.c0
  have cbg01 := obg0.c1
  have cbg02 := obg0.c2
  have cbg03 := obg0.c3
  have hbg0 := obg0.hi
  go_wp2_with fail
  clear cba00 cba01 cba02 cba03 hba0
  clear cba10 cba11 cba12 cba13 hba1
  clear cbw00 cbw01 cbw02 cbw03 hbw0
  clear cbx00 cbx01 cbx02 cbx03 hbx0
  clear cbx10 cbx11 cbx12 cbx13 hbx1
  clear cbg00 cbg01 cbg02 cbg03 hbg0
  refine (markV _ _ r0 (1) w19 (by omega) (by omega) (by omega) (by omega) (by omega) og0).mono ?_
  rintro e w20 ⟨rfl, oM, gw20⟩
  have oba0 := oba0.tn gw20 dba0_g0
  have oba1 := oba1.tn gw20 dba1_g0
  have ow0 := ow0.tn gw20 dw0_g0
  have obw0 := obw0.tn gw20 dbw0_g0
  have obx0 := obx0.tn gw20 dbx0_g0
  have obx1 := obx1.tn gw20 dbx1_g0
  have obg0 := obg0.tn gw20 dg0_bg0.symm
  have B := gw20.below B B.size mg0
  clear gw20
  have og0 := oM
  clear oM
  have cba00 := oba0.c0
  have cba01 := oba0.c1
  have cba02 := oba0.c2
  have cba03 := oba0.c3
  have hba0 := oba0.hi
  have cba10 := oba1.c0
  have cba11 := oba1.c1
  have cba12 := oba1.c2
  have cba13 := oba1.c3
  have hba1 := oba1.hi
  have cbw00 := obw0.c0
  have cbw01 := obw0.c1
  have cbw02 := obw0.c2
  have cbw03 := obw0.c3
  have hbw0 := obw0.hi
  have cbx00 := obx0.c0
  have cbx01 := obx0.c1
  have cbx02 := obx0.c2
  have cbx03 := obx0.c3
  have hbx0 := obx0.hi
  have cbx10 := obx1.c0
  have cbx11 := obx1.c1
  have cbx12 := obx1.c2
  have cbx13 := obx1.c3
  have hbx1 := obx1.hi
  have cbg00 := obg0.c0
  have cbg01 := obg0.c1
  have cbg02 := obg0.c2
  have cbg03 := obg0.c3
  have hbg0 := obg0.hi
  go_wp2_with fail
  clear cba00 cba01 cba02 cba03 hba0
  clear cba10 cba11 cba12 cba13 hba1
  clear cbw00 cbw01 cbw02 cbw03 hbw0
  clear cbx00 cbx01 cbx02 cbx03 hbx0
  clear cbx10 cbx11 cbx12 cbx13 hbx1
  clear cbg00 cbg01 cbg02 cbg03 hbg0
  refine (heldV _ _ r0.1.1 r0.2.1 (1) r0.1.2.length r0.2.2.length w20 (by omega) (by omega) (by omega) (by omega) og0).mono ?_
  rintro e w21 ⟨rfl, bw21⟩
  have oba0 := oba0.below bw21 (Nat.le_refl _)
  have oba1 := oba1.below bw21 (Nat.le_refl _)
  have ow0 := ow0.below bw21 (Nat.le_refl _)
  have obw0 := obw0.below bw21 (Nat.le_refl _)
  have obx0 := obx0.below bw21 (Nat.le_refl _)
  have obx1 := obx1.below bw21 (Nat.le_refl _)
  have og0 := og0.below bw21 (Nat.le_refl _)
  have obg0 := obg0.below bw21 (Nat.le_refl _)
  have B := B.trans (bw21.mono B.size)
  clear bw21
  have cba00 := oba0.c0
  have cba01 := oba0.c1
  have cba02 := oba0.c2
  have cba03 := oba0.c3
  have hba0 := oba0.hi
  have cba10 := oba1.c0
  have cba11 := oba1.c1
  have cba12 := oba1.c2
  have cba13 := oba1.c3
  have hba1 := oba1.hi
  have cbw00 := obw0.c0
  have cbw01 := obw0.c1
  have cbw02 := obw0.c2
  have cbw03 := obw0.c3
  have hbw0 := obw0.hi
  have cbx00 := obx0.c0
  have cbx01 := obx0.c1
  have cbx02 := obx0.c2
  have cbx03 := obx0.c3
  have hbx0 := obx0.hi
  have cbx10 := obx1.c0
  have cbx11 := obx1.c1
  have cbx12 := obx1.c2
  have cbx13 := obx1.c3
  have hbx1 := obx1.hi
  have cbg00 := obg0.c0
  have cbg01 := obg0.c1
  have cbg02 := obg0.c2
  have cbg03 := obg0.c3
  have hbg0 := obg0.hi
  go_wp2_with fail
  clear cba00 cba01 cba02 cba03 hba0
  clear cba10 cba11 cba12 cba13 hba1
  clear cbw00 cbw01 cbw02 cbw03 hbw0
  clear cbx00 cbx01 cbx02 cbx03 hbx0
  clear cbx10 cbx11 cbx12 cbx13 hbx1
  clear cbg00 cbg01 cbg02 cbg03 hbg0
  apply wp_cutV (r := r0) (base := w21.heap.size) (W := w21)
  case hA =>
    have C0 : Below w21.heap.size w21 w21.drew := (Below.refl w21.heap.size w21).drew
    have hC0 : w21.heap.size ≤ w21.drew.heap.size := C0.size
    have kba0 := oba0.below C0 (Nat.le_refl _)
    have kba1 := oba1.below C0 (Nat.le_refl _)
    have kba00 := kba0.c0
    have kba01 := kba0.c1
    have kba02 := kba0.c2
    have kba03 := kba0.c3
    have kba10 := kba1.c0
    have kba11 := kba1.c1
    have kba12 := kba1.c2
    have kba13 := kba1.c3
    have CZ : Below w21.heap.size w21 (w21.alloc (.cells #[.bool false, .slice none 0 0, .bool false, .slice none 0 0] 30)).drew := (below1 w21 (.cells #[.bool false, .slice none 0 0, .bool false, .slice none 0 0] 30)).drew
    have hCZ : w21.heap.size ≤ (w21.alloc (.cells #[.bool false, .slice none 0 0, .bool false, .slice none 0 0] 30)).drew.heap.size := CZ.size
    have obz := (BoxV.made w21 (.bool false) (.slice none 0 0) (.bool false) (.slice none 0 0) 30).below ((Below.refl (w21.alloc (.cells #[.bool false, .slice none 0 0, .bool false, .slice none 0 0] 30)).heap.size (w21.alloc (.cells #[.bool false, .slice none 0 0, .bool false, .slice none 0 0] 30))).drew) (Nat.le_refl _)
    have hbz : w21.heap.size < (w21.alloc (.cells #[.bool false, .slice none 0 0, .bool false, .slice none 0 0] 30)).drew.heap.size := obz.hi
    have kzba0 := oba0.below CZ (Nat.le_refl _)
    have kzba00 := kzba0.c0
    have kzba01 := kzba0.c1
    have kzba02 := kzba0.c2
    have kzba03 := kzba0.c3
    have kzba1 := oba1.below CZ (Nat.le_refl _)
    have kzba10 := kzba1.c0
    have kzba11 := kzba1.c1
    have kzba12 := kzba1.c2
    have kzba13 := kzba1.c3
    have hiba0 := oba0.hi
    have hiba1 := oba1.hi
    have nzba0 : ¬ (w21.heap.size = w.heap.size) := by omega
    have nyba0 : ¬ (w.heap.size = w21.heap.size) := by omega
    have nzba1 : ¬ (w21.heap.size = w.heap.size + 1) := by omega
    have nyba1 : ¬ (w.heap.size + 1 = w21.heap.size) := by omega
    go_region_held (fun w' => w'.cell? ⟨w.heap.size, 0, none⟩ = some (.bool g0) ∧ w'.cell? ⟨w.heap.size, 1, none⟩ = some (.slice a0 n0 c0) ∧ w'.cell? ⟨w.heap.size, 2, none⟩ = some (.bool gg0) ∧ w'.cell? ⟨w.heap.size, 3, none⟩ = some (.slice aa0 nn0 cc0) ∧ w'.cell? ⟨w.heap.size + 1, 0, none⟩ = some (.bool g1) ∧ w'.cell? ⟨w.heap.size + 1, 1, none⟩ = some (.slice a1 n1 c1) ∧ w'.cell? ⟨w.heap.size + 1, 2, none⟩ = some (.bool gg1) ∧ w'.cell? ⟨w.heap.size + 1, 3, none⟩ = some (.slice aa1 nn1 cc1)) (go_keep) (first
      | (go_at_call_of 7 (Value.slice a0 n0 c0)
         (first
           | (refine (T0 w21.drew (hr0.below (B.trans (C0.mono B.size))) (hh0.below (B.trans (C0.mono B.size)))).mono ?_; rintro e wc1 ⟨vs0, rfl, os0, bb1⟩; have C1 := C0.trans (bb1.mono hC0); have hC1 := Nat.le_trans hC0 bb1.size)
           | (refine (T0 (w21.alloc (.cells #[.bool false, .slice none 0 0, .bool false, .slice none 0 0] 30)).drew (hr0.below (B.trans (CZ.mono B.size))) (hh0.below (B.trans (CZ.mono B.size)))).mono ?_; rintro e wc1 ⟨vs0, rfl, os0, bb1⟩; have C1 := CZ.trans (bb1.mono hCZ); have hC1 := Nat.le_trans hCZ bb1.size; have obx := obz.below bb1 (Nat.le_refl _); have hbx := Nat.lt_of_lt_of_le hbz bb1.size)
           )
         have kba0 := oba0.below C1 (Nat.le_refl _)
         have kba1 := oba1.below C1 (Nat.le_refl _)
         have kba00 := kba0.c0
         have kba01 := kba0.c1
         have kba02 := kba0.c2
         have kba03 := kba0.c3
         have kba10 := kba1.c0
         have kba11 := kba1.c1
         have kba12 := kba1.c2
         have kba13 := kba1.c3)
      | (go_at_call_of 7 (Value.slice a1 n1 c1)
         (first
           | (have qx := obx; refine (T1 wc1 (hr1.below (B.trans (C1.mono B.size))) (hh1.below (B.trans (C1.mono B.size)))).mono ?_; rintro e wc2 ⟨vs1, rfl, os1, bb2⟩; have os0 := os0.below bb2 (Nat.le_refl _); have C2 := C1.trans (bb2.mono hC1); have hC2 := Nat.le_trans hC1 bb2.size; have obx := qx.below bb2 (Nat.le_refl _); clear qx; skip)
           | (refine (T1 wc1 (hr1.below (B.trans (C1.mono B.size))) (hh1.below (B.trans (C1.mono B.size)))).mono ?_; rintro e wc2 ⟨vs1, rfl, os1, bb2⟩; have os0 := os0.below bb2 (Nat.le_refl _); have C2 := C1.trans (bb2.mono hC1); have hC2 := Nat.le_trans hC1 bb2.size)
           | (have CA := C1.alloc hC1 (.cells #[.bool false, .slice none 0 0, .bool false, .slice none 0 0] 30); refine (T1 (wc1.alloc (.cells #[.bool false, .slice none 0 0, .bool false, .slice none 0 0] 30)) (hr1.below (B.trans (CA.mono B.size))) (hh1.below (B.trans (CA.mono B.size)))).mono ?_; rintro e wc2 ⟨vs1, rfl, os1, bb2⟩; have os0 := (os0.below (below1 wc1 (.cells #[.bool false, .slice none 0 0, .bool false, .slice none 0 0] 30)) (Nat.le_refl _)).below bb2 (Nat.le_refl _); have C2 := CA.trans (bb2.mono (Nat.le_trans hC1 (below1 wc1 (.cells #[.bool false, .slice none 0 0, .bool false, .slice none 0 0] 30)).size)); have hC2 := Nat.le_trans (Nat.le_trans hC1 (below1 wc1 (.cells #[.bool false, .slice none 0 0, .bool false, .slice none 0 0] 30)).size) bb2.size; have obx := ((BoxV.made wc1 (.bool false) (.slice none 0 0) (.bool false) (.slice none 0 0) 30).mono hC1).below bb2 (Nat.le_refl _); have hbx : wc1.heap.size < (wc1.alloc (.cells #[.bool false, .slice none 0 0, .bool false, .slice none 0 0] 30)).heap.size := (by simp); have naba0 : ¬ (wc1.heap.size = w.heap.size) := (by omega); have nbba0 : ¬ (w.heap.size = wc1.heap.size) := (by omega); have naba1 : ¬ (wc1.heap.size = w.heap.size + 1) := (by omega); have nbba1 : ¬ (w.heap.size + 1 = wc1.heap.size) := (by omega))
           )
         have kba0 := oba0.below C2 (Nat.le_refl _)
         have kba1 := oba1.below C2 (Nat.le_refl _)
         have kba00 := kba0.c0
         have kba01 := kba0.c1
         have kba02 := kba0.c2
         have kba03 := kba0.c3
         have kba10 := kba1.c0
         have kba11 := kba1.c1
         have kba12 := kba1.c2
         have kba13 := kba1.c3)
      | (go_at_call 13
         (first
           | (have qx := obx; refine (I _ _ (wc2) os0.row os1.row).mono ?_; rintro e wc3 ⟨vF, rfl, oF, bb3⟩; have os0 := os0.below bb3 (Nat.le_refl _); have os1 := os1.below bb3 (Nat.le_refl _); have hBF := hC2; have hXF := qx.hi; have C3 := C2.trans (bb3.mono hC2); have hC3 := Nat.le_trans hC2 bb3.size; have obx := qx.below bb3 (Nat.le_refl _); clear qx; skip)
           | (refine (I _ _ (wc2) os0.row os1.row).mono ?_; rintro e wc3 ⟨vF, rfl, oF, bb3⟩; have os0 := os0.below bb3 (Nat.le_refl _); have os1 := os1.below bb3 (Nat.le_refl _); have hBF := hC2; have C3 := C2.trans (bb3.mono hC2); have hC3 := Nat.le_trans hC2 bb3.size)
           | (have CA := C2.alloc hC2 (.cells #[.bool false, .slice none 0 0, .bool false, .slice none 0 0] 30); refine (I _ _ ((wc2.alloc (.cells #[.bool false, .slice none 0 0, .bool false, .slice none 0 0] 30))) (os0.below (below1 wc2 (.cells #[.bool false, .slice none 0 0, .bool false, .slice none 0 0] 30)) (Nat.le_refl _)).row (os1.below (below1 wc2 (.cells #[.bool false, .slice none 0 0, .bool false, .slice none 0 0] 30)) (Nat.le_refl _)).row).mono ?_; rintro e wc3 ⟨vF, rfl, oF, bb3⟩; have os0 := (os0.below (below1 wc2 (.cells #[.bool false, .slice none 0 0, .bool false, .slice none 0 0] 30)) (Nat.le_refl _)).below bb3 (Nat.le_refl _); have os1 := (os1.below (below1 wc2 (.cells #[.bool false, .slice none 0 0, .bool false, .slice none 0 0] 30)) (Nat.le_refl _)).below bb3 (Nat.le_refl _); have hBF : w21.heap.size ≤ (wc2.alloc (.cells #[.bool false, .slice none 0 0, .bool false, .slice none 0 0] 30)).heap.size := Nat.le_trans hC2 (below1 wc2 (.cells #[.bool false, .slice none 0 0, .bool false, .slice none 0 0] 30)).size; have hXF : wc2.heap.size < (wc2.alloc (.cells #[.bool false, .slice none 0 0, .bool false, .slice none 0 0] 30)).heap.size := (by simp); have C3 := CA.trans (bb3.mono (Nat.le_trans hC2 (below1 wc2 (.cells #[.bool false, .slice none 0 0, .bool false, .slice none 0 0] 30)).size)); have hC3 := Nat.le_trans (Nat.le_trans hC2 (below1 wc2 (.cells #[.bool false, .slice none 0 0, .bool false, .slice none 0 0] 30)).size) bb3.size; have obx := ((BoxV.made wc2 (.bool false) (.slice none 0 0) (.bool false) (.slice none 0 0) 30).mono hC2).below bb3 (Nat.le_refl _); have hbx : wc2.heap.size < (wc2.alloc (.cells #[.bool false, .slice none 0 0, .bool false, .slice none 0 0] 30)).heap.size := (by simp); have naba0 : ¬ (wc2.heap.size = w.heap.size) := (by omega); have nbba0 : ¬ (w.heap.size = wc2.heap.size) := (by omega); have naba1 : ¬ (wc2.heap.size = w.heap.size + 1) := (by omega); have nbba1 : ¬ (w.heap.size + 1 = wc2.heap.size) := (by omega))
           )
         have kba0 := oba0.below C3 (Nat.le_refl _)
         have kba1 := oba1.below C3 (Nat.le_refl _)
         have kba00 := kba0.c0
         have kba01 := kba0.c1
         have kba02 := kba0.c2
         have kba03 := kba0.c3
         have kba10 := kba1.c0
         have kba11 := kba1.c1
         have kba12 := kba1.c2
         have kba13 := kba1.c3
         obtain ⟨sF, tF, rfl, hqF, hpF, -⟩ := id oF
         obtain ⟨ad, cp, rfl, -⟩ := hqF.row
         obtain ⟨ae, cq, rfl, -⟩ := hpF.row
         clear hqF hpF
         have nuba0 : ¬ (wc3.heap.size = w.heap.size) := by omega
         have nvba0 : ¬ (w.heap.size = wc3.heap.size) := by omega
         have nuba1 : ¬ (wc3.heap.size = w.heap.size + 1) := by omega
         have nvba1 : ¬ (w.heap.size + 1 = wc3.heap.size) := by omega
         (try have ox0 := obx.c0)
         (try have ox1 := obx.c1)
         (try have ox2 := obx.c2)
         (try have ox3 := obx.c3)
         (try have ox4 := obx.f0)
         (try have ox5 := obx.f1)
         (try have ox6 := obx.f2)
         (try have ox7 := obx.f3))
      )
    all_goals first
      | (have hcut := cutV_old obx oF hBF hXF C3 (.bool r0.1.1) (.slice ad r0.1.2.length cp) (.bool r0.2.1) (.slice ae r0.2.2.length cq); exact cutMV_in vs0 vs1 ad cp ae cq _ rfl hcut)
      | (have hcut := cutV_new oF hBF hC3 C3 30 (.bool r0.1.1) (.slice ad r0.1.2.length cp) (.bool r0.2.1) (.slice ae r0.2.2.length cq); generalize wc3.heap.size = bx at *; exact cutMV_in vs0 vs1 ad cp ae cq bx rfl hcut)
  intro vs0 vs1 adh0 cph0 aeh0 cqh0 bkh0 w22 oh0 obh0 dh0_bh0 bw22
  have oba0 := oba0.below bw22 (Nat.le_refl _)
  have oba1 := oba1.below bw22 (Nat.le_refl _)
  have ow0 := ow0.below bw22 (Nat.le_refl _)
  have obw0 := obw0.below bw22 (Nat.le_refl _)
  have obx0 := obx0.below bw22 (Nat.le_refl _)
  have obx1 := obx1.below bw22 (Nat.le_refl _)
  have og0 := og0.below bw22 (Nat.le_refl _)
  have obg0 := obg0.below bw22 (Nat.le_refl _)
  have B := B.trans (bw22.mono B.size)
  clear bw22
  have cba00 := oba0.c0
  have cba01 := oba0.c1
  have cba02 := oba0.c2
  have cba03 := oba0.c3
  have hba0 := oba0.hi
  have cba10 := oba1.c0
  have cba11 := oba1.c1
  have cba12 := oba1.c2
  have cba13 := oba1.c3
  have hba1 := oba1.hi
  have cbw00 := obw0.c0
  have cbw01 := obw0.c1
  have cbw02 := obw0.c2
  have cbw03 := obw0.c3
  have hbw0 := obw0.hi
  have cbx00 := obx0.c0
  have cbx01 := obx0.c1
  have cbx02 := obx0.c2
  have cbx03 := obx0.c3
  have hbx0 := obx0.hi
  have cbx10 := obx1.c0
  have cbx11 := obx1.c1
  have cbx12 := obx1.c2
  have cbx13 := obx1.c3
  have hbx1 := obx1.hi
  have cbg00 := obg0.c0
  have cbg01 := obg0.c1
  have cbg02 := obg0.c2
  have cbg03 := obg0.c3
  have hbg0 := obg0.hi
  have cbh00 := obh0.c0
  have cbh01 := obh0.c1
  have cbh02 := obh0.c2
  have cbh03 := obh0.c3
  have hbh0 := obh0.hi
  go_wp2_with fail
  clear cba00 cba01 cba02 cba03 hba0
  clear cba10 cba11 cba12 cba13 hba1
  clear cbw00 cbw01 cbw02 cbw03 hbw0
  clear cbx00 cbx01 cbx02 cbx03 hbx0
  clear cbx10 cbx11 cbx12 cbx13 hbx1
  clear cbg00 cbg01 cbg02 cbg03 hbg0
  clear cbh00 cbh01 cbh02 cbh03 hbh0
  refine (eqV' _ _ _ _ _ w22 (by omega) oh0 ow0).mono ?_
  rintro e w23 ⟨rfl, bw23⟩
  have oba0 := oba0.below bw23 (Nat.le_refl _)
  have oba1 := oba1.below bw23 (Nat.le_refl _)
  have ow0 := ow0.below bw23 (Nat.le_refl _)
  have obw0 := obw0.below bw23 (Nat.le_refl _)
  have obx0 := obx0.below bw23 (Nat.le_refl _)
  have obx1 := obx1.below bw23 (Nat.le_refl _)
  have og0 := og0.below bw23 (Nat.le_refl _)
  have obg0 := obg0.below bw23 (Nat.le_refl _)
  have oh0 := oh0.below bw23 (Nat.le_refl _)
  have obh0 := obh0.below bw23 (Nat.le_refl _)
  have B := B.trans (bw23.mono B.size)
  clear bw23
  have cba00 := oba0.c0
  have cba01 := oba0.c1
  have cba02 := oba0.c2
  have cba03 := oba0.c3
  have hba0 := oba0.hi
  have cba10 := oba1.c0
  have cba11 := oba1.c1
  have cba12 := oba1.c2
  have cba13 := oba1.c3
  have hba1 := oba1.hi
  have cbw00 := obw0.c0
  have cbw01 := obw0.c1
  have cbw02 := obw0.c2
  have cbw03 := obw0.c3
  have hbw0 := obw0.hi
  have cbx00 := obx0.c0
  have cbx01 := obx0.c1
  have cbx02 := obx0.c2
  have cbx03 := obx0.c3
  have hbx0 := obx0.hi
  have cbx10 := obx1.c0
  have cbx11 := obx1.c1
  have cbx12 := obx1.c2
  have cbx13 := obx1.c3
  have hbx1 := obx1.hi
  have cbg00 := obg0.c0
  have cbg01 := obg0.c1
  have cbg02 := obg0.c2
  have cbg03 := obg0.c3
  have hbg0 := obg0.hi
  have cbh00 := obh0.c0
  have cbh01 := obh0.c1
  have cbh02 := obh0.c2
  have cbh03 := obh0.c3
  have hbh0 := obh0.hi
  go_wp2_with fail
  clear cba00 cba01 cba02 cba03 hba0
  clear cba10 cba11 cba12 cba13 hba1
  clear cbw00 cbw01 cbw02 cbw03 hbw0
  clear cbx00 cbx01 cbx02 cbx03 hbx0
  clear cbx10 cbx11 cbx12 cbx13 hbx1
  clear cbg00 cbg01 cbg02 cbg03 hbg0
  clear cbh00 cbh01 cbh02 cbh03 hbh0
  refine (heldV _ _ r0.1.1 r0.2.1 (1) r0.1.2.length r0.2.2.length w23 (by omega) (by omega) (by omega) (by omega) og0).mono ?_
  rintro e w24 ⟨rfl, bw24⟩
  have oba0 := oba0.below bw24 (Nat.le_refl _)
  have oba1 := oba1.below bw24 (Nat.le_refl _)
  have ow0 := ow0.below bw24 (Nat.le_refl _)
  have obw0 := obw0.below bw24 (Nat.le_refl _)
  have obx0 := obx0.below bw24 (Nat.le_refl _)
  have obx1 := obx1.below bw24 (Nat.le_refl _)
  have og0 := og0.below bw24 (Nat.le_refl _)
  have obg0 := obg0.below bw24 (Nat.le_refl _)
  have oh0 := oh0.below bw24 (Nat.le_refl _)
  have obh0 := obh0.below bw24 (Nat.le_refl _)
  have B := B.trans (bw24.mono B.size)
  clear bw24
  have cba00 := oba0.c0
  have cba01 := oba0.c1
  have cba02 := oba0.c2
  have cba03 := oba0.c3
  have hba0 := oba0.hi
  have cba10 := oba1.c0
  have cba11 := oba1.c1
  have cba12 := oba1.c2
  have cba13 := oba1.c3
  have hba1 := oba1.hi
  have cbw00 := obw0.c0
  have cbw01 := obw0.c1
  have cbw02 := obw0.c2
  have cbw03 := obw0.c3
  have hbw0 := obw0.hi
  have cbx00 := obx0.c0
  have cbx01 := obx0.c1
  have cbx02 := obx0.c2
  have cbx03 := obx0.c3
  have hbx0 := obx0.hi
  have cbx10 := obx1.c0
  have cbx11 := obx1.c1
  have cbx12 := obx1.c2
  have cbx13 := obx1.c3
  have hbx1 := obx1.hi
  have cbg00 := obg0.c0
  have cbg01 := obg0.c1
  have cbg02 := obg0.c2
  have cbg03 := obg0.c3
  have hbg0 := obg0.hi
  have cbh00 := obh0.c0
  have cbh01 := obh0.c1
  have cbh02 := obh0.c2
  have cbh03 := obh0.c3
  have hbh0 := obh0.hi
  go_wp2
  go_ret
  exact ⟨rfl, B⟩

set_option maxHeartbeats 1600000 in
theorem walkIvDiv (g0 : Bool) (a0 : Option Addr) (n0 c0 : Nat) (zs0 : List Int) (gg0 : Bool) (aa0 : Option Addr) (nn0 cc0 : Nat) (zz0 : List Int) (g1 : Bool) (a1 : Option Addr) (n1 c1 : Nat) (zs1 : List Int) (gg1 : Bool) (aa1 : Option Addr) (nn1 cc1 : Nat) (zz1 : List Int) (k2 : Int) (w : World) (hr0 : IsRow .i64 w a0 n0 c0 zs0) (hh0 : IsRow .i64 w aa0 nn0 cc0 zz0) (hr1 : IsRow .i64 w a1 n1 c1 zs1) (hh1 : IsRow .i64 w aa1 nn1 cc1 zz1) (hk2 : -9223372036854775808 ≤ k2 ∧ k2 ≤ 9223372036854775807) (hR : (ivDivR ((g0, zs0.take n0), (gg0, zz0.take nn0)) ((g1, zs1.take n1), (gg1, zz1.take nn1)) k2).1.1.2.length ≤ 1048576 ∧ (ivDivR ((g0, zs0.take n0), (gg0, zz0.take nn0)) ((g1, zs1.take n1), (gg1, zz1.take nn1)) k2).1.2.2.length ≤ 1048576)
    (hS : ∀ (va0 : Value) (xs0 : Vh) (va1 : Value) (xs1 : Vh) (k2 : Int) (W : World), rowV W va0 xs0 → xs0.1.2.length ≤ 1048576 → xs0.2.2.length ≤ 1048576 → rowV W va1 xs1 → xs1.1.2.length ≤ 1048576 → xs1.2.2.length ≤ 1048576 → -9223372036854775808 ≤ k2 → k2 ≤ 9223372036854775807 → Calls Try.prog 12 #[va0, va1, .int .i64 k2] W (fun e w' => ∃ v0, e = .returned (.tuple #[v0, .bool (ivDivR xs0 xs1 k2).2]) ∧ ownsV w' W.heap.size v0 (ivDivR xs0 xs1 k2).1 ∧ Below W.heap.size W w'))
    (hI : ∀ (va0 : Value) (xs0 : Vh) (va1 : Value) (xs1 : Vh) (k2 : Int) (W : World), rowV W va0 xs0 → xs0.1.2.length ≤ 1048576 → xs0.2.2.length ≤ 1048576 → rowV W va1 xs1 → xs1.1.2.length ≤ 1048576 → xs1.2.2.length ≤ 1048576 → -9223372036854775808 ≤ k2 → k2 ≤ 9223372036854775807 → Calls Try.prog 13 #[va0, va1, .int .i64 k2] W (fun e w' => ∃ v0, e = .returned (.tuple #[v0, .bool (ivDivR xs0 xs1 k2).2]) ∧ ownsV w' W.heap.size v0 (ivDivR xs0 xs1 k2).1 ∧ Below W.heap.size W w')) :
    Calls Try.prog 4 #[.agg #[.bool g0, .slice a0 n0 c0, .bool gg0, .slice aa0 nn0 cc0], .agg #[.bool g1, .slice a1 n1 c1, .bool gg1, .slice aa1 nn1 cc1], .int .i64 k2] w fun e w' => e = .returned (.bool true) ∧ Below w.heap.size w w' := by
  by_cases h0 : n0 + nn0 ≤ 1048576
  · skip
    by_cases h1 : n0 + nn0 + n1 + nn1 ≤ 1048576
    · skip
      exact walkIvDiv_in g0 a0 n0 c0 zs0 gg0 aa0 nn0 cc0 zz0 g1 a1 n1 c1 zs1 gg1 aa1 nn1 cc1 zz1 k2 w  (by omega) hr0 hh0 hr1 hh1 hk2 hR hS hI
    · have hL1 := And.intro hr1.len_le hh1.len_le
      have h0' : ¬ ((1048576 : Int) - (n0 : Int) - (nn0 : Int) < 0) := by omega
      clear hS hI
      have B := Below.refl w.heap.size w
      go_enter Try.func4, Try.ntmps4
      go_wp2_with fail
      have hsw1 : (w.alloc (.cells #[.bool g0, .slice a0 n0 c0, .bool gg0, .slice aa0 nn0 cc0] 26)).heap.size = w.heap.size + 1 := by simp
      have bB := below1 w (.cells #[.bool g0, .slice a0 n0 c0, .bool gg0, .slice aa0 nn0 cc0] 26)
      have oba0 := BoxV.made w (.bool g0) (.slice a0 n0 c0) (.bool gg0) (.slice aa0 nn0 cc0) 26
      have B := B.trans (bB.mono B.size)
      clear bB
      generalize w.alloc (.cells #[.bool g0, .slice a0 n0 c0, .bool gg0, .slice aa0 nn0 cc0] 26) = w1 at *
      have hsw2 : (w1.alloc (.cells #[.bool g1, .slice a1 n1 c1, .bool gg1, .slice aa1 nn1 cc1] 26)).heap.size = w1.heap.size + 1 := by simp
      have bB := below1 w1 (.cells #[.bool g1, .slice a1 n1 c1, .bool gg1, .slice aa1 nn1 cc1] 26)
      have oba1 := BoxV.made w1 (.bool g1) (.slice a1 n1 c1) (.bool gg1) (.slice aa1 nn1 cc1) 26
      have dba0_ba1 := apart_of (fun k hk => (oba0.ltb k hk).2) (fun k hk => (oba1.ltb k hk).1)
      rw [hsw1] at oba1
      have oba0 := oba0.below bB (Nat.le_refl _)
      have B := B.trans (bB.mono B.size)
      clear bB
      generalize w1.alloc (.cells #[.bool g1, .slice a1 n1 c1, .bool gg1, .slice aa1 nn1 cc1] 26) = w2 at *
      refine (szV_yes g0 a0 n0 c0 gg0 aa0 nn0 cc0 ((1048576 : Int)) w2 (by omega) (by omega)).mono ?_
      rintro e w3 ⟨rfl, bw3⟩
      have oba0 := oba0.below bw3 (Nat.le_refl _)
      have oba1 := oba1.below bw3 (Nat.le_refl _)
      have B := B.trans (bw3.mono B.size)
      clear bw3
      have cba00 := oba0.c0
      have cba01 := oba0.c1
      have cba02 := oba0.c2
      have cba03 := oba0.c3
      have hba0 := oba0.hi
      have cba10 := oba1.c0
      have cba11 := oba1.c1
      have cba12 := oba1.c2
      have cba13 := oba1.c3
      have hba1 := oba1.hi
      go_wp2_with fail
      clear cba00 cba01 cba02 cba03 hba0
      clear cba10 cba11 cba12 cba13 hba1
      refine (szV_no g1 a1 n1 c1 gg1 aa1 nn1 cc1 ((1048576 : Int) - (n0 : Int) - (nn0 : Int)) w3 (by omega) (by omega) hL1.1 hL1.2 (by omega)).mono ?_
      rintro e w4 ⟨rfl, bw4⟩
      have oba0 := oba0.below bw4 (Nat.le_refl _)
      have oba1 := oba1.below bw4 (Nat.le_refl _)
      have B := B.trans (bw4.mono B.size)
      clear bw4
      have cba00 := oba0.c0
      have cba01 := oba0.c1
      have cba02 := oba0.c2
      have cba03 := oba0.c3
      have hba0 := oba0.hi
      have cba10 := oba1.c0
      have cba11 := oba1.c1
      have cba12 := oba1.c2
      have cba13 := oba1.c3
      have hba1 := oba1.hi
      go_wp2
      go_ret
      exact ⟨rfl, B⟩
  · have hL0 := And.intro hr0.len_le hh0.len_le
    clear hS hI
    have B := Below.refl w.heap.size w
    go_enter Try.func4, Try.ntmps4
    go_wp2_with fail
    have hsw1 : (w.alloc (.cells #[.bool g0, .slice a0 n0 c0, .bool gg0, .slice aa0 nn0 cc0] 26)).heap.size = w.heap.size + 1 := by simp
    have bB := below1 w (.cells #[.bool g0, .slice a0 n0 c0, .bool gg0, .slice aa0 nn0 cc0] 26)
    have oba0 := BoxV.made w (.bool g0) (.slice a0 n0 c0) (.bool gg0) (.slice aa0 nn0 cc0) 26
    have B := B.trans (bB.mono B.size)
    clear bB
    generalize w.alloc (.cells #[.bool g0, .slice a0 n0 c0, .bool gg0, .slice aa0 nn0 cc0] 26) = w1 at *
    have hsw2 : (w1.alloc (.cells #[.bool g1, .slice a1 n1 c1, .bool gg1, .slice aa1 nn1 cc1] 26)).heap.size = w1.heap.size + 1 := by simp
    have bB := below1 w1 (.cells #[.bool g1, .slice a1 n1 c1, .bool gg1, .slice aa1 nn1 cc1] 26)
    have oba1 := BoxV.made w1 (.bool g1) (.slice a1 n1 c1) (.bool gg1) (.slice aa1 nn1 cc1) 26
    have dba0_ba1 := apart_of (fun k hk => (oba0.ltb k hk).2) (fun k hk => (oba1.ltb k hk).1)
    rw [hsw1] at oba1
    have oba0 := oba0.below bB (Nat.le_refl _)
    have B := B.trans (bB.mono B.size)
    clear bB
    generalize w1.alloc (.cells #[.bool g1, .slice a1 n1 c1, .bool gg1, .slice aa1 nn1 cc1] 26) = w2 at *
    refine (szV_no g0 a0 n0 c0 gg0 aa0 nn0 cc0 ((1048576 : Int)) w2 (by omega) (by omega) hL0.1 hL0.2 (by omega)).mono ?_
    rintro e w3 ⟨rfl, bw3⟩
    have oba0 := oba0.below bw3 (Nat.le_refl _)
    have oba1 := oba1.below bw3 (Nat.le_refl _)
    have B := B.trans (bw3.mono B.size)
    clear bw3
    have cba00 := oba0.c0
    have cba01 := oba0.c1
    have cba02 := oba0.c2
    have cba03 := oba0.c3
    have hba0 := oba0.hi
    have cba10 := oba1.c0
    have cba11 := oba1.c1
    have cba12 := oba1.c2
    have cba13 := oba1.c3
    have hba1 := oba1.hi
    go_wp2
    go_ret
    exact ⟨rfl, B⟩

end Go.Proofs.Ytjelmbkngjlefaa
