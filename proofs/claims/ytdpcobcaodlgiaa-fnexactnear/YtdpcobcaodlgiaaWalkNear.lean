/- The law FnExactNear: its walk, out of the two contracts (written by genlaw.py from the signature VII>WW). -/
import Derived.Test.YtdpcobcaodlgiaaBase
import Derived.Test.YtdpcobcaodlgiaaToV2
import Derived.Deep.RegionHeld
import Derived.Test.YtdpcobcaodlgiaaNearI
namespace Go.Proofs.Ytdpcobcaodlgiaa
open Go.RowKit

set_option maxHeartbeats 3200000 in
theorem walkNear_in (g0 : Bool) (a0 : Option Addr) (n0 c0 : Nat) (zs0 : List Int) (gg0 : Bool) (aa0 : Option Addr) (nn0 cc0 : Nat) (zz0 : List Int) (k1 : Int) (k2 : Int) (w : World) (hsum : n0 + nn0 ≤ 1048576) (hr0 : IsRow .i64 w a0 n0 c0 zs0) (hh0 : IsRow .i64 w aa0 nn0 cc0 zz0) (hk1 : -9223372036854775808 ≤ k1 ∧ k1 ≤ 9223372036854775807) (hk2 : -9223372036854775808 ≤ k2 ∧ k2 ≤ 9223372036854775807) (hR : (nearR ((g0, zs0.take n0), (gg0, zz0.take nn0)) k1 k2).1.2.length ≤ 1048576 ∧ (nearR ((g0, zs0.take n0), (gg0, zz0.take nn0)) k1 k2).2.2.length ≤ 1048576)
    (hS : ∀ (va0 : Value) (xs0 : Vh) (k1 : Int) (k2 : Int) (W : World), rowV W va0 xs0 → xs0.1.2.length ≤ 1048576 → xs0.2.2.length ≤ 1048576 → -9223372036854775808 ≤ k1 → k1 ≤ 9223372036854775807 → -9223372036854775808 ≤ k2 → k2 ≤ 9223372036854775807 → Calls Try.prog 14 #[va0, .int .i64 k1, .int .i64 k2] W (fun e w' => ∃ v0 v1, e = .returned (.tuple #[v0, v1]) ∧ ownsW w' W.heap.size v0 (nearR xs0 k1 k2).1 ∧ ownsW w' W.heap.size v1 (nearR xs0 k1 k2).2 ∧ Apart (blkW v0) (blkW v1) ∧ Below W.heap.size W w'))
    (hI : ∀ (va0 : Value) (xs0 : Vh) (k1 : Int) (k2 : Int) (W : World), rowV W va0 xs0 → xs0.1.2.length ≤ 1048576 → xs0.2.2.length ≤ 1048576 → -9223372036854775808 ≤ k1 → k1 ≤ 9223372036854775807 → -9223372036854775808 ≤ k2 → k2 ≤ 9223372036854775807 → Calls Try.prog 15 #[va0, .int .i64 k1, .int .i64 k2] W (fun e w' => ∃ v0 v1, e = .returned (.tuple #[v0, v1]) ∧ ownsW w' W.heap.size v0 (nearR xs0 k1 k2).1 ∧ ownsW w' W.heap.size v1 (nearR xs0 k1 k2).2 ∧ Apart (blkW v0) (blkW v1) ∧ Below W.heap.size W w')) :
    Calls Try.prog 4 #[.agg #[.bool g0, .slice a0 n0 c0, .bool gg0, .slice aa0 nn0 cc0], .int .i64 k1, .int .i64 k2] w fun e w' => e = .returned (.bool true) ∧ Below w.heap.size w w' := by
  have h0' : ¬ ((1048576 : Int) - (n0 : Int) - (nn0 : Int) < 0) := by omega
  have T0 : ∀ W : World, IsRow .i64 W a0 n0 c0 zs0 → IsRow .i64 W aa0 nn0 cc0 zz0 → Calls Try.prog 9 #[.agg #[.bool g0, .slice a0 n0 c0, .bool gg0, .slice aa0 nn0 cc0]] W fun e w' => ∃ v, e = .returned v ∧ ownsV w' W.heap.size v ((g0, zs0.take n0), (gg0, zz0.take nn0)) ∧ Below W.heap.size W w' := fun W h h' => toV g0 a0 n0 c0 zs0 gg0 aa0 nn0 cc0 zz0 W (by omega) (by omega) h h'
  have l0 : (((g0, zs0.take n0), (gg0, zz0.take nn0)) : Vh).1.2.length ≤ 1048576 ∧ (((g0, zs0.take n0), (gg0, zz0.take nn0)) : Vh).2.2.length ≤ 1048576 := by show (zs0.take n0).length ≤ 1048576 ∧ (zz0.take nn0).length ≤ 1048576; rw [List.length_take, List.length_take]; omega
  obtain ⟨xs0, hxs0⟩ : ∃ xs : Vh, ((g0, zs0.take n0), (gg0, zz0.take nn0)) = xs := ⟨_, rfl⟩
  rw [hxs0] at T0 l0 hR
  clear hxs0
  have S := fun va0 W q0 => hS va0 xs0 k1 k2 W q0 l0.1 l0.2 hk1.1 hk1.2 hk2.1 hk2.2
  have I := fun va0 W q0 => hI va0 xs0 k1 k2 W q0 l0.1 l0.2 hk1.1 hk1.2 hk2.1 hk2.2
  obtain ⟨r0, r1, hr⟩ : ∃ r0 r1, nearR xs0 k1 k2 = (r0, r1) := ⟨_, _, rfl⟩
  simp only [hr] at S I hR
  clear hS hI hr
  have B := Below.refl w.heap.size w
  go_enter Try.func4, Try.ntmps4
  go_wp2_with fail
  have hsw1 : (w.alloc (.cells #[.bool g0, .slice a0 n0 c0, .bool gg0, .slice aa0 nn0 cc0] 26)).heap.size = w.heap.size + 1 := by simp
  have bB := below1 w (.cells #[.bool g0, .slice a0 n0 c0, .bool gg0, .slice aa0 nn0 cc0] 26)
  have oba0 := BoxV.made w (.bool g0) (.slice a0 n0 c0) (.bool gg0) (.slice aa0 nn0 cc0) 26
  have B := B.trans (bB.mono B.size)
  clear bB
  generalize w.alloc (.cells #[.bool g0, .slice a0 n0 c0, .bool gg0, .slice aa0 nn0 cc0] 26) = w1 at *
  refine (szV_yes g0 a0 n0 c0 gg0 aa0 nn0 cc0 ((1048576 : Int)) w1 (by omega) (by omega)).mono ?_
  rintro e w2 ⟨rfl, bw2⟩
  have oba0 := oba0.below bw2 (Nat.le_refl _)
  have B := B.trans (bw2.mono B.size)
  clear bw2
  -- the specification's answer
  have cba00 := oba0.c0
  have cba01 := oba0.c1
  have cba02 := oba0.c2
  have cba03 := oba0.c3
  have hba0 := oba0.hi
  go_wp2_with fail
  clear cba00 cba01 cba02 cba03 hba0
  refine (T0 w2 (hr0.below B) (hh0.below B)).mono ?_
  rintro e w3 ⟨vs0, rfl, os0, bw3⟩
  have oba0 := oba0.below bw3 (Nat.le_refl _)
  have B := B.trans (bw3.mono B.size)
  clear bw3
  have cba00 := oba0.c0
  have cba01 := oba0.c1
  have cba02 := oba0.c2
  have cba03 := oba0.c3
  have hba0 := oba0.hi
  go_wp2_with fail
  clear cba00 cba01 cba02 cba03 hba0
  refine (S _ w3 os0.row).mono ?_
  rintro e w4 ⟨vw0, vw1, rfl, ow0, ow1, dw0_w1, bw4⟩
  have dba0_w0 := apart_of (fun k hk => (oba0.ltb k hk).2) (fun k hk => (ow0.ltb k hk).1)
  have ds0_w0 := apart_of (fun k hk => (os0.ltb k hk).2) (fun k hk => (ow0.ltb k hk).1)
  have mw0 : ∀ k ∈ blkW vw0, w.heap.size ≤ k := fun k hk => Nat.le_trans B.size (ow0.ltb k hk).1
  have dba0_w1 := apart_of (fun k hk => (oba0.ltb k hk).2) (fun k hk => (ow1.ltb k hk).1)
  have ds0_w1 := apart_of (fun k hk => (os0.ltb k hk).2) (fun k hk => (ow1.ltb k hk).1)
  have mw1 : ∀ k ∈ blkW vw1, w.heap.size ≤ k := fun k hk => Nat.le_trans B.size (ow1.ltb k hk).1
  obtain ⟨sw0, rfl, hqw0⟩ := id ow0
  obtain ⟨adw0, cpw0, rfl, -⟩ := hqw0.row
  clear hqw0
  obtain ⟨sw1, rfl, hqw1⟩ := id ow1
  obtain ⟨adw1, cpw1, rfl, -⟩ := hqw1.row
  clear hqw1
  have oba0 := oba0.below bw4 (Nat.le_refl _)
  have os0 := os0.below bw4 (Nat.le_refl _)
  have B := B.trans (bw4.mono B.size)
  clear bw4
  clear os0
  -- the arguments, copied; the program's answer
  have cba00 := oba0.c0
  have cba01 := oba0.c1
  have cba02 := oba0.c2
  have cba03 := oba0.c3
  have hba0 := oba0.hi
  go_wp2_with fail
  clear cba00 cba01 cba02 cba03 hba0
  have hsw5 : (w4.alloc (.cells #[.bool r0.1, .slice adw0 r0.2.length cpw0] 28)).heap.size = w4.heap.size + 1 := by simp
  have bB := below1 w4 (.cells #[.bool r0.1, .slice adw0 r0.2.length cpw0] 28)
  have obw0 := BoxW.made w4 (.bool r0.1) (.slice adw0 r0.2.length cpw0) 28
  have dba0_bw0 := apart_of (fun k hk => (oba0.ltb k hk).2) (fun k hk => (obw0.ltb k hk).1)
  have dw0_bw0 := apart_of (fun k hk => (ow0.ltb k hk).2) (fun k hk => (obw0.ltb k hk).1)
  have dw1_bw0 := apart_of (fun k hk => (ow1.ltb k hk).2) (fun k hk => (obw0.ltb k hk).1)
  have oba0 := oba0.below bB (Nat.le_refl _)
  have ow0 := ow0.below bB (Nat.le_refl _)
  have ow1 := ow1.below bB (Nat.le_refl _)
  have B := B.trans (bB.mono B.size)
  clear bB
  generalize w4.alloc (.cells #[.bool r0.1, .slice adw0 r0.2.length cpw0] 28) = w5 at *
  have hsw6 : (w5.alloc (.cells #[.bool r1.1, .slice adw1 r1.2.length cpw1] 28)).heap.size = w5.heap.size + 1 := by simp
  have bB := below1 w5 (.cells #[.bool r1.1, .slice adw1 r1.2.length cpw1] 28)
  have obw1 := BoxW.made w5 (.bool r1.1) (.slice adw1 r1.2.length cpw1) 28
  have dba0_bw1 := apart_of (fun k hk => (oba0.ltb k hk).2) (fun k hk => (obw1.ltb k hk).1)
  have dw0_bw1 := apart_of (fun k hk => (ow0.ltb k hk).2) (fun k hk => (obw1.ltb k hk).1)
  have dw1_bw1 := apart_of (fun k hk => (ow1.ltb k hk).2) (fun k hk => (obw1.ltb k hk).1)
  have dbw0_bw1 := apart_of (fun k hk => (obw0.ltb k hk).2) (fun k hk => (obw1.ltb k hk).1)
  rw [hsw5] at obw1
  (try rw [hsw5] at dba0_bw1)
  (try rw [hsw5] at dw0_bw1)
  (try rw [hsw5] at dw1_bw1)
  (try rw [hsw5] at dbw0_bw1)
  have oba0 := oba0.below bB (Nat.le_refl _)
  have ow0 := ow0.below bB (Nat.le_refl _)
  have ow1 := ow1.below bB (Nat.le_refl _)
  have obw0 := obw0.below bB (Nat.le_refl _)
  have B := B.trans (bB.mono B.size)
  clear bB
  generalize w5.alloc (.cells #[.bool r1.1, .slice adw1 r1.2.length cpw1] 28) = w6 at *
  refine (T0 w6 (hr0.below B) (hh0.below B)).mono ?_
  rintro e w7 ⟨vx0, rfl, ox0, bw7⟩
  have dba0_x0 := apart_of (fun k hk => (oba0.ltb k hk).2) (fun k hk => (ox0.ltb k hk).1)
  have dw0_x0 := apart_of (fun k hk => (ow0.ltb k hk).2) (fun k hk => (ox0.ltb k hk).1)
  have dw1_x0 := apart_of (fun k hk => (ow1.ltb k hk).2) (fun k hk => (ox0.ltb k hk).1)
  have dbw0_x0 := apart_of (fun k hk => (obw0.ltb k hk).2) (fun k hk => (ox0.ltb k hk).1)
  have dbw1_x0 := apart_of (fun k hk => (obw1.ltb k hk).2) (fun k hk => (ox0.ltb k hk).1)
  have mx0 : ∀ k ∈ blkV vx0, w.heap.size ≤ k := fun k hk => Nat.le_trans B.size (ox0.ltb k hk).1
  obtain ⟨sx0, tx0, rfl, hqx0, hpx0, -⟩ := id ox0
  obtain ⟨adx0, cpx0, rfl, -⟩ := hqx0.row
  obtain ⟨aex0, cqx0, rfl, -⟩ := hpx0.row
  clear hqx0 hpx0
  have oba0 := oba0.below bw7 (Nat.le_refl _)
  have ow0 := ow0.below bw7 (Nat.le_refl _)
  have ow1 := ow1.below bw7 (Nat.le_refl _)
  have obw0 := obw0.below bw7 (Nat.le_refl _)
  have obw1 := obw1.below bw7 (Nat.le_refl _)
  have B := B.trans (bw7.mono B.size)
  clear bw7
  have cba00 := oba0.c0
  have cba01 := oba0.c1
  have cba02 := oba0.c2
  have cba03 := oba0.c3
  have hba0 := oba0.hi
  have cbw00 := obw0.c0
  have cbw01 := obw0.c1
  have hbw0 := obw0.hi
  have cbw10 := obw1.c0
  have cbw11 := obw1.c1
  have hbw1 := obw1.hi
  have eba0 := oba0.below (below1 w7 (.cells #[.bool xs0.1.1, .slice adx0 xs0.1.2.length cpx0, .bool xs0.2.1, .slice aex0 xs0.2.2.length cqx0] 30)) (Nat.le_refl _)
  have eba00 := eba0.c0
  have eba01 := eba0.c1
  have eba02 := eba0.c2
  have eba03 := eba0.c3
  have ebw0 := obw0.below (below1 w7 (.cells #[.bool xs0.1.1, .slice adx0 xs0.1.2.length cpx0, .bool xs0.2.1, .slice aex0 xs0.2.2.length cqx0] 30)) (Nat.le_refl _)
  have ebw00 := ebw0.c0
  have ebw01 := ebw0.c1
  have ebw1 := obw1.below (below1 w7 (.cells #[.bool xs0.1.1, .slice adx0 xs0.1.2.length cpx0, .bool xs0.2.1, .slice aex0 xs0.2.2.length cqx0] 30)) (Nat.le_refl _)
  have ebw10 := ebw1.c0
  have ebw11 := ebw1.c1
  go_wp2_with fail
  clear cba00 cba01 cba02 cba03 hba0
  clear cbw00 cbw01 hbw0
  clear cbw10 cbw11 hbw1
  clear eba0 eba00 eba01 eba02 eba03
  clear ebw0 ebw00 ebw01
  clear ebw1 ebw10 ebw11
  have hsw8 : (w7.alloc (.cells #[.bool xs0.1.1, .slice adx0 xs0.1.2.length cpx0, .bool xs0.2.1, .slice aex0 xs0.2.2.length cqx0] 30)).heap.size = w7.heap.size + 1 := by simp
  have bB := below1 w7 (.cells #[.bool xs0.1.1, .slice adx0 xs0.1.2.length cpx0, .bool xs0.2.1, .slice aex0 xs0.2.2.length cqx0] 30)
  have obx0 := BoxV.made w7 (.bool xs0.1.1) (.slice adx0 xs0.1.2.length cpx0) (.bool xs0.2.1) (.slice aex0 xs0.2.2.length cqx0) 30
  have dba0_bx0 := apart_of (fun k hk => (oba0.ltb k hk).2) (fun k hk => (obx0.ltb k hk).1)
  have dw0_bx0 := apart_of (fun k hk => (ow0.ltb k hk).2) (fun k hk => (obx0.ltb k hk).1)
  have dw1_bx0 := apart_of (fun k hk => (ow1.ltb k hk).2) (fun k hk => (obx0.ltb k hk).1)
  have dbw0_bx0 := apart_of (fun k hk => (obw0.ltb k hk).2) (fun k hk => (obx0.ltb k hk).1)
  have dbw1_bx0 := apart_of (fun k hk => (obw1.ltb k hk).2) (fun k hk => (obx0.ltb k hk).1)
  have dx0_bx0 := apart_of (fun k hk => (ox0.ltb k hk).2) (fun k hk => (obx0.ltb k hk).1)
  have oba0 := oba0.below bB (Nat.le_refl _)
  have ow0 := ow0.below bB (Nat.le_refl _)
  have ow1 := ow1.below bB (Nat.le_refl _)
  have obw0 := obw0.below bB (Nat.le_refl _)
  have obw1 := obw1.below bB (Nat.le_refl _)
  have ox0 := ox0.below bB (Nat.le_refl _)
  have B := B.trans (bB.mono B.size)
  clear bB
  generalize w7.alloc (.cells #[.bool xs0.1.1, .slice adx0 xs0.1.2.length cpx0, .bool xs0.2.1, .slice aex0 xs0.2.2.length cqx0] 30) = w8 at *
  refine (I _ w8 ox0.row).mono ?_
  rintro e w9 ⟨vg0, vg1, rfl, og0, og1, dg0_g1, bw9⟩
  have dba0_g0 := apart_of (fun k hk => (oba0.ltb k hk).2) (fun k hk => (og0.ltb k hk).1)
  have dw0_g0 := apart_of (fun k hk => (ow0.ltb k hk).2) (fun k hk => (og0.ltb k hk).1)
  have dw1_g0 := apart_of (fun k hk => (ow1.ltb k hk).2) (fun k hk => (og0.ltb k hk).1)
  have dbw0_g0 := apart_of (fun k hk => (obw0.ltb k hk).2) (fun k hk => (og0.ltb k hk).1)
  have dbw1_g0 := apart_of (fun k hk => (obw1.ltb k hk).2) (fun k hk => (og0.ltb k hk).1)
  have dx0_g0 := apart_of (fun k hk => (ox0.ltb k hk).2) (fun k hk => (og0.ltb k hk).1)
  have dbx0_g0 := apart_of (fun k hk => (obx0.ltb k hk).2) (fun k hk => (og0.ltb k hk).1)
  have mg0 : ∀ k ∈ blkW vg0, w.heap.size ≤ k := fun k hk => Nat.le_trans B.size (og0.ltb k hk).1
  have dba0_g1 := apart_of (fun k hk => (oba0.ltb k hk).2) (fun k hk => (og1.ltb k hk).1)
  have dw0_g1 := apart_of (fun k hk => (ow0.ltb k hk).2) (fun k hk => (og1.ltb k hk).1)
  have dw1_g1 := apart_of (fun k hk => (ow1.ltb k hk).2) (fun k hk => (og1.ltb k hk).1)
  have dbw0_g1 := apart_of (fun k hk => (obw0.ltb k hk).2) (fun k hk => (og1.ltb k hk).1)
  have dbw1_g1 := apart_of (fun k hk => (obw1.ltb k hk).2) (fun k hk => (og1.ltb k hk).1)
  have dx0_g1 := apart_of (fun k hk => (ox0.ltb k hk).2) (fun k hk => (og1.ltb k hk).1)
  have dbx0_g1 := apart_of (fun k hk => (obx0.ltb k hk).2) (fun k hk => (og1.ltb k hk).1)
  have mg1 : ∀ k ∈ blkW vg1, w.heap.size ≤ k := fun k hk => Nat.le_trans B.size (og1.ltb k hk).1
  obtain ⟨sg0, rfl, hqg0⟩ := id og0
  obtain ⟨adg0, cpg0, rfl, -⟩ := hqg0.row
  clear hqg0
  obtain ⟨sg1, rfl, hqg1⟩ := id og1
  obtain ⟨adg1, cpg1, rfl, -⟩ := hqg1.row
  clear hqg1
  have oba0 := oba0.below bw9 (Nat.le_refl _)
  have ow0 := ow0.below bw9 (Nat.le_refl _)
  have ow1 := ow1.below bw9 (Nat.le_refl _)
  have obw0 := obw0.below bw9 (Nat.le_refl _)
  have obw1 := obw1.below bw9 (Nat.le_refl _)
  have ox0 := ox0.below bw9 (Nat.le_refl _)
  have obx0 := obx0.below bw9 (Nat.le_refl _)
  have B := B.trans (bw9.mono B.size)
  clear bw9
  have cba00 := oba0.c0
  have cba01 := oba0.c1
  have cba02 := oba0.c2
  have cba03 := oba0.c3
  have hba0 := oba0.hi
  have cbw00 := obw0.c0
  have cbw01 := obw0.c1
  have hbw0 := obw0.hi
  have cbw10 := obw1.c0
  have cbw11 := obw1.c1
  have hbw1 := obw1.hi
  have cbx00 := obx0.c0
  have cbx01 := obx0.c1
  have cbx02 := obx0.c2
  have cbx03 := obx0.c3
  have hbx0 := obx0.hi
  go_wp2_with fail
  clear cba00 cba01 cba02 cba03 hba0
  clear cbw00 cbw01 hbw0
  clear cbw10 cbw11 hbw1
  clear cbx00 cbx01 cbx02 cbx03 hbx0
  have hsw10 : (w9.alloc (.cells #[.bool r0.1, .slice adg0 r0.2.length cpg0] 28)).heap.size = w9.heap.size + 1 := by simp
  have bB := below1 w9 (.cells #[.bool r0.1, .slice adg0 r0.2.length cpg0] 28)
  have obg0 := BoxW.made w9 (.bool r0.1) (.slice adg0 r0.2.length cpg0) 28
  have dba0_bg0 := apart_of (fun k hk => (oba0.ltb k hk).2) (fun k hk => (obg0.ltb k hk).1)
  have dw0_bg0 := apart_of (fun k hk => (ow0.ltb k hk).2) (fun k hk => (obg0.ltb k hk).1)
  have dw1_bg0 := apart_of (fun k hk => (ow1.ltb k hk).2) (fun k hk => (obg0.ltb k hk).1)
  have dbw0_bg0 := apart_of (fun k hk => (obw0.ltb k hk).2) (fun k hk => (obg0.ltb k hk).1)
  have dbw1_bg0 := apart_of (fun k hk => (obw1.ltb k hk).2) (fun k hk => (obg0.ltb k hk).1)
  have dx0_bg0 := apart_of (fun k hk => (ox0.ltb k hk).2) (fun k hk => (obg0.ltb k hk).1)
  have dbx0_bg0 := apart_of (fun k hk => (obx0.ltb k hk).2) (fun k hk => (obg0.ltb k hk).1)
  have dg0_bg0 := apart_of (fun k hk => (og0.ltb k hk).2) (fun k hk => (obg0.ltb k hk).1)
  have dg1_bg0 := apart_of (fun k hk => (og1.ltb k hk).2) (fun k hk => (obg0.ltb k hk).1)
  have oba0 := oba0.below bB (Nat.le_refl _)
  have ow0 := ow0.below bB (Nat.le_refl _)
  have ow1 := ow1.below bB (Nat.le_refl _)
  have obw0 := obw0.below bB (Nat.le_refl _)
  have obw1 := obw1.below bB (Nat.le_refl _)
  have ox0 := ox0.below bB (Nat.le_refl _)
  have obx0 := obx0.below bB (Nat.le_refl _)
  have og0 := og0.below bB (Nat.le_refl _)
  have og1 := og1.below bB (Nat.le_refl _)
  have B := B.trans (bB.mono B.size)
  clear bB
  generalize w9.alloc (.cells #[.bool r0.1, .slice adg0 r0.2.length cpg0] 28) = w10 at *
  have hsw11 : (w10.alloc (.cells #[.bool r1.1, .slice adg1 r1.2.length cpg1] 28)).heap.size = w10.heap.size + 1 := by simp
  have bB := below1 w10 (.cells #[.bool r1.1, .slice adg1 r1.2.length cpg1] 28)
  have obg1 := BoxW.made w10 (.bool r1.1) (.slice adg1 r1.2.length cpg1) 28
  have dba0_bg1 := apart_of (fun k hk => (oba0.ltb k hk).2) (fun k hk => (obg1.ltb k hk).1)
  have dw0_bg1 := apart_of (fun k hk => (ow0.ltb k hk).2) (fun k hk => (obg1.ltb k hk).1)
  have dw1_bg1 := apart_of (fun k hk => (ow1.ltb k hk).2) (fun k hk => (obg1.ltb k hk).1)
  have dbw0_bg1 := apart_of (fun k hk => (obw0.ltb k hk).2) (fun k hk => (obg1.ltb k hk).1)
  have dbw1_bg1 := apart_of (fun k hk => (obw1.ltb k hk).2) (fun k hk => (obg1.ltb k hk).1)
  have dx0_bg1 := apart_of (fun k hk => (ox0.ltb k hk).2) (fun k hk => (obg1.ltb k hk).1)
  have dbx0_bg1 := apart_of (fun k hk => (obx0.ltb k hk).2) (fun k hk => (obg1.ltb k hk).1)
  have dg0_bg1 := apart_of (fun k hk => (og0.ltb k hk).2) (fun k hk => (obg1.ltb k hk).1)
  have dg1_bg1 := apart_of (fun k hk => (og1.ltb k hk).2) (fun k hk => (obg1.ltb k hk).1)
  have dbg0_bg1 := apart_of (fun k hk => (obg0.ltb k hk).2) (fun k hk => (obg1.ltb k hk).1)
  rw [hsw10] at obg1
  (try rw [hsw10] at dba0_bg1)
  (try rw [hsw10] at dw0_bg1)
  (try rw [hsw10] at dw1_bg1)
  (try rw [hsw10] at dbw0_bg1)
  (try rw [hsw10] at dbw1_bg1)
  (try rw [hsw10] at dx0_bg1)
  (try rw [hsw10] at dbx0_bg1)
  (try rw [hsw10] at dg0_bg1)
  (try rw [hsw10] at dg1_bg1)
  (try rw [hsw10] at dbg0_bg1)
  have oba0 := oba0.below bB (Nat.le_refl _)
  have ow0 := ow0.below bB (Nat.le_refl _)
  have ow1 := ow1.below bB (Nat.le_refl _)
  have obw0 := obw0.below bB (Nat.le_refl _)
  have obw1 := obw1.below bB (Nat.le_refl _)
  have ox0 := ox0.below bB (Nat.le_refl _)
  have obx0 := obx0.below bB (Nat.le_refl _)
  have og0 := og0.below bB (Nat.le_refl _)
  have og1 := og1.below bB (Nat.le_refl _)
  have obg0 := obg0.below bB (Nat.le_refl _)
  have B := B.trans (bB.mono B.size)
  clear bB
  generalize w10.alloc (.cells #[.bool r1.1, .slice adg1 r1.2.length cpg1] 28) = w11 at *
  refine (eqW' _ _ _ _ _ w11 (by omega) og0 ow0).mono ?_
  rintro e w12 ⟨rfl, bw12⟩
  have oba0 := oba0.below bw12 (Nat.le_refl _)
  have ow0 := ow0.below bw12 (Nat.le_refl _)
  have ow1 := ow1.below bw12 (Nat.le_refl _)
  have obw0 := obw0.below bw12 (Nat.le_refl _)
  have obw1 := obw1.below bw12 (Nat.le_refl _)
  have ox0 := ox0.below bw12 (Nat.le_refl _)
  have obx0 := obx0.below bw12 (Nat.le_refl _)
  have og0 := og0.below bw12 (Nat.le_refl _)
  have og1 := og1.below bw12 (Nat.le_refl _)
  have obg0 := obg0.below bw12 (Nat.le_refl _)
  have obg1 := obg1.below bw12 (Nat.le_refl _)
  have B := B.trans (bw12.mono B.size)
  clear bw12
  have cba00 := oba0.c0
  have cba01 := oba0.c1
  have cba02 := oba0.c2
  have cba03 := oba0.c3
  have hba0 := oba0.hi
  have cbw00 := obw0.c0
  have cbw01 := obw0.c1
  have hbw0 := obw0.hi
  have cbw10 := obw1.c0
  have cbw11 := obw1.c1
  have hbw1 := obw1.hi
  have cbx00 := obx0.c0
  have cbx01 := obx0.c1
  have cbx02 := obx0.c2
  have cbx03 := obx0.c3
  have hbx0 := obx0.hi
  have cbg00 := obg0.c0
  have cbg01 := obg0.c1
  have hbg0 := obg0.hi
  have cbg10 := obg1.c0
  have cbg11 := obg1.c1
  have hbg1 := obg1.hi
  go_wp2_with fail
  clear cba00 cba01 cba02 cba03 hba0
  clear cbw00 cbw01 hbw0
  clear cbw10 cbw11 hbw1
  clear cbx00 cbx01 cbx02 cbx03 hbx0
  clear cbg00 cbg01 hbg0
  clear cbg10 cbg11 hbg1
  refine (eqW' _ _ _ _ _ w12 (by omega) og1 ow1).mono ?_
  rintro e w13 ⟨rfl, bw13⟩
  have oba0 := oba0.below bw13 (Nat.le_refl _)
  have ow0 := ow0.below bw13 (Nat.le_refl _)
  have ow1 := ow1.below bw13 (Nat.le_refl _)
  have obw0 := obw0.below bw13 (Nat.le_refl _)
  have obw1 := obw1.below bw13 (Nat.le_refl _)
  have ox0 := ox0.below bw13 (Nat.le_refl _)
  have obx0 := obx0.below bw13 (Nat.le_refl _)
  have og0 := og0.below bw13 (Nat.le_refl _)
  have og1 := og1.below bw13 (Nat.le_refl _)
  have obg0 := obg0.below bw13 (Nat.le_refl _)
  have obg1 := obg1.below bw13 (Nat.le_refl _)
  have B := B.trans (bw13.mono B.size)
  clear bw13
  -- the copies are as they were
  have bB := (Below.refl w13.heap.size w13).drew
  have cba00 := oba0.c0
  have cba01 := oba0.c1
  have cba02 := oba0.c2
  have cba03 := oba0.c3
  have hba0 := oba0.hi
  have cbw00 := obw0.c0
  have cbw01 := obw0.c1
  have hbw0 := obw0.hi
  have cbw10 := obw1.c0
  have cbw11 := obw1.c1
  have hbw1 := obw1.hi
  have cbx00 := obx0.c0
  have cbx01 := obx0.c1
  have cbx02 := obx0.c2
  have cbx03 := obx0.c3
  have hbx0 := obx0.hi
  have cbg00 := obg0.c0
  have cbg01 := obg0.c1
  have hbg0 := obg0.hi
  have cbg10 := obg1.c0
  have cbg11 := obg1.c1
  have hbg1 := obg1.hi
  go_wp2_with fail
  clear cba00 cba01 cba02 cba03 hba0
  clear cbw00 cbw01 hbw0
  clear cbw10 cbw11 hbw1
  clear cbx00 cbx01 cbx02 cbx03 hbx0
  clear cbg00 cbg01 hbg0
  clear cbg10 cbg11 hbg1
  have oba0 := oba0.below bB (Nat.le_refl _)
  have ow0 := ow0.below bB (Nat.le_refl _)
  have ow1 := ow1.below bB (Nat.le_refl _)
  have obw0 := obw0.below bB (Nat.le_refl _)
  have obw1 := obw1.below bB (Nat.le_refl _)
  have ox0 := ox0.below bB (Nat.le_refl _)
  have obx0 := obx0.below bB (Nat.le_refl _)
  have og0 := og0.below bB (Nat.le_refl _)
  have og1 := og1.below bB (Nat.le_refl _)
  have obg0 := obg0.below bB (Nat.le_refl _)
  have obg1 := obg1.below bB (Nat.le_refl _)
  have B := B.trans (bB.mono B.size)
  clear bB
  have cba00 := oba0.c0
  have cba01 := oba0.c1
  have cba02 := oba0.c2
  have cba03 := oba0.c3
  have cbw00 := obw0.c0
  have cbw01 := obw0.c1
  have cbw10 := obw1.c0
  have cbw11 := obw1.c1
  have cbx00 := obx0.c0
  have cbx01 := obx0.c1
  have cbx02 := obx0.c2
  have cbx03 := obx0.c3
  have cbg00 := obg0.c0
  have cbg01 := obg0.c1
  have cbg10 := obg1.c0
  have cbg11 := obg1.c1
  go_region_held (fun w' => w'.cell? ⟨w.heap.size, 0, none⟩ = some (.bool g0) ∧ w'.cell? ⟨w.heap.size, 1, none⟩ = some (.slice a0 n0 c0) ∧ w'.cell? ⟨w.heap.size, 2, none⟩ = some (.bool gg0) ∧ w'.cell? ⟨w.heap.size, 3, none⟩ = some (.slice aa0 nn0 cc0) ∧ w'.cell? ⟨w4.heap.size, 0, none⟩ = some (.bool r0.1) ∧ w'.cell? ⟨w4.heap.size, 1, none⟩ = some (.slice adw0 r0.2.length cpw0) ∧ w'.cell? ⟨w5.heap.size, 0, none⟩ = some (.bool r1.1) ∧ w'.cell? ⟨w5.heap.size, 1, none⟩ = some (.slice adw1 r1.2.length cpw1) ∧ w'.cell? ⟨w7.heap.size, 0, none⟩ = some (.bool xs0.1.1) ∧ w'.cell? ⟨w7.heap.size, 1, none⟩ = some (.slice adx0 xs0.1.2.length cpx0) ∧ w'.cell? ⟨w7.heap.size, 2, none⟩ = some (.bool xs0.2.1) ∧ w'.cell? ⟨w7.heap.size, 3, none⟩ = some (.slice aex0 xs0.2.2.length cqx0) ∧ w'.cell? ⟨w9.heap.size, 0, none⟩ = some (.bool r0.1) ∧ w'.cell? ⟨w9.heap.size, 1, none⟩ = some (.slice adg0 r0.2.length cpg0) ∧ w'.cell? ⟨w10.heap.size, 0, none⟩ = some (.bool r1.1) ∧ w'.cell? ⟨w10.heap.size, 1, none⟩ = some (.slice adg1 r1.2.length cpg1)) (go_keep) (first
    | (go_at_call_of 9 (Value.slice a0 n0 c0)
       refine (T0 w13.drew (hr0.below B) (hh0.below B)).mono ?_
       rintro e w14 ⟨vy0, rfl, oy0, bw14⟩
       have oba0 := oba0.below bw14 (Nat.le_refl _)
       have ow0 := ow0.below bw14 (Nat.le_refl _)
       have ow1 := ow1.below bw14 (Nat.le_refl _)
       have obw0 := obw0.below bw14 (Nat.le_refl _)
       have obw1 := obw1.below bw14 (Nat.le_refl _)
       have ox0 := ox0.below bw14 (Nat.le_refl _)
       have obx0 := obx0.below bw14 (Nat.le_refl _)
       have og0 := og0.below bw14 (Nat.le_refl _)
       have og1 := og1.below bw14 (Nat.le_refl _)
       have obg0 := obg0.below bw14 (Nat.le_refl _)
       have obg1 := obg1.below bw14 (Nat.le_refl _)
       have B := B.trans (bw14.mono B.size)
       clear bw14
       have cba00 := oba0.c0
       have cba01 := oba0.c1
       have cba02 := oba0.c2
       have cba03 := oba0.c3
       have cbw00 := obw0.c0
       have cbw01 := obw0.c1
       have cbw10 := obw1.c0
       have cbw11 := obw1.c1
       have cbx00 := obx0.c0
       have cbx01 := obx0.c1
       have cbx02 := obx0.c2
       have cbx03 := obx0.c3
       have cbg00 := obg0.c0
       have cbg01 := obg0.c1
       have cbg10 := obg1.c0
       have cbg11 := obg1.c1)
    | (go_at_call 11
       refine (eqV' _ _ _ _ _ w14 (by omega) ox0 oy0).mono ?_
       rintro e w15 ⟨rfl, bw15⟩
       have oba0 := oba0.below bw15 (Nat.le_refl _)
       have ow0 := ow0.below bw15 (Nat.le_refl _)
       have ow1 := ow1.below bw15 (Nat.le_refl _)
       have obw0 := obw0.below bw15 (Nat.le_refl _)
       have obw1 := obw1.below bw15 (Nat.le_refl _)
       have ox0 := ox0.below bw15 (Nat.le_refl _)
       have obx0 := obx0.below bw15 (Nat.le_refl _)
       have og0 := og0.below bw15 (Nat.le_refl _)
       have og1 := og1.below bw15 (Nat.le_refl _)
       have obg0 := obg0.below bw15 (Nat.le_refl _)
       have obg1 := obg1.below bw15 (Nat.le_refl _)
       have oy0 := oy0.below bw15 (Nat.le_refl _)
       have B := B.trans (bw15.mono B.size)
       clear bw15
       have cba00 := oba0.c0
       have cba01 := oba0.c1
       have cba02 := oba0.c2
       have cba03 := oba0.c3
       have cbw00 := obw0.c0
       have cbw01 := obw0.c1
       have cbw10 := obw1.c0
       have cbw11 := obw1.c1
       have cbx00 := obx0.c0
       have cbx01 := obx0.c1
       have cbx02 := obx0.c2
       have cbx03 := obx0.c3
       have cbg00 := obg0.c0
       have cbg01 := obg0.c1
       have cbg10 := obg1.c0
       have cbg11 := obg1.c1)
    )
  clear cba00 cba01 cba02 cba03 cbw00 cbw01 cbw10 cbw11 cbx00 cbx01 cbx02 cbx03 cbg00 cbg01 cbg10 cbg11
  clear oy0
  -- marks in the copies do not reach the answer
  have cba00 := oba0.c0
  have cba01 := oba0.c1
  have cba02 := oba0.c2
  have cba03 := oba0.c3
  have hba0 := oba0.hi
  have cbw00 := obw0.c0
  have cbw01 := obw0.c1
  have hbw0 := obw0.hi
  have cbw10 := obw1.c0
  have cbw11 := obw1.c1
  have hbw1 := obw1.hi
  have cbx00 := obx0.c0
  have cbx01 := obx0.c1
  have cbx02 := obx0.c2
  have cbx03 := obx0.c3
  have hbx0 := obx0.hi
  have cbg00 := obg0.c0
  have cbg01 := obg0.c1
  have hbg0 := obg0.hi
  have cbg10 := obg1.c0
  have cbg11 := obg1.c1
  have hbg1 := obg1.hi
  go_wp2_with fail
  clear cba00 cba01 cba02 cba03 hba0
  clear cbw00 cbw01 hbw0
  clear cbw10 cbw11 hbw1
  clear cbx00 cbx01 cbx02 cbx03 hbx0
  clear cbg00 cbg01 hbg0
  clear cbg10 cbg11 hbg1
  refine (markV _ _ xs0 (1) w15 (by omega) (by omega) (by omega) (by omega) (by omega) ox0).mono ?_
  rintro e w16 ⟨rfl, oM, gw16⟩
  have oba0 := oba0.tn gw16 dba0_x0
  have ow0 := ow0.tn gw16 dw0_x0
  have ow1 := ow1.tn gw16 dw1_x0
  have obw0 := obw0.tn gw16 dbw0_x0
  have obw1 := obw1.tn gw16 dbw1_x0
  have obx0 := obx0.tn gw16 dx0_bx0.symm
  have og0 := og0.tn gw16 dx0_g0.symm
  have og1 := og1.tn gw16 dx0_g1.symm
  have obg0 := obg0.tn gw16 dx0_bg0.symm
  have obg1 := obg1.tn gw16 dx0_bg1.symm
  have B := gw16.below B B.size mx0
  clear gw16
  clear ox0 oM
  have hkn : ¬ (((1 : Int) + xs0.1.2.length + xs0.2.2.length) < 0) := by omega
  have cba00 := oba0.c0
  have cba01 := oba0.c1
  have cba02 := oba0.c2
  have cba03 := oba0.c3
  have hba0 := oba0.hi
  have cbw00 := obw0.c0
  have cbw01 := obw0.c1
  have hbw0 := obw0.hi
  have cbw10 := obw1.c0
  have cbw11 := obw1.c1
  have hbw1 := obw1.hi
  have cbx00 := obx0.c0
  have cbx01 := obx0.c1
  have cbx02 := obx0.c2
  have cbx03 := obx0.c3
  have hbx0 := obx0.hi
  have cbg00 := obg0.c0
  have cbg01 := obg0.c1
  have hbg0 := obg0.hi
  have cbg10 := obg1.c0
  have cbg11 := obg1.c1
  have hbg1 := obg1.hi
  go_wp2_with fail
  clear cba00 cba01 cba02 cba03 hba0
  clear cbw00 cbw01 hbw0
  clear cbw10 cbw11 hbw1
  clear cbx00 cbx01 cbx02 cbx03 hbx0
  clear cbg00 cbg01 hbg0
  clear cbg10 cbg11 hbg1
  refine (eqW' _ _ _ _ _ w16 (by omega) og0 ow0).mono ?_
  rintro e w17 ⟨rfl, bw17⟩
  have oba0 := oba0.below bw17 (Nat.le_refl _)
  have ow0 := ow0.below bw17 (Nat.le_refl _)
  have ow1 := ow1.below bw17 (Nat.le_refl _)
  have obw0 := obw0.below bw17 (Nat.le_refl _)
  have obw1 := obw1.below bw17 (Nat.le_refl _)
  have obx0 := obx0.below bw17 (Nat.le_refl _)
  have og0 := og0.below bw17 (Nat.le_refl _)
  have og1 := og1.below bw17 (Nat.le_refl _)
  have obg0 := obg0.below bw17 (Nat.le_refl _)
  have obg1 := obg1.below bw17 (Nat.le_refl _)
  have B := B.trans (bw17.mono B.size)
  clear bw17
  have cba00 := oba0.c0
  have cba01 := oba0.c1
  have cba02 := oba0.c2
  have cba03 := oba0.c3
  have hba0 := oba0.hi
  have cbw00 := obw0.c0
  have cbw01 := obw0.c1
  have hbw0 := obw0.hi
  have cbw10 := obw1.c0
  have cbw11 := obw1.c1
  have hbw1 := obw1.hi
  have cbx00 := obx0.c0
  have cbx01 := obx0.c1
  have cbx02 := obx0.c2
  have cbx03 := obx0.c3
  have hbx0 := obx0.hi
  have cbg00 := obg0.c0
  have cbg01 := obg0.c1
  have hbg0 := obg0.hi
  have cbg10 := obg1.c0
  have cbg11 := obg1.c1
  have hbg1 := obg1.hi
  go_wp2_with fail
  clear cba00 cba01 cba02 cba03 hba0
  clear cbw00 cbw01 hbw0
  clear cbw10 cbw11 hbw1
  clear cbx00 cbx01 cbx02 cbx03 hbx0
  clear cbg00 cbg01 hbg0
  clear cbg10 cbg11 hbg1
  refine (eqW' _ _ _ _ _ w17 (by omega) og1 ow1).mono ?_
  rintro e w18 ⟨rfl, bw18⟩
  have oba0 := oba0.below bw18 (Nat.le_refl _)
  have ow0 := ow0.below bw18 (Nat.le_refl _)
  have ow1 := ow1.below bw18 (Nat.le_refl _)
  have obw0 := obw0.below bw18 (Nat.le_refl _)
  have obw1 := obw1.below bw18 (Nat.le_refl _)
  have obx0 := obx0.below bw18 (Nat.le_refl _)
  have og0 := og0.below bw18 (Nat.le_refl _)
  have og1 := og1.below bw18 (Nat.le_refl _)
  have obg0 := obg0.below bw18 (Nat.le_refl _)
  have obg1 := obg1.below bw18 (Nat.le_refl _)
  have B := B.trans (bw18.mono B.size)
  clear bw18
  -- the answer's own memory
  have cba00 := oba0.c0
  have cba01 := oba0.c1
  have cba02 := oba0.c2
  have cba03 := oba0.c3
  have hba0 := oba0.hi
  have cbw00 := obw0.c0
  have cbw01 := obw0.c1
  have hbw0 := obw0.hi
  have cbw10 := obw1.c0
  have cbw11 := obw1.c1
  have hbw1 := obw1.hi
  have cbx00 := obx0.c0
  have cbx01 := obx0.c1
  have cbx02 := obx0.c2
  have cbx03 := obx0.c3
  have hbx0 := obx0.hi
  have cbg00 := obg0.c0
  have cbg01 := obg0.c1
  have hbg0 := obg0.hi
  have cbg10 := obg1.c0
  have cbg11 := obg1.c1
  have hbg1 := obg1.hi
  go_wp2_with fail
  clear cba00 cba01 cba02 cba03 hba0
  clear cbw00 cbw01 hbw0
  clear cbw10 cbw11 hbw1
  clear cbx00 cbx01 cbx02 cbx03 hbx0
  clear cbg00 cbg01 hbg0
  clear cbg10 cbg11 hbg1
  refine (markW _ _ r0 (1) w18 (by omega) (by omega) (by omega) og0).mono ?_
  rintro e w19 ⟨rfl, oM, gw19⟩
  have oba0 := oba0.tn gw19 dba0_g0
  have ow0 := ow0.tn gw19 dw0_g0
  have ow1 := ow1.tn gw19 dw1_g0
  have obw0 := obw0.tn gw19 dbw0_g0
  have obw1 := obw1.tn gw19 dbw1_g0
  have obx0 := obx0.tn gw19 dbx0_g0
  have og1 := og1.tn gw19 dg0_g1.symm
  have obg0 := obg0.tn gw19 dg0_bg0.symm
  have obg1 := obg1.tn gw19 dg0_bg1.symm
  have B := gw19.below B B.size mg0
  clear gw19
  have og0 := oM
  clear oM
  have cba00 := oba0.c0
  have cba01 := oba0.c1
  have cba02 := oba0.c2
  have cba03 := oba0.c3
  have hba0 := oba0.hi
  have cbw00 := obw0.c0
  have cbw01 := obw0.c1
  have hbw0 := obw0.hi
  have cbw10 := obw1.c0
  have cbw11 := obw1.c1
  have hbw1 := obw1.hi
  have cbx00 := obx0.c0
  have cbx01 := obx0.c1
  have cbx02 := obx0.c2
  have cbx03 := obx0.c3
  have hbx0 := obx0.hi
  have cbg00 := obg0.c0
  have cbg01 := obg0.c1
  have hbg0 := obg0.hi
  have cbg10 := obg1.c0
  have cbg11 := obg1.c1
  have hbg1 := obg1.hi
  go_wp2_with fail
  clear cba00 cba01 cba02 cba03 hba0
  clear cbw00 cbw01 hbw0
  clear cbw10 cbw11 hbw1
  clear cbx00 cbx01 cbx02 cbx03 hbx0
  clear cbg00 cbg01 hbg0
  clear cbg10 cbg11 hbg1
  refine (markW _ _ r1 (1 + r0.2.length) w19 (by omega) (by omega) (by omega) og1).mono ?_
  rintro e w20 ⟨rfl, oM, gw20⟩
  have oba0 := oba0.tn gw20 dba0_g1
  have ow0 := ow0.tn gw20 dw0_g1
  have ow1 := ow1.tn gw20 dw1_g1
  have obw0 := obw0.tn gw20 dbw0_g1
  have obw1 := obw1.tn gw20 dbw1_g1
  have obx0 := obx0.tn gw20 dbx0_g1
  have og0 := og0.tn gw20 dg0_g1
  have obg0 := obg0.tn gw20 dg1_bg0.symm
  have obg1 := obg1.tn gw20 dg1_bg1.symm
  have B := gw20.below B B.size mg1
  clear gw20
  have og1 := oM
  clear oM
  have cba00 := oba0.c0
  have cba01 := oba0.c1
  have cba02 := oba0.c2
  have cba03 := oba0.c3
  have hba0 := oba0.hi
  have cbw00 := obw0.c0
  have cbw01 := obw0.c1
  have hbw0 := obw0.hi
  have cbw10 := obw1.c0
  have cbw11 := obw1.c1
  have hbw1 := obw1.hi
  have cbx00 := obx0.c0
  have cbx01 := obx0.c1
  have cbx02 := obx0.c2
  have cbx03 := obx0.c3
  have hbx0 := obx0.hi
  have cbg00 := obg0.c0
  have cbg01 := obg0.c1
  have hbg0 := obg0.hi
  have cbg10 := obg1.c0
  have cbg11 := obg1.c1
  have hbg1 := obg1.hi
  go_wp2_with fail
  clear cba00 cba01 cba02 cba03 hba0
  clear cbw00 cbw01 hbw0
  clear cbw10 cbw11 hbw1
  clear cbx00 cbx01 cbx02 cbx03 hbx0
  clear cbg00 cbg01 hbg0
  clear cbg10 cbg11 hbg1
  refine (heldW _ _ r0.1 (1) r0.2.length w20 (by omega) (by omega) (by omega) og0).mono ?_
  rintro e w21 ⟨rfl, bw21⟩
  have oba0 := oba0.below bw21 (Nat.le_refl _)
  have ow0 := ow0.below bw21 (Nat.le_refl _)
  have ow1 := ow1.below bw21 (Nat.le_refl _)
  have obw0 := obw0.below bw21 (Nat.le_refl _)
  have obw1 := obw1.below bw21 (Nat.le_refl _)
  have obx0 := obx0.below bw21 (Nat.le_refl _)
  have og0 := og0.below bw21 (Nat.le_refl _)
  have og1 := og1.below bw21 (Nat.le_refl _)
  have obg0 := obg0.below bw21 (Nat.le_refl _)
  have obg1 := obg1.below bw21 (Nat.le_refl _)
  have B := B.trans (bw21.mono B.size)
  clear bw21
  have cba00 := oba0.c0
  have cba01 := oba0.c1
  have cba02 := oba0.c2
  have cba03 := oba0.c3
  have hba0 := oba0.hi
  have cbw00 := obw0.c0
  have cbw01 := obw0.c1
  have hbw0 := obw0.hi
  have cbw10 := obw1.c0
  have cbw11 := obw1.c1
  have hbw1 := obw1.hi
  have cbx00 := obx0.c0
  have cbx01 := obx0.c1
  have cbx02 := obx0.c2
  have cbx03 := obx0.c3
  have hbx0 := obx0.hi
  have cbg00 := obg0.c0
  have cbg01 := obg0.c1
  have hbg0 := obg0.hi
  have cbg10 := obg1.c0
  have cbg11 := obg1.c1
  have hbg1 := obg1.hi
  go_wp2_with fail
  clear cba00 cba01 cba02 cba03 hba0
  clear cbw00 cbw01 hbw0
  clear cbw10 cbw11 hbw1
  clear cbx00 cbx01 cbx02 cbx03 hbx0
  clear cbg00 cbg01 hbg0
  clear cbg10 cbg11 hbg1
  refine (heldW _ _ r1.1 (1 + r0.2.length) r1.2.length w21 (by omega) (by omega) (by omega) og1).mono ?_
  rintro e w22 ⟨rfl, bw22⟩
  have oba0 := oba0.below bw22 (Nat.le_refl _)
  have ow0 := ow0.below bw22 (Nat.le_refl _)
  have ow1 := ow1.below bw22 (Nat.le_refl _)
  have obw0 := obw0.below bw22 (Nat.le_refl _)
  have obw1 := obw1.below bw22 (Nat.le_refl _)
  have obx0 := obx0.below bw22 (Nat.le_refl _)
  have og0 := og0.below bw22 (Nat.le_refl _)
  have og1 := og1.below bw22 (Nat.le_refl _)
  have obg0 := obg0.below bw22 (Nat.le_refl _)
  have obg1 := obg1.below bw22 (Nat.le_refl _)
  have B := B.trans (bw22.mono B.size)
  clear bw22
  have cba00 := oba0.c0
  have cba01 := oba0.c1
  have cba02 := oba0.c2
  have cba03 := oba0.c3
  have hba0 := oba0.hi
  have cbw00 := obw0.c0
  have cbw01 := obw0.c1
  have hbw0 := obw0.hi
  have cbw10 := obw1.c0
  have cbw11 := obw1.c1
  have hbw1 := obw1.hi
  have cbx00 := obx0.c0
  have cbx01 := obx0.c1
  have cbx02 := obx0.c2
  have cbx03 := obx0.c3
  have hbx0 := obx0.hi
  have cbg00 := obg0.c0
  have cbg01 := obg0.c1
  have hbg0 := obg0.hi
  have cbg10 := obg1.c0
  have cbg11 := obg1.c1
  have hbg1 := obg1.hi
  go_wp2_with fail
  clear cba00 cba01 cba02 cba03 hba0
  clear cbw00 cbw01 hbw0
  clear cbw10 cbw11 hbw1
  clear cbx00 cbx01 cbx02 cbx03 hbx0
  clear cbg00 cbg01 hbg0
  clear cbg10 cbg11 hbg1
  refine (T0 w22 (hr0.below B) (hh0.below B)).mono ?_
  rintro e w23 ⟨vz0, rfl, oz0, bw23⟩
  have oba0 := oba0.below bw23 (Nat.le_refl _)
  have ow0 := ow0.below bw23 (Nat.le_refl _)
  have ow1 := ow1.below bw23 (Nat.le_refl _)
  have obw0 := obw0.below bw23 (Nat.le_refl _)
  have obw1 := obw1.below bw23 (Nat.le_refl _)
  have obx0 := obx0.below bw23 (Nat.le_refl _)
  have og0 := og0.below bw23 (Nat.le_refl _)
  have og1 := og1.below bw23 (Nat.le_refl _)
  have obg0 := obg0.below bw23 (Nat.le_refl _)
  have obg1 := obg1.below bw23 (Nat.le_refl _)
  have B := B.trans (bw23.mono B.size)
  clear bw23
  have cba00 := oba0.c0
  have cba01 := oba0.c1
  have cba02 := oba0.c2
  have cba03 := oba0.c3
  have hba0 := oba0.hi
  have cbw00 := obw0.c0
  have cbw01 := obw0.c1
  have hbw0 := obw0.hi
  have cbw10 := obw1.c0
  have cbw11 := obw1.c1
  have hbw1 := obw1.hi
  have cbx00 := obx0.c0
  have cbx01 := obx0.c1
  have cbx02 := obx0.c2
  have cbx03 := obx0.c3
  have hbx0 := obx0.hi
  have cbg00 := obg0.c0
  have cbg01 := obg0.c1
  have hbg0 := obg0.hi
  have cbg10 := obg1.c0
  have cbg11 := obg1.c1
  have hbg1 := obg1.hi
  go_wp2_with fail
  clear cba00 cba01 cba02 cba03 hba0
  clear cbw00 cbw01 hbw0
  clear cbw10 cbw11 hbw1
  clear cbx00 cbx01 cbx02 cbx03 hbx0
  clear cbg00 cbg01 hbg0
  clear cbg10 cbg11 hbg1
  refine (I _ w23 oz0.row).mono ?_
  rintro e w24 ⟨vh0, vh1, rfl, oh0, oh1, dh0_h1, bw24⟩
  obtain ⟨sh0, rfl, hqh0⟩ := id oh0
  obtain ⟨adh0, cph0, rfl, -⟩ := hqh0.row
  clear hqh0
  obtain ⟨sh1, rfl, hqh1⟩ := id oh1
  obtain ⟨adh1, cph1, rfl, -⟩ := hqh1.row
  clear hqh1
  have oba0 := oba0.below bw24 (Nat.le_refl _)
  have ow0 := ow0.below bw24 (Nat.le_refl _)
  have ow1 := ow1.below bw24 (Nat.le_refl _)
  have obw0 := obw0.below bw24 (Nat.le_refl _)
  have obw1 := obw1.below bw24 (Nat.le_refl _)
  have obx0 := obx0.below bw24 (Nat.le_refl _)
  have og0 := og0.below bw24 (Nat.le_refl _)
  have og1 := og1.below bw24 (Nat.le_refl _)
  have obg0 := obg0.below bw24 (Nat.le_refl _)
  have obg1 := obg1.below bw24 (Nat.le_refl _)
  have oz0 := oz0.below bw24 (Nat.le_refl _)
  have B := B.trans (bw24.mono B.size)
  clear bw24
  clear oz0
  have cba00 := oba0.c0
  have cba01 := oba0.c1
  have cba02 := oba0.c2
  have cba03 := oba0.c3
  have hba0 := oba0.hi
  have cbw00 := obw0.c0
  have cbw01 := obw0.c1
  have hbw0 := obw0.hi
  have cbw10 := obw1.c0
  have cbw11 := obw1.c1
  have hbw1 := obw1.hi
  have cbx00 := obx0.c0
  have cbx01 := obx0.c1
  have cbx02 := obx0.c2
  have cbx03 := obx0.c3
  have hbx0 := obx0.hi
  have cbg00 := obg0.c0
  have cbg01 := obg0.c1
  have hbg0 := obg0.hi
  have cbg10 := obg1.c0
  have cbg11 := obg1.c1
  have hbg1 := obg1.hi
  go_wp2_with fail
  clear cba00 cba01 cba02 cba03 hba0
  clear cbw00 cbw01 hbw0
  clear cbw10 cbw11 hbw1
  clear cbx00 cbx01 cbx02 cbx03 hbx0
  clear cbg00 cbg01 hbg0
  clear cbg10 cbg11 hbg1
  have hsw25 : (w24.alloc (.cells #[.bool r0.1, .slice adh0 r0.2.length cph0] 28)).heap.size = w24.heap.size + 1 := by simp
  have bB := below1 w24 (.cells #[.bool r0.1, .slice adh0 r0.2.length cph0] 28)
  have obh0 := BoxW.made w24 (.bool r0.1) (.slice adh0 r0.2.length cph0) 28
  have dba0_bh0 := apart_of (fun k hk => (oba0.ltb k hk).2) (fun k hk => (obh0.ltb k hk).1)
  have dw0_bh0 := apart_of (fun k hk => (ow0.ltb k hk).2) (fun k hk => (obh0.ltb k hk).1)
  have dw1_bh0 := apart_of (fun k hk => (ow1.ltb k hk).2) (fun k hk => (obh0.ltb k hk).1)
  have dbw0_bh0 := apart_of (fun k hk => (obw0.ltb k hk).2) (fun k hk => (obh0.ltb k hk).1)
  have dbw1_bh0 := apart_of (fun k hk => (obw1.ltb k hk).2) (fun k hk => (obh0.ltb k hk).1)
  have dbx0_bh0 := apart_of (fun k hk => (obx0.ltb k hk).2) (fun k hk => (obh0.ltb k hk).1)
  have dg0_bh0 := apart_of (fun k hk => (og0.ltb k hk).2) (fun k hk => (obh0.ltb k hk).1)
  have dg1_bh0 := apart_of (fun k hk => (og1.ltb k hk).2) (fun k hk => (obh0.ltb k hk).1)
  have dbg0_bh0 := apart_of (fun k hk => (obg0.ltb k hk).2) (fun k hk => (obh0.ltb k hk).1)
  have dbg1_bh0 := apart_of (fun k hk => (obg1.ltb k hk).2) (fun k hk => (obh0.ltb k hk).1)
  have dh0_bh0 := apart_of (fun k hk => (oh0.ltb k hk).2) (fun k hk => (obh0.ltb k hk).1)
  have dh1_bh0 := apart_of (fun k hk => (oh1.ltb k hk).2) (fun k hk => (obh0.ltb k hk).1)
  have oba0 := oba0.below bB (Nat.le_refl _)
  have ow0 := ow0.below bB (Nat.le_refl _)
  have ow1 := ow1.below bB (Nat.le_refl _)
  have obw0 := obw0.below bB (Nat.le_refl _)
  have obw1 := obw1.below bB (Nat.le_refl _)
  have obx0 := obx0.below bB (Nat.le_refl _)
  have og0 := og0.below bB (Nat.le_refl _)
  have og1 := og1.below bB (Nat.le_refl _)
  have obg0 := obg0.below bB (Nat.le_refl _)
  have obg1 := obg1.below bB (Nat.le_refl _)
  have oh0 := oh0.below bB (Nat.le_refl _)
  have oh1 := oh1.below bB (Nat.le_refl _)
  have B := B.trans (bB.mono B.size)
  clear bB
  generalize w24.alloc (.cells #[.bool r0.1, .slice adh0 r0.2.length cph0] 28) = w25 at *
  have hsw26 : (w25.alloc (.cells #[.bool r1.1, .slice adh1 r1.2.length cph1] 28)).heap.size = w25.heap.size + 1 := by simp
  have bB := below1 w25 (.cells #[.bool r1.1, .slice adh1 r1.2.length cph1] 28)
  have obh1 := BoxW.made w25 (.bool r1.1) (.slice adh1 r1.2.length cph1) 28
  have dba0_bh1 := apart_of (fun k hk => (oba0.ltb k hk).2) (fun k hk => (obh1.ltb k hk).1)
  have dw0_bh1 := apart_of (fun k hk => (ow0.ltb k hk).2) (fun k hk => (obh1.ltb k hk).1)
  have dw1_bh1 := apart_of (fun k hk => (ow1.ltb k hk).2) (fun k hk => (obh1.ltb k hk).1)
  have dbw0_bh1 := apart_of (fun k hk => (obw0.ltb k hk).2) (fun k hk => (obh1.ltb k hk).1)
  have dbw1_bh1 := apart_of (fun k hk => (obw1.ltb k hk).2) (fun k hk => (obh1.ltb k hk).1)
  have dbx0_bh1 := apart_of (fun k hk => (obx0.ltb k hk).2) (fun k hk => (obh1.ltb k hk).1)
  have dg0_bh1 := apart_of (fun k hk => (og0.ltb k hk).2) (fun k hk => (obh1.ltb k hk).1)
  have dg1_bh1 := apart_of (fun k hk => (og1.ltb k hk).2) (fun k hk => (obh1.ltb k hk).1)
  have dbg0_bh1 := apart_of (fun k hk => (obg0.ltb k hk).2) (fun k hk => (obh1.ltb k hk).1)
  have dbg1_bh1 := apart_of (fun k hk => (obg1.ltb k hk).2) (fun k hk => (obh1.ltb k hk).1)
  have dh0_bh1 := apart_of (fun k hk => (oh0.ltb k hk).2) (fun k hk => (obh1.ltb k hk).1)
  have dh1_bh1 := apart_of (fun k hk => (oh1.ltb k hk).2) (fun k hk => (obh1.ltb k hk).1)
  have dbh0_bh1 := apart_of (fun k hk => (obh0.ltb k hk).2) (fun k hk => (obh1.ltb k hk).1)
  rw [hsw25] at obh1
  (try rw [hsw25] at dba0_bh1)
  (try rw [hsw25] at dw0_bh1)
  (try rw [hsw25] at dw1_bh1)
  (try rw [hsw25] at dbw0_bh1)
  (try rw [hsw25] at dbw1_bh1)
  (try rw [hsw25] at dbx0_bh1)
  (try rw [hsw25] at dg0_bh1)
  (try rw [hsw25] at dg1_bh1)
  (try rw [hsw25] at dbg0_bh1)
  (try rw [hsw25] at dbg1_bh1)
  (try rw [hsw25] at dh0_bh1)
  (try rw [hsw25] at dh1_bh1)
  (try rw [hsw25] at dbh0_bh1)
  have oba0 := oba0.below bB (Nat.le_refl _)
  have ow0 := ow0.below bB (Nat.le_refl _)
  have ow1 := ow1.below bB (Nat.le_refl _)
  have obw0 := obw0.below bB (Nat.le_refl _)
  have obw1 := obw1.below bB (Nat.le_refl _)
  have obx0 := obx0.below bB (Nat.le_refl _)
  have og0 := og0.below bB (Nat.le_refl _)
  have og1 := og1.below bB (Nat.le_refl _)
  have obg0 := obg0.below bB (Nat.le_refl _)
  have obg1 := obg1.below bB (Nat.le_refl _)
  have oh0 := oh0.below bB (Nat.le_refl _)
  have oh1 := oh1.below bB (Nat.le_refl _)
  have obh0 := obh0.below bB (Nat.le_refl _)
  have B := B.trans (bB.mono B.size)
  clear bB
  generalize w25.alloc (.cells #[.bool r1.1, .slice adh1 r1.2.length cph1] 28) = w26 at *
  refine (eqW' _ _ _ _ _ w26 (by omega) oh0 ow0).mono ?_
  rintro e w27 ⟨rfl, bw27⟩
  have oba0 := oba0.below bw27 (Nat.le_refl _)
  have ow0 := ow0.below bw27 (Nat.le_refl _)
  have ow1 := ow1.below bw27 (Nat.le_refl _)
  have obw0 := obw0.below bw27 (Nat.le_refl _)
  have obw1 := obw1.below bw27 (Nat.le_refl _)
  have obx0 := obx0.below bw27 (Nat.le_refl _)
  have og0 := og0.below bw27 (Nat.le_refl _)
  have og1 := og1.below bw27 (Nat.le_refl _)
  have obg0 := obg0.below bw27 (Nat.le_refl _)
  have obg1 := obg1.below bw27 (Nat.le_refl _)
  have oh0 := oh0.below bw27 (Nat.le_refl _)
  have oh1 := oh1.below bw27 (Nat.le_refl _)
  have obh0 := obh0.below bw27 (Nat.le_refl _)
  have obh1 := obh1.below bw27 (Nat.le_refl _)
  have B := B.trans (bw27.mono B.size)
  clear bw27
  have cba00 := oba0.c0
  have cba01 := oba0.c1
  have cba02 := oba0.c2
  have cba03 := oba0.c3
  have hba0 := oba0.hi
  have cbw00 := obw0.c0
  have cbw01 := obw0.c1
  have hbw0 := obw0.hi
  have cbw10 := obw1.c0
  have cbw11 := obw1.c1
  have hbw1 := obw1.hi
  have cbx00 := obx0.c0
  have cbx01 := obx0.c1
  have cbx02 := obx0.c2
  have cbx03 := obx0.c3
  have hbx0 := obx0.hi
  have cbg00 := obg0.c0
  have cbg01 := obg0.c1
  have hbg0 := obg0.hi
  have cbg10 := obg1.c0
  have cbg11 := obg1.c1
  have hbg1 := obg1.hi
  have cbh00 := obh0.c0
  have cbh01 := obh0.c1
  have hbh0 := obh0.hi
  have cbh10 := obh1.c0
  have cbh11 := obh1.c1
  have hbh1 := obh1.hi
  go_wp2_with fail
  clear cba00 cba01 cba02 cba03 hba0
  clear cbw00 cbw01 hbw0
  clear cbw10 cbw11 hbw1
  clear cbx00 cbx01 cbx02 cbx03 hbx0
  clear cbg00 cbg01 hbg0
  clear cbg10 cbg11 hbg1
  clear cbh00 cbh01 hbh0
  clear cbh10 cbh11 hbh1
  refine (eqW' _ _ _ _ _ w27 (by omega) oh1 ow1).mono ?_
  rintro e w28 ⟨rfl, bw28⟩
  have oba0 := oba0.below bw28 (Nat.le_refl _)
  have ow0 := ow0.below bw28 (Nat.le_refl _)
  have ow1 := ow1.below bw28 (Nat.le_refl _)
  have obw0 := obw0.below bw28 (Nat.le_refl _)
  have obw1 := obw1.below bw28 (Nat.le_refl _)
  have obx0 := obx0.below bw28 (Nat.le_refl _)
  have og0 := og0.below bw28 (Nat.le_refl _)
  have og1 := og1.below bw28 (Nat.le_refl _)
  have obg0 := obg0.below bw28 (Nat.le_refl _)
  have obg1 := obg1.below bw28 (Nat.le_refl _)
  have oh0 := oh0.below bw28 (Nat.le_refl _)
  have oh1 := oh1.below bw28 (Nat.le_refl _)
  have obh0 := obh0.below bw28 (Nat.le_refl _)
  have obh1 := obh1.below bw28 (Nat.le_refl _)
  have B := B.trans (bw28.mono B.size)
  clear bw28
  have cba00 := oba0.c0
  have cba01 := oba0.c1
  have cba02 := oba0.c2
  have cba03 := oba0.c3
  have hba0 := oba0.hi
  have cbw00 := obw0.c0
  have cbw01 := obw0.c1
  have hbw0 := obw0.hi
  have cbw10 := obw1.c0
  have cbw11 := obw1.c1
  have hbw1 := obw1.hi
  have cbx00 := obx0.c0
  have cbx01 := obx0.c1
  have cbx02 := obx0.c2
  have cbx03 := obx0.c3
  have hbx0 := obx0.hi
  have cbg00 := obg0.c0
  have cbg01 := obg0.c1
  have hbg0 := obg0.hi
  have cbg10 := obg1.c0
  have cbg11 := obg1.c1
  have hbg1 := obg1.hi
  have cbh00 := obh0.c0
  have cbh01 := obh0.c1
  have hbh0 := obh0.hi
  have cbh10 := obh1.c0
  have cbh11 := obh1.c1
  have hbh1 := obh1.hi
  go_wp2_with fail
  clear cba00 cba01 cba02 cba03 hba0
  clear cbw00 cbw01 hbw0
  clear cbw10 cbw11 hbw1
  clear cbx00 cbx01 cbx02 cbx03 hbx0
  clear cbg00 cbg01 hbg0
  clear cbg10 cbg11 hbg1
  clear cbh00 cbh01 hbh0
  clear cbh10 cbh11 hbh1
  refine (heldW _ _ r0.1 (1) r0.2.length w28 (by omega) (by omega) (by omega) og0).mono ?_
  rintro e w29 ⟨rfl, bw29⟩
  have oba0 := oba0.below bw29 (Nat.le_refl _)
  have ow0 := ow0.below bw29 (Nat.le_refl _)
  have ow1 := ow1.below bw29 (Nat.le_refl _)
  have obw0 := obw0.below bw29 (Nat.le_refl _)
  have obw1 := obw1.below bw29 (Nat.le_refl _)
  have obx0 := obx0.below bw29 (Nat.le_refl _)
  have og0 := og0.below bw29 (Nat.le_refl _)
  have og1 := og1.below bw29 (Nat.le_refl _)
  have obg0 := obg0.below bw29 (Nat.le_refl _)
  have obg1 := obg1.below bw29 (Nat.le_refl _)
  have oh0 := oh0.below bw29 (Nat.le_refl _)
  have oh1 := oh1.below bw29 (Nat.le_refl _)
  have obh0 := obh0.below bw29 (Nat.le_refl _)
  have obh1 := obh1.below bw29 (Nat.le_refl _)
  have B := B.trans (bw29.mono B.size)
  clear bw29
  have cba00 := oba0.c0
  have cba01 := oba0.c1
  have cba02 := oba0.c2
  have cba03 := oba0.c3
  have hba0 := oba0.hi
  have cbw00 := obw0.c0
  have cbw01 := obw0.c1
  have hbw0 := obw0.hi
  have cbw10 := obw1.c0
  have cbw11 := obw1.c1
  have hbw1 := obw1.hi
  have cbx00 := obx0.c0
  have cbx01 := obx0.c1
  have cbx02 := obx0.c2
  have cbx03 := obx0.c3
  have hbx0 := obx0.hi
  have cbg00 := obg0.c0
  have cbg01 := obg0.c1
  have hbg0 := obg0.hi
  have cbg10 := obg1.c0
  have cbg11 := obg1.c1
  have hbg1 := obg1.hi
  have cbh00 := obh0.c0
  have cbh01 := obh0.c1
  have hbh0 := obh0.hi
  have cbh10 := obh1.c0
  have cbh11 := obh1.c1
  have hbh1 := obh1.hi
  go_wp2_with fail
  clear cba00 cba01 cba02 cba03 hba0
  clear cbw00 cbw01 hbw0
  clear cbw10 cbw11 hbw1
  clear cbx00 cbx01 cbx02 cbx03 hbx0
  clear cbg00 cbg01 hbg0
  clear cbg10 cbg11 hbg1
  clear cbh00 cbh01 hbh0
  clear cbh10 cbh11 hbh1
  refine (heldW _ _ r1.1 (1 + r0.2.length) r1.2.length w29 (by omega) (by omega) (by omega) og1).mono ?_
  rintro e w30 ⟨rfl, bw30⟩
  have oba0 := oba0.below bw30 (Nat.le_refl _)
  have ow0 := ow0.below bw30 (Nat.le_refl _)
  have ow1 := ow1.below bw30 (Nat.le_refl _)
  have obw0 := obw0.below bw30 (Nat.le_refl _)
  have obw1 := obw1.below bw30 (Nat.le_refl _)
  have obx0 := obx0.below bw30 (Nat.le_refl _)
  have og0 := og0.below bw30 (Nat.le_refl _)
  have og1 := og1.below bw30 (Nat.le_refl _)
  have obg0 := obg0.below bw30 (Nat.le_refl _)
  have obg1 := obg1.below bw30 (Nat.le_refl _)
  have oh0 := oh0.below bw30 (Nat.le_refl _)
  have oh1 := oh1.below bw30 (Nat.le_refl _)
  have obh0 := obh0.below bw30 (Nat.le_refl _)
  have obh1 := obh1.below bw30 (Nat.le_refl _)
  have B := B.trans (bw30.mono B.size)
  clear bw30
  have cba00 := oba0.c0
  have cba01 := oba0.c1
  have cba02 := oba0.c2
  have cba03 := oba0.c3
  have hba0 := oba0.hi
  have cbw00 := obw0.c0
  have cbw01 := obw0.c1
  have hbw0 := obw0.hi
  have cbw10 := obw1.c0
  have cbw11 := obw1.c1
  have hbw1 := obw1.hi
  have cbx00 := obx0.c0
  have cbx01 := obx0.c1
  have cbx02 := obx0.c2
  have cbx03 := obx0.c3
  have hbx0 := obx0.hi
  have cbg00 := obg0.c0
  have cbg01 := obg0.c1
  have hbg0 := obg0.hi
  have cbg10 := obg1.c0
  have cbg11 := obg1.c1
  have hbg1 := obg1.hi
  have cbh00 := obh0.c0
  have cbh01 := obh0.c1
  have hbh0 := obh0.hi
  have cbh10 := obh1.c0
  have cbh11 := obh1.c1
  have hbh1 := obh1.hi
  go_wp2
  go_ret
  exact ⟨rfl, B⟩

set_option maxHeartbeats 1600000 in
theorem walkNear (g0 : Bool) (a0 : Option Addr) (n0 c0 : Nat) (zs0 : List Int) (gg0 : Bool) (aa0 : Option Addr) (nn0 cc0 : Nat) (zz0 : List Int) (k1 : Int) (k2 : Int) (w : World) (hr0 : IsRow .i64 w a0 n0 c0 zs0) (hh0 : IsRow .i64 w aa0 nn0 cc0 zz0) (hk1 : -9223372036854775808 ≤ k1 ∧ k1 ≤ 9223372036854775807) (hk2 : -9223372036854775808 ≤ k2 ∧ k2 ≤ 9223372036854775807) (hR : (nearR ((g0, zs0.take n0), (gg0, zz0.take nn0)) k1 k2).1.2.length ≤ 1048576 ∧ (nearR ((g0, zs0.take n0), (gg0, zz0.take nn0)) k1 k2).2.2.length ≤ 1048576)
    (hS : ∀ (va0 : Value) (xs0 : Vh) (k1 : Int) (k2 : Int) (W : World), rowV W va0 xs0 → xs0.1.2.length ≤ 1048576 → xs0.2.2.length ≤ 1048576 → -9223372036854775808 ≤ k1 → k1 ≤ 9223372036854775807 → -9223372036854775808 ≤ k2 → k2 ≤ 9223372036854775807 → Calls Try.prog 14 #[va0, .int .i64 k1, .int .i64 k2] W (fun e w' => ∃ v0 v1, e = .returned (.tuple #[v0, v1]) ∧ ownsW w' W.heap.size v0 (nearR xs0 k1 k2).1 ∧ ownsW w' W.heap.size v1 (nearR xs0 k1 k2).2 ∧ Apart (blkW v0) (blkW v1) ∧ Below W.heap.size W w'))
    (hI : ∀ (va0 : Value) (xs0 : Vh) (k1 : Int) (k2 : Int) (W : World), rowV W va0 xs0 → xs0.1.2.length ≤ 1048576 → xs0.2.2.length ≤ 1048576 → -9223372036854775808 ≤ k1 → k1 ≤ 9223372036854775807 → -9223372036854775808 ≤ k2 → k2 ≤ 9223372036854775807 → Calls Try.prog 15 #[va0, .int .i64 k1, .int .i64 k2] W (fun e w' => ∃ v0 v1, e = .returned (.tuple #[v0, v1]) ∧ ownsW w' W.heap.size v0 (nearR xs0 k1 k2).1 ∧ ownsW w' W.heap.size v1 (nearR xs0 k1 k2).2 ∧ Apart (blkW v0) (blkW v1) ∧ Below W.heap.size W w')) :
    Calls Try.prog 4 #[.agg #[.bool g0, .slice a0 n0 c0, .bool gg0, .slice aa0 nn0 cc0], .int .i64 k1, .int .i64 k2] w fun e w' => e = .returned (.bool true) ∧ Below w.heap.size w w' := by
  by_cases h0 : n0 + nn0 ≤ 1048576
  · skip
    exact walkNear_in g0 a0 n0 c0 zs0 gg0 aa0 nn0 cc0 zz0 k1 k2 w  (by omega) hr0 hh0 hk1 hk2 hR hS hI
  · have hL0 := And.intro hr0.len_le hh0.len_le
    clear hS hI
    have B := Below.refl w.heap.size w
    go_enter Try.func4, Try.ntmps4
    go_wp2_with fail
    have hsw1 : (w.alloc (.cells #[.bool g0, .slice a0 n0 c0, .bool gg0, .slice aa0 nn0 cc0] 26)).heap.size = w.heap.size + 1 := by simp
    have bB := below1 w (.cells #[.bool g0, .slice a0 n0 c0, .bool gg0, .slice aa0 nn0 cc0] 26)
    have oba0 := BoxV.made w (.bool g0) (.slice a0 n0 c0) (.bool gg0) (.slice aa0 nn0 cc0) 26
    have B := B.trans (bB.mono B.size)
    clear bB
    generalize w.alloc (.cells #[.bool g0, .slice a0 n0 c0, .bool gg0, .slice aa0 nn0 cc0] 26) = w1 at *
    refine (szV_no g0 a0 n0 c0 gg0 aa0 nn0 cc0 ((1048576 : Int)) w1 (by omega) (by omega) hL0.1 hL0.2 (by omega)).mono ?_
    rintro e w2 ⟨rfl, bw2⟩
    have oba0 := oba0.below bw2 (Nat.le_refl _)
    have B := B.trans (bw2.mono B.size)
    clear bw2
    have cba00 := oba0.c0
    have cba01 := oba0.c1
    have cba02 := oba0.c2
    have cba03 := oba0.c3
    have hba0 := oba0.hi
    go_wp2
    go_ret
    exact ⟨rfl, B⟩

end Go.Proofs.Ytdpcobcaodlgiaa
