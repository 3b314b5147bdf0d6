/- The law FnExactSpinStep: its walk, out of the two contracts (written by genlaw.py from the signature VII>VB). -/
import Derived.Test.YtkbnfillbdjboaaBase
import Derived.Test.YtkbnfillbdjboaaPB
import Derived.Deep.RegionHeld
import Derived.Test.YtkbnfillbdjboaaSpStepM
namespace Go.Proofs.Ytkbnfillbdjboaa
open Go.RowKit

set_option maxHeartbeats 3200000 in
theorem walkSpinStep_in (g0 : Bool) (a0 : Option Addr) (n0 c0 : Nat) (zs0 : List Int) (gg0 : Bool) (aa0 : Option Addr) (nn0 cc0 : Nat) (zz0 : List Int) (kk0 : Int) (k1 : Int) (k2 : Int) (w : World) (hsum : n0 + nn0 ≤ 1048576) (hr0 : IsRow .i64 w a0 n0 c0 zs0) (hh0 : IsRow .i64 w aa0 nn0 cc0 zz0) (hk1 : -9223372036854775808 ≤ k1 ∧ k1 ≤ 9223372036854775807) (hk2 : -9223372036854775808 ≤ k2 ∧ k2 ≤ 9223372036854775807) (hR : (stepR (((g0, zs0.take n0), (gg0, zz0.take nn0)), kk0) k1 k2).1.1.1.2.length ≤ 1048576 ∧ (stepR (((g0, zs0.take n0), (gg0, zz0.take nn0)), kk0) k1 k2).1.1.2.2.length ≤ 1048576)
    (hS : ∀ (va0 : Value) (xs0 : Ph) (k1 : Int) (k2 : Int) (W : World), rowP W va0 xs0 → xs0.1.1.2.length ≤ 1048576 → xs0.1.2.2.length ≤ 1048576 → -9223372036854775808 ≤ k1 → k1 ≤ 9223372036854775807 → -9223372036854775808 ≤ k2 → k2 ≤ 9223372036854775807 → Calls Try.prog 8 #[va0, .int .i64 k1, .int .i64 k2] W (fun e w' => ∃ v0, e = .returned (.tuple #[v0, .bool (stepR xs0 k1 k2).2]) ∧ ownsP w' W.heap.size v0 (stepR xs0 k1 k2).1 ∧ Below W.heap.size W w'))
    (hI : ∀ (va0 : Value) (xs0 : Ph) (k1 : Int) (k2 : Int) (W : World), rowP W va0 xs0 → xs0.1.1.2.length ≤ 1048576 → xs0.1.2.2.length ≤ 1048576 → -9223372036854775808 ≤ k1 → k1 ≤ 9223372036854775807 → -9223372036854775808 ≤ k2 → k2 ≤ 9223372036854775807 → Calls Try.prog 10 #[va0, .int .i64 k1, .int .i64 k2] W (fun e w' => ∃ v0, e = .returned (.tuple #[v0, .bool (stepR xs0 k1 k2).2]) ∧ ownsP w' W.heap.size v0 (stepR xs0 k1 k2).1 ∧ Below W.heap.size W w')) :
    Calls Try.prog 3 #[.agg #[.bool g0, .slice a0 n0 c0, .bool gg0, .slice aa0 nn0 cc0, .int .i64 kk0], .int .i64 k1, .int .i64 k2] w fun e w' => e = .returned (.bool true) ∧ Below w.heap.size w w' := by
  have h0' : ¬ ((1048576 : Int) - (n0 : Int) - (nn0 : Int) < 0) := by omega
  have T0 : ∀ W : World, IsRow .i64 W a0 n0 c0 zs0 → IsRow .i64 W aa0 nn0 cc0 zz0 → Calls Try.prog 9 #[.agg #[.bool g0, .slice a0 n0 c0, .bool gg0, .slice aa0 nn0 cc0, .int .i64 kk0]] W fun e w' => ∃ v, e = .returned v ∧ ownsP w' W.heap.size v (((g0, zs0.take n0), (gg0, zz0.take nn0)), kk0) ∧ Below W.heap.size W w' := fun W h h' => toP g0 a0 n0 c0 zs0 gg0 aa0 nn0 cc0 zz0 kk0 W (by omega) (by omega) h h'
  have l0 : ((((g0, zs0.take n0), (gg0, zz0.take nn0)), kk0) : Ph).1.1.2.length ≤ 1048576 ∧ ((((g0, zs0.take n0), (gg0, zz0.take nn0)), kk0) : Ph).1.2.2.length ≤ 1048576 := by show (zs0.take n0).length ≤ 1048576 ∧ (zz0.take nn0).length ≤ 1048576; rw [List.length_take, List.length_take]; omega
  obtain ⟨xs0, hxs0⟩ : ∃ xs : Ph, (((g0, zs0.take n0), (gg0, zz0.take nn0)), kk0) = xs := ⟨_, rfl⟩
  rw [hxs0] at T0 l0 hR
  clear hxs0
  have S := fun va0 W q0 => hS va0 xs0 k1 k2 W q0 l0.1 l0.2 hk1.1 hk1.2 hk2.1 hk2.2
  have I := fun va0 W q0 => hI va0 xs0 k1 k2 W q0 l0.1 l0.2 hk1.1 hk1.2 hk2.1 hk2.2
  obtain ⟨r0, r1, hr⟩ : ∃ r0 r1, stepR xs0 k1 k2 = (r0, r1) := ⟨_, _, rfl⟩
  simp only [hr] at S I hR
  clear hS hI hr
  have eb1 : (r1 != r1) = false := by simp
  have B := Below.refl w.heap.size w
  go_enter Try.func3, Try.ntmps3
  go_wp2_with fail
  have hsw1 : (w.alloc (.cells #[.bool g0, .slice a0 n0 c0, .bool gg0, .slice aa0 nn0 cc0, .int .i64 kk0] 26)).heap.size = w.heap.size + 1 := by simp
  have bB := below1 w (.cells #[.bool g0, .slice a0 n0 c0, .bool gg0, .slice aa0 nn0 cc0, .int .i64 kk0] 26)
  have oba0 := Bx5.made w (.bool g0) (.slice a0 n0 c0) (.bool gg0) (.slice aa0 nn0 cc0) (.int .i64 kk0) 26
  have B := B.trans (bB.mono B.size)
  clear bB
  generalize w.alloc (.cells #[.bool g0, .slice a0 n0 c0, .bool gg0, .slice aa0 nn0 cc0, .int .i64 kk0] 26) = w1 at *
  refine (szP_yes g0 a0 n0 c0 gg0 aa0 nn0 cc0 kk0 ((1048576 : Int)) w1 (by omega) (by omega)).mono ?_
  rintro e w2 ⟨rfl, bw2⟩
  have oba0 := oba0.below bw2 (Nat.le_refl _)
  have B := B.trans (bw2.mono B.size)
  clear bw2
  -- the specification's answer
  have cba00 := oba0.c0
  have cba01 := oba0.c1
  have cba02 := oba0.c2
  have cba03 := oba0.c3
  have cba04 := oba0.c4
  have hba0 := oba0.hi
  go_wp2_with fail
  clear cba00 cba01 cba02 cba03 cba04 hba0
  refine (T0 w2 (hr0.below B) (hh0.below B)).mono ?_
  rintro e w3 ⟨vs0, rfl, os0, bw3⟩
  have oba0 := oba0.below bw3 (Nat.le_refl _)
  have B := B.trans (bw3.mono B.size)
  clear bw3
  have cba00 := oba0.c0
  have cba01 := oba0.c1
  have cba02 := oba0.c2
  have cba03 := oba0.c3
  have cba04 := oba0.c4
  have hba0 := oba0.hi
  go_wp2_with fail
  clear cba00 cba01 cba02 cba03 cba04 hba0
  refine (S _ w3 os0.row).mono ?_
  rintro e w4 ⟨vw0, rfl, ow0, bw4⟩
  have dba0_w0 := apart_of (fun k hk => (oba0.ltb k hk).2) (fun k hk => (ow0.ltb k hk).1)
  have ds0_w0 := apart_of (fun k hk => (os0.ltb k hk).2) (fun k hk => (ow0.ltb k hk).1)
  have mw0 : ∀ k ∈ blkP vw0, w.heap.size ≤ k := fun k hk => Nat.le_trans B.size (ow0.ltb k hk).1
  obtain ⟨sw0, tw0, rfl, hqw0, hpw0, -⟩ := id ow0
  obtain ⟨adw0, cpw0, rfl, -⟩ := hqw0.row
  obtain ⟨aew0, cqw0, rfl, -⟩ := hpw0.row
  clear hqw0 hpw0
  have oba0 := oba0.below bw4 (Nat.le_refl _)
  have os0 := os0.below bw4 (Nat.le_refl _)
  have B := B.trans (bw4.mono B.size)
  clear bw4
  clear os0
  -- the arguments, copied; the program's answer
  have cba00 := oba0.c0
  have cba01 := oba0.c1
  have cba02 := oba0.c2
  have cba03 := oba0.c3
  have cba04 := oba0.c4
  have hba0 := oba0.hi
  have eba0 := oba0.below (below1 w4 (.cells #[.bool r0.1.1.1, .slice adw0 r0.1.1.2.length cpw0, .bool r0.1.2.1, .slice aew0 r0.1.2.2.length cqw0, .int .i64 r0.2] 30)) (Nat.le_refl _)
  have eba00 := eba0.c0
  have eba01 := eba0.c1
  have eba02 := eba0.c2
  have eba03 := eba0.c3
  have eba04 := eba0.c4
  go_wp2_with fail
  clear cba00 cba01 cba02 cba03 cba04 hba0
  clear eba0 eba00 eba01 eba02 eba03 eba04
  have hsw5 : (w4.alloc (.cells #[.bool r0.1.1.1, .slice adw0 r0.1.1.2.length cpw0, .bool r0.1.2.1, .slice aew0 r0.1.2.2.length cqw0, .int .i64 r0.2] 30)).heap.size = w4.heap.size + 1 := by simp
  have bB := below1 w4 (.cells #[.bool r0.1.1.1, .slice adw0 r0.1.1.2.length cpw0, .bool r0.1.2.1, .slice aew0 r0.1.2.2.length cqw0, .int .i64 r0.2] 30)
  have obw0 := Bx5.made w4 (.bool r0.1.1.1) (.slice adw0 r0.1.1.2.length cpw0) (.bool r0.1.2.1) (.slice aew0 r0.1.2.2.length cqw0) (.int .i64 r0.2) 30
  have dba0_bw0 := apart_of (fun k hk => (oba0.ltb k hk).2) (fun k hk => (obw0.ltb k hk).1)
  have dw0_bw0 := apart_of (fun k hk => (ow0.ltb k hk).2) (fun k hk => (obw0.ltb k hk).1)
  have oba0 := oba0.below bB (Nat.le_refl _)
  have ow0 := ow0.below bB (Nat.le_refl _)
  have B := B.trans (bB.mono B.size)
  clear bB
  generalize w4.alloc (.cells #[.bool r0.1.1.1, .slice adw0 r0.1.1.2.length cpw0, .bool r0.1.2.1, .slice aew0 r0.1.2.2.length cqw0, .int .i64 r0.2] 30) = w5 at *
  refine (T0 w5 (hr0.below B) (hh0.below B)).mono ?_
  rintro e w6 ⟨vx0, rfl, ox0, bw6⟩
  have dba0_x0 := apart_of (fun k hk => (oba0.ltb k hk).2) (fun k hk => (ox0.ltb k hk).1)
  have dw0_x0 := apart_of (fun k hk => (ow0.ltb k hk).2) (fun k hk => (ox0.ltb k hk).1)
  have dbw0_x0 := apart_of (fun k hk => (obw0.ltb k hk).2) (fun k hk => (ox0.ltb k hk).1)
  have mx0 : ∀ k ∈ blkP vx0, w.heap.size ≤ k := fun k hk => Nat.le_trans B.size (ox0.ltb k hk).1
  obtain ⟨sx0, tx0, rfl, hqx0, hpx0, -⟩ := id ox0
  obtain ⟨adx0, cpx0, rfl, -⟩ := hqx0.row
  obtain ⟨aex0, cqx0, rfl, -⟩ := hpx0.row
  clear hqx0 hpx0
  have oba0 := oba0.below bw6 (Nat.le_refl _)
  have ow0 := ow0.below bw6 (Nat.le_refl _)
  have obw0 := obw0.below bw6 (Nat.le_refl _)
  have B := B.trans (bw6.mono B.size)
  clear bw6
  have cba00 := oba0.c0
  have cba01 := oba0.c1
  have cba02 := oba0.c2
  have cba03 := oba0.c3
  have cba04 := oba0.c4
  have hba0 := oba0.hi
  have cbw00 := obw0.c0
  have cbw01 := obw0.c1
  have cbw02 := obw0.c2
  have cbw03 := obw0.c3
  have cbw04 := obw0.c4
  have hbw0 := obw0.hi
  have eba0 := oba0.below (below1 w6 (.cells #[.bool xs0.1.1.1, .slice adx0 xs0.1.1.2.length cpx0, .bool xs0.1.2.1, .slice aex0 xs0.1.2.2.length cqx0, .int .i64 xs0.2] 30)) (Nat.le_refl _)
  have eba00 := eba0.c0
  have eba01 := eba0.c1
  have eba02 := eba0.c2
  have eba03 := eba0.c3
  have eba04 := eba0.c4
  have ebw0 := obw0.below (below1 w6 (.cells #[.bool xs0.1.1.1, .slice adx0 xs0.1.1.2.length cpx0, .bool xs0.1.2.1, .slice aex0 xs0.1.2.2.length cqx0, .int .i64 xs0.2] 30)) (Nat.le_refl _)
  have ebw00 := ebw0.c0
  have ebw01 := ebw0.c1
  have ebw02 := ebw0.c2
  have ebw03 := ebw0.c3
  have ebw04 := ebw0.c4
  go_wp2_with fail
  clear cba00 cba01 cba02 cba03 cba04 hba0
  clear cbw00 cbw01 cbw02 cbw03 cbw04 hbw0
  clear eba0 eba00 eba01 eba02 eba03 eba04
  clear ebw0 ebw00 ebw01 ebw02 ebw03 ebw04
  have hsw7 : (w6.alloc (.cells #[.bool xs0.1.1.1, .slice adx0 xs0.1.1.2.length cpx0, .bool xs0.1.2.1, .slice aex0 xs0.1.2.2.length cqx0, .int .i64 xs0.2] 30)).heap.size = w6.heap.size + 1 := by simp
  have bB := below1 w6 (.cells #[.bool xs0.1.1.1, .slice adx0 xs0.1.1.2.length cpx0, .bool xs0.1.2.1, .slice aex0 xs0.1.2.2.length cqx0, .int .i64 xs0.2] 30)
  have obx0 := Bx5.made w6 (.bool xs0.1.1.1) (.slice adx0 xs0.1.1.2.length cpx0) (.bool xs0.1.2.1) (.slice aex0 xs0.1.2.2.length cqx0) (.int .i64 xs0.2) 30
  have dba0_bx0 := apart_of (fun k hk => (oba0.ltb k hk).2) (fun k hk => (obx0.ltb k hk).1)
  have dw0_bx0 := apart_of (fun k hk => (ow0.ltb k hk).2) (fun k hk => (obx0.ltb k hk).1)
  have dbw0_bx0 := apart_of (fun k hk => (obw0.ltb k hk).2) (fun k hk => (obx0.ltb k hk).1)
  have dx0_bx0 := apart_of (fun k hk => (ox0.ltb k hk).2) (fun k hk => (obx0.ltb k hk).1)
  have oba0 := oba0.below bB (Nat.le_refl _)
  have ow0 := ow0.below bB (Nat.le_refl _)
  have obw0 := obw0.below bB (Nat.le_refl _)
  have ox0 := ox0.below bB (Nat.le_refl _)
  have B := B.trans (bB.mono B.size)
  clear bB
  generalize w6.alloc (.cells #[.bool xs0.1.1.1, .slice adx0 xs0.1.1.2.length cpx0, .bool xs0.1.2.1, .slice aex0 xs0.1.2.2.length cqx0, .int .i64 xs0.2] 30) = w7 at *
  refine (I _ w7 ox0.row).mono ?_
  rintro e w8 ⟨vg0, rfl, og0, bw8⟩
  have dba0_g0 := apart_of (fun k hk => (oba0.ltb k hk).2) (fun k hk => (og0.ltb k hk).1)
  have dw0_g0 := apart_of (fun k hk => (ow0.ltb k hk).2) (fun k hk => (og0.ltb k hk).1)
  have dbw0_g0 := apart_of (fun k hk => (obw0.ltb k hk).2) (fun k hk => (og0.ltb k hk).1)
  have dx0_g0 := apart_of (fun k hk => (ox0.ltb k hk).2) (fun k hk => (og0.ltb k hk).1)
  have dbx0_g0 := apart_of (fun k hk => (obx0.ltb k hk).2) (fun k hk => (og0.ltb k hk).1)
  have mg0 : ∀ k ∈ blkP vg0, w.heap.size ≤ k := fun k hk => Nat.le_trans B.size (og0.ltb k hk).1
  obtain ⟨sg0, tg0, rfl, hqg0, hpg0, -⟩ := id og0
  obtain ⟨adg0, cpg0, rfl, -⟩ := hqg0.row
  obtain ⟨aeg0, cqg0, rfl, -⟩ := hpg0.row
  clear hqg0 hpg0
  have oba0 := oba0.below bw8 (Nat.le_refl _)
  have ow0 := ow0.below bw8 (Nat.le_refl _)
  have obw0 := obw0.below bw8 (Nat.le_refl _)
  have ox0 := ox0.below bw8 (Nat.le_refl _)
  have obx0 := obx0.below bw8 (Nat.le_refl _)
  have B := B.trans (bw8.mono B.size)
  clear bw8
  have cba00 := oba0.c0
  have cba01 := oba0.c1
  have cba02 := oba0.c2
  have cba03 := oba0.c3
  have cba04 := oba0.c4
  have hba0 := oba0.hi
  have cbw00 := obw0.c0
  have cbw01 := obw0.c1
  have cbw02 := obw0.c2
  have cbw03 := obw0.c3
  have cbw04 := obw0.c4
  have hbw0 := obw0.hi
  have cbx00 := obx0.c0
  have cbx01 := obx0.c1
  have cbx02 := obx0.c2
  have cbx03 := obx0.c3
  have cbx04 := obx0.c4
  have hbx0 := obx0.hi
  have eba0 := oba0.below (below1 w8 (.cells #[.bool r0.1.1.1, .slice adg0 r0.1.1.2.length cpg0, .bool r0.1.2.1, .slice aeg0 r0.1.2.2.length cqg0, .int .i64 r0.2] 30)) (Nat.le_refl _)
  have eba00 := eba0.c0
  have eba01 := eba0.c1
  have eba02 := eba0.c2
  have eba03 := eba0.c3
  have eba04 := eba0.c4
  have ebw0 := obw0.below (below1 w8 (.cells #[.bool r0.1.1.1, .slice adg0 r0.1.1.2.length cpg0, .bool r0.1.2.1, .slice aeg0 r0.1.2.2.length cqg0, .int .i64 r0.2] 30)) (Nat.le_refl _)
  have ebw00 := ebw0.c0
  have ebw01 := ebw0.c1
  have ebw02 := ebw0.c2
  have ebw03 := ebw0.c3
  have ebw04 := ebw0.c4
  have ebx0 := obx0.below (below1 w8 (.cells #[.bool r0.1.1.1, .slice adg0 r0.1.1.2.length cpg0, .bool r0.1.2.1, .slice aeg0 r0.1.2.2.length cqg0, .int .i64 r0.2] 30)) (Nat.le_refl _)
  have ebx00 := ebx0.c0
  have ebx01 := ebx0.c1
  have ebx02 := ebx0.c2
  have ebx03 := ebx0.c3
  have ebx04 := ebx0.c4
  go_wp2_with fail
  clear cba00 cba01 cba02 cba03 cba04 hba0
  clear cbw00 cbw01 cbw02 cbw03 cbw04 hbw0
  clear cbx00 cbx01 cbx02 cbx03 cbx04 hbx0
  clear eba0 eba00 eba01 eba02 eba03 eba04
  clear ebw0 ebw00 ebw01 ebw02 ebw03 ebw04
  clear ebx0 ebx00 ebx01 ebx02 ebx03 ebx04
  have hsw9 : (w8.alloc (.cells #[.bool r0.1.1.1, .slice adg0 r0.1.1.2.length cpg0, .bool r0.1.2.1, .slice aeg0 r0.1.2.2.length cqg0, .int .i64 r0.2] 30)).heap.size = w8.heap.size + 1 := by simp
  have bB := below1 w8 (.cells #[.bool r0.1.1.1, .slice adg0 r0.1.1.2.length cpg0, .bool r0.1.2.1, .slice aeg0 r0.1.2.2.length cqg0, .int .i64 r0.2] 30)
  have obg0 := Bx5.made w8 (.bool r0.1.1.1) (.slice adg0 r0.1.1.2.length cpg0) (.bool r0.1.2.1) (.slice aeg0 r0.1.2.2.length cqg0) (.int .i64 r0.2) 30
  have dba0_bg0 := apart_of (fun k hk => (oba0.ltb k hk).2) (fun k hk => (obg0.ltb k hk).1)
  have dw0_bg0 := apart_of (fun k hk => (ow0.ltb k hk).2) (fun k hk => (obg0.ltb k hk).1)
  have dbw0_bg0 := apart_of (fun k hk => (obw0.ltb k hk).2) (fun k hk => (obg0.ltb k hk).1)
  have dx0_bg0 := apart_of (fun k hk => (ox0.ltb k hk).2) (fun k hk => (obg0.ltb k hk).1)
  have dbx0_bg0 := apart_of (fun k hk => (obx0.ltb k hk).2) (fun k hk => (obg0.ltb k hk).1)
  have dg0_bg0 := apart_of (fun k hk => (og0.ltb k hk).2) (fun k hk => (obg0.ltb k hk).1)
  have oba0 := oba0.below bB (Nat.le_refl _)
  have ow0 := ow0.below bB (Nat.le_refl _)
  have obw0 := obw0.below bB (Nat.le_refl _)
  have ox0 := ox0.below bB (Nat.le_refl _)
  have obx0 := obx0.below bB (Nat.le_refl _)
  have og0 := og0.below bB (Nat.le_refl _)
  have B := B.trans (bB.mono B.size)
  clear bB
  generalize w8.alloc (.cells #[.bool r0.1.1.1, .slice adg0 r0.1.1.2.length cpg0, .bool r0.1.2.1, .slice aeg0 r0.1.2.2.length cqg0, .int .i64 r0.2] 30) = w9 at *
  refine (eqP' _ _ _ _ _ w9 (by omega) og0 ow0).mono ?_
  rintro e w10 ⟨rfl, bw10⟩
  have oba0 := oba0.below bw10 (Nat.le_refl _)
  have ow0 := ow0.below bw10 (Nat.le_refl _)
  have obw0 := obw0.below bw10 (Nat.le_refl _)
  have ox0 := ox0.below bw10 (Nat.le_refl _)
  have obx0 := obx0.below bw10 (Nat.le_refl _)
  have og0 := og0.below bw10 (Nat.le_refl _)
  have obg0 := obg0.below bw10 (Nat.le_refl _)
  have B := B.trans (bw10.mono B.size)
  clear bw10
  -- the copies are as they were
  have bB := (Below.refl w10.heap.size w10).drew
  have cba00 := oba0.c0
  have cba01 := oba0.c1
  have cba02 := oba0.c2
  have cba03 := oba0.c3
  have cba04 := oba0.c4
  have hba0 := oba0.hi
  have cbw00 := obw0.c0
  have cbw01 := obw0.c1
  have cbw02 := obw0.c2
  have cbw03 := obw0.c3
  have cbw04 := obw0.c4
  have hbw0 := obw0.hi
  have cbx00 := obx0.c0
  have cbx01 := obx0.c1
  have cbx02 := obx0.c2
  have cbx03 := obx0.c3
  have cbx04 := obx0.c4
  have hbx0 := obx0.hi
  have cbg00 := obg0.c0
  have cbg01 := obg0.c1
  have cbg02 := obg0.c2
  have cbg03 := obg0.c3
  have cbg04 := obg0.c4
  have hbg0 := obg0.hi
  go_wp2_with fail
  clear cba00 cba01 cba02 cba03 cba04 hba0
  clear cbw00 cbw01 cbw02 cbw03 cbw04 hbw0
  clear cbx00 cbx01 cbx02 cbx03 cbx04 hbx0
  clear cbg00 cbg01 cbg02 cbg03 cbg04 hbg0
  have oba0 := oba0.below bB (Nat.le_refl _)
  have ow0 := ow0.below bB (Nat.le_refl _)
  have obw0 := obw0.below bB (Nat.le_refl _)
  have ox0 := ox0.below bB (Nat.le_refl _)
  have obx0 := obx0.below bB (Nat.le_refl _)
  have og0 := og0.below bB (Nat.le_refl _)
  have obg0 := obg0.below bB (Nat.le_refl _)
  have B := B.trans (bB.mono B.size)
  clear bB
  have cba00 := oba0.c0
  have cba01 := oba0.c1
  have cba02 := oba0.c2
  have cba03 := oba0.c3
  have cba04 := oba0.c4
  have cbw00 := obw0.c0
  have cbw01 := obw0.c1
  have cbw02 := obw0.c2
  have cbw03 := obw0.c3
  have cbw04 := obw0.c4
  have cbx00 := obx0.c0
  have cbx01 := obx0.c1
  have cbx02 := obx0.c2
  have cbx03 := obx0.c3
  have cbx04 := obx0.c4
  have cbg00 := obg0.c0
  have cbg01 := obg0.c1
  have cbg02 := obg0.c2
  have cbg03 := obg0.c3
  have cbg04 := obg0.c4
  go_region_held (fun w' => w'.cell? ⟨w.heap.size, 0, none⟩ = some (.bool g0) ∧ w'.cell? ⟨w.heap.size, 1, none⟩ = some (.slice a0 n0 c0) ∧ w'.cell? ⟨w.heap.size, 2, none⟩ = some (.bool gg0) ∧ w'.cell? ⟨w.heap.size, 3, none⟩ = some (.slice aa0 nn0 cc0) ∧ w'.cell? ⟨w.heap.size, 4, none⟩ = some (.int .i64 kk0) ∧ w'.cell? ⟨w4.heap.size, 0, none⟩ = some (.bool r0.1.1.1) ∧ w'.cell? ⟨w4.heap.size, 1, none⟩ = some (.slice adw0 r0.1.1.2.length cpw0) ∧ w'.cell? ⟨w4.heap.size, 2, none⟩ = some (.bool r0.1.2.1) ∧ w'.cell? ⟨w4.heap.size, 3, none⟩ = some (.slice aew0 r0.1.2.2.length cqw0) ∧ w'.cell? ⟨w4.heap.size, 4, none⟩ = some (.int .i64 r0.2) ∧ w'.cell? ⟨w6.heap.size, 0, none⟩ = some (.bool xs0.1.1.1) ∧ w'.cell? ⟨w6.heap.size, 1, none⟩ = some (.slice adx0 xs0.1.1.2.length cpx0) ∧ w'.cell? ⟨w6.heap.size, 2, none⟩ = some (.bool xs0.1.2.1) ∧ w'.cell? ⟨w6.heap.size, 3, none⟩ = some (.slice aex0 xs0.1.2.2.length cqx0) ∧ w'.cell? ⟨w6.heap.size, 4, none⟩ = some (.int .i64 xs0.2) ∧ w'.cell? ⟨w8.heap.size, 0, none⟩ = some (.bool r0.1.1.1) ∧ w'.cell? ⟨w8.heap.size, 1, none⟩ = some (.slice adg0 r0.1.1.2.length cpg0) ∧ w'.cell? ⟨w8.heap.size, 2, none⟩ = some (.bool r0.1.2.1) ∧ w'.cell? ⟨w8.heap.size, 3, none⟩ = some (.slice aeg0 r0.1.2.2.length cqg0) ∧ w'.cell? ⟨w8.heap.size, 4, none⟩ = some (.int .i64 r0.2)) (go_keep) (first
    | (go_at_call_of 9 (Value.slice a0 n0 c0)
       refine (T0 w10.drew (hr0.below B) (hh0.below B)).mono ?_
       rintro e w11 ⟨vy0, rfl, oy0, bw11⟩
       have oba0 := oba0.below bw11 (Nat.le_refl _)
       have ow0 := ow0.below bw11 (Nat.le_refl _)
       have obw0 := obw0.below bw11 (Nat.le_refl _)
       have ox0 := ox0.below bw11 (Nat.le_refl _)
       have obx0 := obx0.below bw11 (Nat.le_refl _)
       have og0 := og0.below bw11 (Nat.le_refl _)
       have obg0 := obg0.below bw11 (Nat.le_refl _)
       have B := B.trans (bw11.mono B.size)
       clear bw11
       have cba00 := oba0.c0
       have cba01 := oba0.c1
       have cba02 := oba0.c2
       have cba03 := oba0.c3
       have cba04 := oba0.c4
       have cbw00 := obw0.c0
       have cbw01 := obw0.c1
       have cbw02 := obw0.c2
       have cbw03 := obw0.c3
       have cbw04 := obw0.c4
       have cbx00 := obx0.c0
       have cbx01 := obx0.c1
       have cbx02 := obx0.c2
       have cbx03 := obx0.c3
       have cbx04 := obx0.c4
       have cbg00 := obg0.c0
       have cbg01 := obg0.c1
       have cbg02 := obg0.c2
       have cbg03 := obg0.c3
       have cbg04 := obg0.c4)
    | (go_at_call 11
       refine (eqP' _ _ _ _ _ w11 (by omega) ox0 oy0).mono ?_
       rintro e w12 ⟨rfl, bw12⟩
       have oba0 := oba0.below bw12 (Nat.le_refl _)
       have ow0 := ow0.below bw12 (Nat.le_refl _)
       have obw0 := obw0.below bw12 (Nat.le_refl _)
       have ox0 := ox0.below bw12 (Nat.le_refl _)
       have obx0 := obx0.below bw12 (Nat.le_refl _)
       have og0 := og0.below bw12 (Nat.le_refl _)
       have obg0 := obg0.below bw12 (Nat.le_refl _)
       have oy0 := oy0.below bw12 (Nat.le_refl _)
       have B := B.trans (bw12.mono B.size)
       clear bw12
       have cba00 := oba0.c0
       have cba01 := oba0.c1
       have cba02 := oba0.c2
       have cba03 := oba0.c3
       have cba04 := oba0.c4
       have cbw00 := obw0.c0
       have cbw01 := obw0.c1
       have cbw02 := obw0.c2
       have cbw03 := obw0.c3
       have cbw04 := obw0.c4
       have cbx00 := obx0.c0
       have cbx01 := obx0.c1
       have cbx02 := obx0.c2
       have cbx03 := obx0.c3
       have cbx04 := obx0.c4
       have cbg00 := obg0.c0
       have cbg01 := obg0.c1
       have cbg02 := obg0.c2
       have cbg03 := obg0.c3
       have cbg04 := obg0.c4)
    )
  clear cba00 cba01 cba02 cba03 cba04 cbw00 cbw01 cbw02 cbw03 cbw04 cbx00 cbx01 cbx02 cbx03 cbx04 cbg00 cbg01 cbg02 cbg03 cbg04
  clear oy0
  -- marks in the copies do not reach the answer
  have cba00 := oba0.c0
  have cba01 := oba0.c1
  have cba02 := oba0.c2
  have cba03 := oba0.c3
  have cba04 := oba0.c4
  have hba0 := oba0.hi
  have cbw00 := obw0.c0
  have cbw01 := obw0.c1
  have cbw02 := obw0.c2
  have cbw03 := obw0.c3
  have cbw04 := obw0.c4
  have hbw0 := obw0.hi
  have cbx00 := obx0.c0
  have cbx01 := obx0.c1
  have cbx02 := obx0.c2
  have cbx03 := obx0.c3
  have cbx04 := obx0.c4
  have hbx0 := obx0.hi
  have cbg00 := obg0.c0
  have cbg01 := obg0.c1
  have cbg02 := obg0.c2
  have cbg03 := obg0.c3
  have cbg04 := obg0.c4
  have hbg0 := obg0.hi
  go_wp2_with fail
  clear cba00 cba01 cba02 cba03 cba04 hba0
  clear cbw00 cbw01 cbw02 cbw03 cbw04 hbw0
  clear cbx00 cbx01 cbx02 cbx03 cbx04 hbx0
  clear cbg00 cbg01 cbg02 cbg03 cbg04 hbg0
  refine (markP _ _ xs0 (1) w12 (by omega) (by omega) (by omega) (by omega) (by omega) ox0).mono ?_
  rintro e w13 ⟨rfl, oM, gw13⟩
  have oba0 := oba0.tn gw13 dba0_x0
  have ow0 := ow0.tn gw13 dw0_x0
  have obw0 := obw0.tn gw13 dbw0_x0
  have obx0 := obx0.tn gw13 dx0_bx0.symm
  have og0 := og0.tn gw13 dx0_g0.symm
  have obg0 := obg0.tn gw13 dx0_bg0.symm
  have B := gw13.below B B.size mx0
  clear gw13
  clear ox0 oM
  have hkn : ¬ (((1 : Int) + xs0.1.1.2.length + xs0.1.2.2.length) < 0) := by omega
  have cba00 := oba0.c0
  have cba01 := oba0.c1
  have cba02 := oba0.c2
  have cba03 := oba0.c3
  have cba04 := oba0.c4
  have hba0 := oba0.hi
  have cbw00 := obw0.c0
  have cbw01 := obw0.c1
  have cbw02 := obw0.c2
  have cbw03 := obw0.c3
  have cbw04 := obw0.c4
  have hbw0 := obw0.hi
  have cbx00 := obx0.c0
  have cbx01 := obx0.c1
  have cbx02 := obx0.c2
  have cbx03 := obx0.c3
  have cbx04 := obx0.c4
  have hbx0 := obx0.hi
  have cbg00 := obg0.c0
  have cbg01 := obg0.c1
  have cbg02 := obg0.c2
  have cbg03 := obg0.c3
  have cbg04 := obg0.c4
  have hbg0 := obg0.hi
  go_wp2_with fail
  clear cba00 cba01 cba02 cba03 cba04 hba0
  clear cbw00 cbw01 cbw02 cbw03 cbw04 hbw0
  clear cbx00 cbx01 cbx02 cbx03 cbx04 hbx0
  clear cbg00 cbg01 cbg02 cbg03 cbg04 hbg0
  refine (eqP' _ _ _ _ _ w13 (by omega) og0 ow0).mono ?_
  rintro e w14 ⟨rfl, bw14⟩
  have oba0 := oba0.below bw14 (Nat.le_refl _)
  have ow0 := ow0.below bw14 (Nat.le_refl _)
  have obw0 := obw0.below bw14 (Nat.le_refl _)
  have obx0 := obx0.below bw14 (Nat.le_refl _)
  have og0 := og0.below bw14 (Nat.le_refl _)
  have obg0 := obg0.below bw14 (Nat.le_refl _)
  have B := B.trans (bw14.mono B.size)
  clear bw14
  -- the answer's own memory
  have cba00 := oba0.c0
  have cba01 := oba0.c1
  have cba02 := oba0.c2
  have cba03 := oba0.c3
  have cba04 := oba0.c4
  have hba0 := oba0.hi
  have cbw00 := obw0.c0
  have cbw01 := obw0.c1
  have cbw02 := obw0.c2
  have cbw03 := obw0.c3
  have cbw04 := obw0.c4
  have hbw0 := obw0.hi
  have cbx00 := obx0.c0
  have cbx01 := obx0.c1
  have cbx02 := obx0.c2
  have cbx03 := obx0.c3
  have cbx04 := obx0.c4
  have hbx0 := obx0.hi
  have cbg00 := obg0.c0
  have cbg01 := obg0.c1
  have cbg02 := obg0.c2
  have cbg03 := obg0.c3
  have cbg04 := obg0.c4
  have hbg0 := obg0.hi
  go_wp2_with fail
  clear cba00 cba01 cba02 cba03 cba04 hba0
  clear cbw00 cbw01 cbw02 cbw03 cbw04 hbw0
  clear cbx00 cbx01 cbx02 cbx03 cbx04 hbx0
  clear cbg00 cbg01 cbg02 cbg03 cbg04 hbg0
  refine (markP _ _ r0 (1) w14 (by omega) (by omega) (by omega) (by omega) (by omega) og0).mono ?_
  rintro e w15 ⟨rfl, oM, gw15⟩
  have oba0 := oba0.tn gw15 dba0_g0
  have ow0 := ow0.tn gw15 dw0_g0
  have obw0 := obw0.tn gw15 dbw0_g0
  have obx0 := obx0.tn gw15 dbx0_g0
  have obg0 := obg0.tn gw15 dg0_bg0.symm
  have B := gw15.below B B.size mg0
  clear gw15
  have og0 := oM
  clear oM
  have cba00 := oba0.c0
  have cba01 := oba0.c1
  have cba02 := oba0.c2
  have cba03 := oba0.c3
  have cba04 := oba0.c4
  have hba0 := oba0.hi
  have cbw00 := obw0.c0
  have cbw01 := obw0.c1
  have cbw02 := obw0.c2
  have cbw03 := obw0.c3
  have cbw04 := obw0.c4
  have hbw0 := obw0.hi
  have cbx00 := obx0.c0
  have cbx01 := obx0.c1
  have cbx02 := obx0.c2
  have cbx03 := obx0.c3
  have cbx04 := obx0.c4
  have hbx0 := obx0.hi
  have cbg00 := obg0.c0
  have cbg01 := obg0.c1
  have cbg02 := obg0.c2
  have cbg03 := obg0.c3
  have cbg04 := obg0.c4
  have hbg0 := obg0.hi
  go_wp2_with fail
  clear cba00 cba01 cba02 cba03 cba04 hba0
  clear cbw00 cbw01 cbw02 cbw03 cbw04 hbw0
  clear cbx00 cbx01 cbx02 cbx03 cbx04 hbx0
  clear cbg00 cbg01 cbg02 cbg03 cbg04 hbg0
  refine (heldP _ _ r0.1.1.1 r0.1.2.1 r0.2 (1) r0.1.1.2.length r0.1.2.2.length w15 (by omega) (by omega) (by omega) (by omega) og0).mono ?_
  rintro e w16 ⟨rfl, bw16⟩
  have oba0 := oba0.below bw16 (Nat.le_refl _)
  have ow0 := ow0.below bw16 (Nat.le_refl _)
  have obw0 := obw0.below bw16 (Nat.le_refl _)
  have obx0 := obx0.below bw16 (Nat.le_refl _)
  have og0 := og0.below bw16 (Nat.le_refl _)
  have obg0 := obg0.below bw16 (Nat.le_refl _)
  have B := B.trans (bw16.mono B.size)
  clear bw16
  have cba00 := oba0.c0
  have cba01 := oba0.c1
  have cba02 := oba0.c2
  have cba03 := oba0.c3
  have cba04 := oba0.c4
  have hba0 := oba0.hi
  have cbw00 := obw0.c0
  have cbw01 := obw0.c1
  have cbw02 := obw0.c2
  have cbw03 := obw0.c3
  have cbw04 := obw0.c4
  have hbw0 := obw0.hi
  have cbx00 := obx0.c0
  have cbx01 := obx0.c1
  have cbx02 := obx0.c2
  have cbx03 := obx0.c3
  have cbx04 := obx0.c4
  have hbx0 := obx0.hi
  have cbg00 := obg0.c0
  have cbg01 := obg0.c1
  have cbg02 := obg0.c2
  have cbg03 := obg0.c3
  have cbg04 := obg0.c4
  have hbg0 := obg0.hi
  go_wp2_with fail
  clear cba00 cba01 cba02 cba03 cba04 hba0
  clear cbw00 cbw01 cbw02 cbw03 cbw04 hbw0
  clear cbx00 cbx01 cbx02 cbx03 cbx04 hbx0
  clear cbg00 cbg01 cbg02 cbg03 cbg04 hbg0
  refine (T0 w16 (hr0.below B) (hh0.below B)).mono ?_
  rintro e w17 ⟨vz0, rfl, oz0, bw17⟩
  have oba0 := oba0.below bw17 (Nat.le_refl _)
  have ow0 := ow0.below bw17 (Nat.le_refl _)
  have obw0 := obw0.below bw17 (Nat.le_refl _)
  have obx0 := obx0.below bw17 (Nat.le_refl _)
  have og0 := og0.below bw17 (Nat.le_refl _)
  have obg0 := obg0.below bw17 (Nat.le_refl _)
  have B := B.trans (bw17.mono B.size)
  clear bw17
  have cba00 := oba0.c0
  have cba01 := oba0.c1
  have cba02 := oba0.c2
  have cba03 := oba0.c3
  have cba04 := oba0.c4
  have hba0 := oba0.hi
  have cbw00 := obw0.c0
  have cbw01 := obw0.c1
  have cbw02 := obw0.c2
  have cbw03 := obw0.c3
  have cbw04 := obw0.c4
  have hbw0 := obw0.hi
  have cbx00 := obx0.c0
  have cbx01 := obx0.c1
  have cbx02 := obx0.c2
  have cbx03 := obx0.c3
  have cbx04 := obx0.c4
  have hbx0 := obx0.hi
  have cbg00 := obg0.c0
  have cbg01 := obg0.c1
  have cbg02 := obg0.c2
  have cbg03 := obg0.c3
  have cbg04 := obg0.c4
  have hbg0 := obg0.hi
  go_wp2_with fail
  clear cba00 cba01 cba02 cba03 cba04 hba0
  clear cbw00 cbw01 cbw02 cbw03 cbw04 hbw0
  clear cbx00 cbx01 cbx02 cbx03 cbx04 hbx0
  clear cbg00 cbg01 cbg02 cbg03 cbg04 hbg0
  refine (I _ w17 oz0.row).mono ?_
  rintro e w18 ⟨vh0, rfl, oh0, bw18⟩
  obtain ⟨sh0, th0, rfl, hqh0, hph0, -⟩ := id oh0
  obtain ⟨adh0, cph0, rfl, -⟩ := hqh0.row
  obtain ⟨aeh0, cqh0, rfl, -⟩ := hph0.row
  clear hqh0 hph0
  have oba0 := oba0.below bw18 (Nat.le_refl _)
  have ow0 := ow0.below bw18 (Nat.le_refl _)
  have obw0 := obw0.below bw18 (Nat.le_refl _)
  have obx0 := obx0.below bw18 (Nat.le_refl _)
  have og0 := og0.below bw18 (Nat.le_refl _)
  have obg0 := obg0.below bw18 (Nat.le_refl _)
  have oz0 := oz0.below bw18 (Nat.le_refl _)
  have B := B.trans (bw18.mono B.size)
  clear bw18
  clear oz0
  have cba00 := oba0.c0
  have cba01 := oba0.c1
  have cba02 := oba0.c2
  have cba03 := oba0.c3
  have cba04 := oba0.c4
  have hba0 := oba0.hi
  have cbw00 := obw0.c0
  have cbw01 := obw0.c1
  have cbw02 := obw0.c2
  have cbw03 := obw0.c3
  have cbw04 := obw0.c4
  have hbw0 := obw0.hi
  have cbx00 := obx0.c0
  have cbx01 := obx0.c1
  have cbx02 := obx0.c2
  have cbx03 := obx0.c3
  have cbx04 := obx0.c4
  have hbx0 := obx0.hi
  have cbg00 := obg0.c0
  have cbg01 := obg0.c1
  have cbg02 := obg0.c2
  have cbg03 := obg0.c3
  have cbg04 := obg0.c4
  have hbg0 := obg0.hi
  have eba0 := oba0.below (below1 w18 (.cells #[.bool r0.1.1.1, .slice adh0 r0.1.1.2.length cph0, .bool r0.1.2.1, .slice aeh0 r0.1.2.2.length cqh0, .int .i64 r0.2] 30)) (Nat.le_refl _)
  have eba00 := eba0.c0
  have eba01 := eba0.c1
  have eba02 := eba0.c2
  have eba03 := eba0.c3
  have eba04 := eba0.c4
  have ebw0 := obw0.below (below1 w18 (.cells #[.bool r0.1.1.1, .slice adh0 r0.1.1.2.length cph0, .bool r0.1.2.1, .slice aeh0 r0.1.2.2.length cqh0, .int .i64 r0.2] 30)) (Nat.le_refl _)
  have ebw00 := ebw0.c0
  have ebw01 := ebw0.c1
  have ebw02 := ebw0.c2
  have ebw03 := ebw0.c3
  have ebw04 := ebw0.c4
  have ebx0 := obx0.below (below1 w18 (.cells #[.bool r0.1.1.1, .slice adh0 r0.1.1.2.length cph0, .bool r0.1.2.1, .slice aeh0 r0.1.2.2.length cqh0, .int .i64 r0.2] 30)) (Nat.le_refl _)
  have ebx00 := ebx0.c0
  have ebx01 := ebx0.c1
  have ebx02 := ebx0.c2
  have ebx03 := ebx0.c3
  have ebx04 := ebx0.c4
  have ebg0 := obg0.below (below1 w18 (.cells #[.bool r0.1.1.1, .slice adh0 r0.1.1.2.length cph0, .bool r0.1.2.1, .slice aeh0 r0.1.2.2.length cqh0, .int .i64 r0.2] 30)) (Nat.le_refl _)
  have ebg00 := ebg0.c0
  have ebg01 := ebg0.c1
  have ebg02 := ebg0.c2
  have ebg03 := ebg0.c3
  have ebg04 := ebg0.c4
  go_wp2_with fail
  clear cba00 cba01 cba02 cba03 cba04 hba0
  clear cbw00 cbw01 cbw02 cbw03 cbw04 hbw0
  clear cbx00 cbx01 cbx02 cbx03 cbx04 hbx0
  clear cbg00 cbg01 cbg02 cbg03 cbg04 hbg0
  clear eba0 eba00 eba01 eba02 eba03 eba04
  clear ebw0 ebw00 ebw01 ebw02 ebw03 ebw04
  clear ebx0 ebx00 ebx01 ebx02 ebx03 ebx04
  clear ebg0 ebg00 ebg01 ebg02 ebg03 ebg04
  have hsw19 : (w18.alloc (.cells #[.bool r0.1.1.1, .slice adh0 r0.1.1.2.length cph0, .bool r0.1.2.1, .slice aeh0 r0.1.2.2.length cqh0, .int .i64 r0.2] 30)).heap.size = w18.heap.size + 1 := by simp
  have bB := below1 w18 (.cells #[.bool r0.1.1.1, .slice adh0 r0.1.1.2.length cph0, .bool r0.1.2.1, .slice aeh0 r0.1.2.2.length cqh0, .int .i64 r0.2] 30)
  have obh0 := Bx5.made w18 (.bool r0.1.1.1) (.slice adh0 r0.1.1.2.length cph0) (.bool r0.1.2.1) (.slice aeh0 r0.1.2.2.length cqh0) (.int .i64 r0.2) 30
  have dba0_bh0 := apart_of (fun k hk => (oba0.ltb k hk).2) (fun k hk => (obh0.ltb k hk).1)
  have dw0_bh0 := apart_of (fun k hk => (ow0.ltb k hk).2) (fun k hk => (obh0.ltb k hk).1)
  have dbw0_bh0 := apart_of (fun k hk => (obw0.ltb k hk).2) (fun k hk => (obh0.ltb k hk).1)
  have dbx0_bh0 := apart_of (fun k hk => (obx0.ltb k hk).2) (fun k hk => (obh0.ltb k hk).1)
  have dg0_bh0 := apart_of (fun k hk => (og0.ltb k hk).2) (fun k hk => (obh0.ltb k hk).1)
  have dbg0_bh0 := apart_of (fun k hk => (obg0.ltb k hk).2) (fun k hk => (obh0.ltb k hk).1)
  have dh0_bh0 := apart_of (fun k hk => (oh0.ltb k hk).2) (fun k hk => (obh0.ltb k hk).1)
  have oba0 := oba0.below bB (Nat.le_refl _)
  have ow0 := ow0.below bB (Nat.le_refl _)
  have obw0 := obw0.below bB (Nat.le_refl _)
  have obx0 := obx0.below bB (Nat.le_refl _)
  have og0 := og0.below bB (Nat.le_refl _)
  have obg0 := obg0.below bB (Nat.le_refl _)
  have oh0 := oh0.below bB (Nat.le_refl _)
  have B := B.trans (bB.mono B.size)
  clear bB
  generalize w18.alloc (.cells #[.bool r0.1.1.1, .slice adh0 r0.1.1.2.length cph0, .bool r0.1.2.1, .slice aeh0 r0.1.2.2.length cqh0, .int .i64 r0.2] 30) = w19 at *
  refine (eqP' _ _ _ _ _ w19 (by omega) oh0 ow0).mono ?_
  rintro e w20 ⟨rfl, bw20⟩
  have oba0 := oba0.below bw20 (Nat.le_refl _)
  have ow0 := ow0.below bw20 (Nat.le_refl _)
  have obw0 := obw0.below bw20 (Nat.le_refl _)
  have obx0 := obx0.below bw20 (Nat.le_refl _)
  have og0 := og0.below bw20 (Nat.le_refl _)
  have obg0 := obg0.below bw20 (Nat.le_refl _)
  have oh0 := oh0.below bw20 (Nat.le_refl _)
  have obh0 := obh0.below bw20 (Nat.le_refl _)
  have B := B.trans (bw20.mono B.size)
  clear bw20
  have cba00 := oba0.c0
  have cba01 := oba0.c1
  have cba02 := oba0.c2
  have cba03 := oba0.c3
  have cba04 := oba0.c4
  have hba0 := oba0.hi
  have cbw00 := obw0.c0
  have cbw01 := obw0.c1
  have cbw02 := obw0.c2
  have cbw03 := obw0.c3
  have cbw04 := obw0.c4
  have hbw0 := obw0.hi
  have cbx00 := obx0.c0
  have cbx01 := obx0.c1
  have cbx02 := obx0.c2
  have cbx03 := obx0.c3
  have cbx04 := obx0.c4
  have hbx0 := obx0.hi
  have cbg00 := obg0.c0
  have cbg01 := obg0.c1
  have cbg02 := obg0.c2
  have cbg03 := obg0.c3
  have cbg04 := obg0.c4
  have hbg0 := obg0.hi
  have cbh00 := obh0.c0
  have cbh01 := obh0.c1
  have cbh02 := obh0.c2
  have cbh03 := obh0.c3
  have cbh04 := obh0.c4
  have hbh0 := obh0.hi
  go_wp2_with fail
  clear cba00 cba01 cba02 cba03 cba04 hba0
  clear cbw00 cbw01 cbw02 cbw03 cbw04 hbw0
  clear cbx00 cbx01 cbx02 cbx03 cbx04 hbx0
  clear cbg00 cbg01 cbg02 cbg03 cbg04 hbg0
  clear cbh00 cbh01 cbh02 cbh03 cbh04 hbh0
  refine (heldP _ _ r0.1.1.1 r0.1.2.1 r0.2 (1) r0.1.1.2.length r0.1.2.2.length w20 (by omega) (by omega) (by omega) (by omega) og0).mono ?_
  rintro e w21 ⟨rfl, bw21⟩
  have oba0 := oba0.below bw21 (Nat.le_refl _)
  have ow0 := ow0.below bw21 (Nat.le_refl _)
  have obw0 := obw0.below bw21 (Nat.le_refl _)
  have obx0 := obx0.below bw21 (Nat.le_refl _)
  have og0 := og0.below bw21 (Nat.le_refl _)
  have obg0 := obg0.below bw21 (Nat.le_refl _)
  have oh0 := oh0.below bw21 (Nat.le_refl _)
  have obh0 := obh0.below bw21 (Nat.le_refl _)
  have B := B.trans (bw21.mono B.size)
  clear bw21
  have cba00 := oba0.c0
  have cba01 := oba0.c1
  have cba02 := oba0.c2
  have cba03 := oba0.c3
  have cba04 := oba0.c4
  have hba0 := oba0.hi
  have cbw00 := obw0.c0
  have cbw01 := obw0.c1
  have cbw02 := obw0.c2
  have cbw03 := obw0.c3
  have cbw04 := obw0.c4
  have hbw0 := obw0.hi
  have cbx00 := obx0.c0
  have cbx01 := obx0.c1
  have cbx02 := obx0.c2
  have cbx03 := obx0.c3
  have cbx04 := obx0.c4
  have hbx0 := obx0.hi
  have cbg00 := obg0.c0
  have cbg01 := obg0.c1
  have cbg02 := obg0.c2
  have cbg03 := obg0.c3
  have cbg04 := obg0.c4
  have hbg0 := obg0.hi
  have cbh00 := obh0.c0
  have cbh01 := obh0.c1
  have cbh02 := obh0.c2
  have cbh03 := obh0.c3
  have cbh04 := obh0.c4
  have hbh0 := obh0.hi
  go_wp2
  go_ret
  exact ⟨rfl, B⟩

set_option maxHeartbeats 1600000 in
theorem walkSpinStep (g0 : Bool) (a0 : Option Addr) (n0 c0 : Nat) (zs0 : List Int) (gg0 : Bool) (aa0 : Option Addr) (nn0 cc0 : Nat) (zz0 : List Int) (kk0 : Int) (k1 : Int) (k2 : Int) (w : World) (hr0 : IsRow .i64 w a0 n0 c0 zs0) (hh0 : IsRow .i64 w aa0 nn0 cc0 zz0) (hk1 : -9223372036854775808 ≤ k1 ∧ k1 ≤ 9223372036854775807) (hk2 : -9223372036854775808 ≤ k2 ∧ k2 ≤ 9223372036854775807) (hR : n0 + nn0 ≤ 1048576 → (stepR (((g0, zs0.take n0), (gg0, zz0.take nn0)), kk0) k1 k2).1.1.1.2.length ≤ 1048576 ∧ (stepR (((g0, zs0.take n0), (gg0, zz0.take nn0)), kk0) k1 k2).1.1.2.2.length ≤ 1048576)
    (hS : ∀ (va0 : Value) (xs0 : Ph) (k1 : Int) (k2 : Int) (W : World), rowP W va0 xs0 → xs0.1.1.2.length ≤ 1048576 → xs0.1.2.2.length ≤ 1048576 → -9223372036854775808 ≤ k1 → k1 ≤ 9223372036854775807 → -9223372036854775808 ≤ k2 → k2 ≤ 9223372036854775807 → Calls Try.prog 8 #[va0, .int .i64 k1, .int .i64 k2] W (fun e w' => ∃ v0, e = .returned (.tuple #[v0, .bool (stepR xs0 k1 k2).2]) ∧ ownsP w' W.heap.size v0 (stepR xs0 k1 k2).1 ∧ Below W.heap.size W w'))
    (hI : ∀ (va0 : Value) (xs0 : Ph) (k1 : Int) (k2 : Int) (W : World), rowP W va0 xs0 → xs0.1.1.2.length ≤ 1048576 → xs0.1.2.2.length ≤ 1048576 → -9223372036854775808 ≤ k1 → k1 ≤ 9223372036854775807 → -9223372036854775808 ≤ k2 → k2 ≤ 9223372036854775807 → Calls Try.prog 10 #[va0, .int .i64 k1, .int .i64 k2] W (fun e w' => ∃ v0, e = .returned (.tuple #[v0, .bool (stepR xs0 k1 k2).2]) ∧ ownsP w' W.heap.size v0 (stepR xs0 k1 k2).1 ∧ Below W.heap.size W w')) :
    Calls Try.prog 3 #[.agg #[.bool g0, .slice a0 n0 c0, .bool gg0, .slice aa0 nn0 cc0, .int .i64 kk0], .int .i64 k1, .int .i64 k2] w fun e w' => e = .returned (.bool true) ∧ Below w.heap.size w w' := by
  by_cases h0 : n0 + nn0 ≤ 1048576
  · skip
    exact walkSpinStep_in g0 a0 n0 c0 zs0 gg0 aa0 nn0 cc0 zz0 kk0 k1 k2 w  (by omega) hr0 hh0 hk1 hk2 (hR (by omega)) hS hI
  · have hL0 := And.intro hr0.len_le hh0.len_le
    clear hS hI
    have B := Below.refl w.heap.size w
    go_enter Try.func3, Try.ntmps3
    go_wp2_with fail
    have hsw1 : (w.alloc (.cells #[.bool g0, .slice a0 n0 c0, .bool gg0, .slice aa0 nn0 cc0, .int .i64 kk0] 26)).heap.size = w.heap.size + 1 := by simp
    have bB := below1 w (.cells #[.bool g0, .slice a0 n0 c0, .bool gg0, .slice aa0 nn0 cc0, .int .i64 kk0] 26)
    have oba0 := Bx5.made w (.bool g0) (.slice a0 n0 c0) (.bool gg0) (.slice aa0 nn0 cc0) (.int .i64 kk0) 26
    have B := B.trans (bB.mono B.size)
    clear bB
    generalize w.alloc (.cells #[.bool g0, .slice a0 n0 c0, .bool gg0, .slice aa0 nn0 cc0, .int .i64 kk0] 26) = w1 at *
    refine (szP_no g0 a0 n0 c0 gg0 aa0 nn0 cc0 kk0 ((1048576 : Int)) w1 (by omega) (by omega) hL0.1 hL0.2 (by omega)).mono ?_
    rintro e w2 ⟨rfl, bw2⟩
    have oba0 := oba0.below bw2 (Nat.le_refl _)
    have B := B.trans (bw2.mono B.size)
    clear bw2
    have cba00 := oba0.c0
    have cba01 := oba0.c1
    have cba02 := oba0.c2
    have cba03 := oba0.c3
    have cba04 := oba0.c4
    have hba0 := oba0.hi
    go_wp2
    go_ret
    exact ⟨rfl, B⟩

end Go.Proofs.Ytkbnfillbdjboaa
