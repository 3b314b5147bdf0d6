/- The law FnExactSpinRun: its walk, out of the two contracts (written by genlaw.py from the signature VN>VB). -/
import Derived.Test.YtkbnfillbdjboaaBase
import Derived.Test.YtkbnfillbdjboaaPB
import Derived.Deep.RegionHeld
import Derived.Test.YtkbnfillbdjboaaSpRunM
namespace Go.Proofs.Ytkbnfillbdjboaa
open Go.RowKit

set_option maxHeartbeats 3200000 in
theorem walkSpinRun_in (g0 : Bool) (a0 : Option Addr) (n0 c0 : Nat) (zs0 : List Int) (gg0 : Bool) (aa0 : Option Addr) (nn0 cc0 : Nat) (zz0 : List Int) (kk0 : Int) (a1 : Option Addr) (n1 c1 : Nat) (zs1 : List Int) (w : World) (h1 : n1 ≤ 1048576) (hsum : n0 + nn0 ≤ 1048576) (hr0 : IsRow .i64 w a0 n0 c0 zs0) (hh0 : IsRow .i64 w aa0 nn0 cc0 zz0) (hr1 : IsRow .i64 w a1 n1 c1 zs1) (hR : (runR (((g0, zs0.take n0), (gg0, zz0.take nn0)), kk0) (zs1.take n1)).1.1.1.2.length ≤ 1048576 ∧ (runR (((g0, zs0.take n0), (gg0, zz0.take nn0)), kk0) (zs1.take n1)).1.1.2.2.length ≤ 1048576)
    (hS : ∀ (va0 : Value) (xs0 : Ph) (va1 : Value) (xs1 : List Int) (W : World), rowP W va0 xs0 → xs0.1.1.2.length ≤ 1048576 → xs0.1.2.2.length ≤ 1048576 → rowI W va1 xs1 → xs1.length ≤ 1048576 → Calls Try.prog 14 #[va0, va1] W (fun e w' => ∃ v0, e = .returned (.tuple #[v0, .bool (runR xs0 xs1).2]) ∧ ownsP w' W.heap.size v0 (runR xs0 xs1).1 ∧ Below W.heap.size W w'))
    (hI : ∀ (va0 : Value) (xs0 : Ph) (va1 : Value) (xs1 : List Int) (W : World), rowP W va0 xs0 → xs0.1.1.2.length ≤ 1048576 → xs0.1.2.2.length ≤ 1048576 → rowI W va1 xs1 → xs1.length ≤ 1048576 → Calls Try.prog 16 #[va0, va1] W (fun e w' => ∃ v0, e = .returned (.tuple #[v0, .bool (runR xs0 xs1).2]) ∧ ownsP w' W.heap.size v0 (runR xs0 xs1).1 ∧ Below W.heap.size W w')) :
    Calls Try.prog 4 #[.agg #[.bool g0, .slice a0 n0 c0, .bool gg0, .slice aa0 nn0 cc0, .int .i64 kk0], .slice a1 n1 c1] w fun e w' => e = .returned (.bool true) ∧ Below w.heap.size w w' := by
  have h1' : ¬ (1048576 : Int) < (n1 : Int) := by omega
  have h0' : ¬ ((1048576 : Int) - (n0 : Int) - (nn0 : Int) < 0) := by omega
  have T0 : ∀ W : World, IsRow .i64 W a0 n0 c0 zs0 → IsRow .i64 W aa0 nn0 cc0 zz0 → Calls Try.prog 9 #[.agg #[.bool g0, .slice a0 n0 c0, .bool gg0, .slice aa0 nn0 cc0, .int .i64 kk0]] W fun e w' => ∃ v, e = .returned v ∧ ownsP w' W.heap.size v (((g0, zs0.take n0), (gg0, zz0.take nn0)), kk0) ∧ Below W.heap.size W w' := fun W h h' => toP g0 a0 n0 c0 zs0 gg0 aa0 nn0 cc0 zz0 kk0 W (by omega) (by omega) h h'
  have l0 : ((((g0, zs0.take n0), (gg0, zz0.take nn0)), kk0) : Ph).1.1.2.length ≤ 1048576 ∧ ((((g0, zs0.take n0), (gg0, zz0.take nn0)), kk0) : Ph).1.2.2.length ≤ 1048576 := by show (zs0.take n0).length ≤ 1048576 ∧ (zz0.take nn0).length ≤ 1048576; rw [List.length_take, List.length_take]; omega
  obtain ⟨xs0, hxs0⟩ : ∃ xs : Ph, (((g0, zs0.take n0), (gg0, zz0.take nn0)), kk0) = xs := ⟨_, rfl⟩
  rw [hxs0] at T0 l0 hR
  clear hxs0
  have T1 : ∀ W : World, IsRow .i64 W a1 n1 c1 zs1 → Calls Try.prog 15 #[.slice a1 n1 c1] W fun e w' => ∃ v, e = .returned v ∧ ownsI w' W.heap.size v (zs1.take n1) ∧ Below W.heap.size W w' := fun W h => toI a1 n1 c1 zs1 W (by omega) h
  have l1 : (zs1.take n1).length ≤ 1048576 := by rw [List.length_take]; omega
  obtain ⟨xs1, hxs1⟩ : ∃ xs, zs1.take n1 = xs := ⟨_, rfl⟩
  rw [hxs1] at T1 l1 hR
  clear hxs1
  have S := fun va0 va1 W q0 q1 => hS va0 xs0 va1 xs1 W q0 l0.1 l0.2 q1 l1
  have I := fun va0 va1 W q0 q1 => hI va0 xs0 va1 xs1 W q0 l0.1 l0.2 q1 l1
  obtain ⟨r0, r1, hr⟩ : ∃ r0 r1, runR xs0 xs1 = (r0, r1) := ⟨_, _, rfl⟩
  simp only [hr] at S I hR
  clear hS hI hr
  have eb1 : (r1 != r1) = false := by simp
  have B := Below.refl w.heap.size w
  go_enter Try.func4, Try.ntmps4
  go_wp2_with fail
  have hsw1 : (w.alloc (.cells #[.bool g0, .slice a0 n0 c0, .bool gg0, .slice aa0 nn0 cc0, .int .i64 kk0] 26)).heap.size = w.heap.size + 1 := by simp
  have bB := below1 w (.cells #[.bool g0, .slice a0 n0 c0, .bool gg0, .slice aa0 nn0 cc0, .int .i64 kk0] 26)
  have oba0 := Bx5.made w (.bool g0) (.slice a0 n0 c0) (.bool gg0) (.slice aa0 nn0 cc0) (.int .i64 kk0) 26
  have B := B.trans (bB.mono B.size)
  clear bB
  generalize w.alloc (.cells #[.bool g0, .slice a0 n0 c0, .bool gg0, .slice aa0 nn0 cc0, .int .i64 kk0] 26) = w1 at *
  refine (szP_yes g0 a0 n0 c0 gg0 aa0 nn0 cc0 kk0 ((1048576 : Int)) w1 (by omega) (by omega)).mono ?_
  rintro e w2 ⟨rfl, bw2⟩
  have oba0 := oba0.below bw2 (Nat.le_refl _)
  have B := B.trans (bw2.mono B.size)
  clear bw2
  -- the specification's answer
  have cba00 := oba0.c0
  have cba01 := oba0.c1
  have cba02 := oba0.c2
  have cba03 := oba0.c3
  have cba04 := oba0.c4
  have hba0 := oba0.hi
  go_wp2_with fail
  clear cba00 cba01 cba02 cba03 cba04 hba0
  refine (T0 w2 (hr0.below B) (hh0.below B)).mono ?_
  rintro e w3 ⟨vs0, rfl, os0, bw3⟩
  have oba0 := oba0.below bw3 (Nat.le_refl _)
  have B := B.trans (bw3.mono B.size)
  clear bw3
  have cba00 := oba0.c0
  have cba01 := oba0.c1
  have cba02 := oba0.c2
  have cba03 := oba0.c3
  have cba04 := oba0.c4
  have hba0 := oba0.hi
  go_wp2_with fail
  clear cba00 cba01 cba02 cba03 cba04 hba0
  refine (T1 w3 (hr1.below B)).mono ?_
  rintro e w4 ⟨vs1, rfl, os1, bw4⟩
  have oba0 := oba0.below bw4 (Nat.le_refl _)
  have os0 := os0.below bw4 (Nat.le_refl _)
  have B := B.trans (bw4.mono B.size)
  clear bw4
  have cba00 := oba0.c0
  have cba01 := oba0.c1
  have cba02 := oba0.c2
  have cba03 := oba0.c3
  have cba04 := oba0.c4
  have hba0 := oba0.hi
  go_wp2_with fail
  clear cba00 cba01 cba02 cba03 cba04 hba0
  refine (S _ _ w4 os0.row os1.row).mono ?_
  rintro e w5 ⟨vw0, rfl, ow0, bw5⟩
  have dba0_w0 := apart_of (fun k hk => (oba0.ltb k hk).2) (fun k hk => (ow0.ltb k hk).1)
  have ds0_w0 := apart_of (fun k hk => (os0.ltb k hk).2) (fun k hk => (ow0.ltb k hk).1)
  have ds1_w0 := apart_of (fun k hk => (os1.ltb k hk).2) (fun k hk => (ow0.ltb k hk).1)
  have mw0 : ∀ k ∈ blkP vw0, w.heap.size ≤ k := fun k hk => Nat.le_trans B.size (ow0.ltb k hk).1
  obtain ⟨sw0, tw0, rfl, hqw0, hpw0, -⟩ := id ow0
  obtain ⟨adw0, cpw0, rfl, -⟩ := hqw0.row
  obtain ⟨aew0, cqw0, rfl, -⟩ := hpw0.row
  clear hqw0 hpw0
  have oba0 := oba0.below bw5 (Nat.le_refl _)
  have os0 := os0.below bw5 (Nat.le_refl _)
  have os1 := os1.below bw5 (Nat.le_refl _)
  have B := B.trans (bw5.mono B.size)
  clear bw5
  clear os0 os1
  -- the arguments, copied; the program's answer
  have cba00 := oba0.c0
  have cba01 := oba0.c1
  have cba02 := oba0.c2
  have cba03 := oba0.c3
  have cba04 := oba0.c4
  have hba0 := oba0.hi
  have eba0 := oba0.below (below1 w5 (.cells #[.bool r0.1.1.1, .slice adw0 r0.1.1.2.length cpw0, .bool r0.1.2.1, .slice aew0 r0.1.2.2.length cqw0, .int .i64 r0.2] 30)) (Nat.le_refl _)
  have eba00 := eba0.c0
  have eba01 := eba0.c1
  have eba02 := eba0.c2
  have eba03 := eba0.c3
  have eba04 := eba0.c4
  go_wp2_with fail
  clear cba00 cba01 cba02 cba03 cba04 hba0
  clear eba0 eba00 eba01 eba02 eba03 eba04
  have hsw6 : (w5.alloc (.cells #[.bool r0.1.1.1, .slice adw0 r0.1.1.2.length cpw0, .bool r0.1.2.1, .slice aew0 r0.1.2.2.length cqw0, .int .i64 r0.2] 30)).heap.size = w5.heap.size + 1 := by simp
  have bB := below1 w5 (.cells #[.bool r0.1.1.1, .slice adw0 r0.1.1.2.length cpw0, .bool r0.1.2.1, .slice aew0 r0.1.2.2.length cqw0, .int .i64 r0.2] 30)
  have obw0 := Bx5.made w5 (.bool r0.1.1.1) (.slice adw0 r0.1.1.2.length cpw0) (.bool r0.1.2.1) (.slice aew0 r0.1.2.2.length cqw0) (.int .i64 r0.2) 30
  have dba0_bw0 := apart_of (fun k hk => (oba0.ltb k hk).2) (fun k hk => (obw0.ltb k hk).1)
  have dw0_bw0 := apart_of (fun k hk => (ow0.ltb k hk).2) (fun k hk => (obw0.ltb k hk).1)
  have oba0 := oba0.below bB (Nat.le_refl _)
  have ow0 := ow0.below bB (Nat.le_refl _)
  have B := B.trans (bB.mono B.size)
  clear bB
  generalize w5.alloc (.cells #[.bool r0.1.1.1, .slice adw0 r0.1.1.2.length cpw0, .bool r0.1.2.1, .slice aew0 r0.1.2.2.length cqw0, .int .i64 r0.2] 30) = w6 at *
  refine (T0 w6 (hr0.below B) (hh0.below B)).mono ?_
  rintro e w7 ⟨vx0, rfl, ox0, bw7⟩
  have dba0_x0 := apart_of (fun k hk => (oba0.ltb k hk).2) (fun k hk => (ox0.ltb k hk).1)
  have dw0_x0 := apart_of (fun k hk => (ow0.ltb k hk).2) (fun k hk => (ox0.ltb k hk).1)
  have dbw0_x0 := apart_of (fun k hk => (obw0.ltb k hk).2) (fun k hk => (ox0.ltb k hk).1)
  have mx0 : ∀ k ∈ blkP vx0, w.heap.size ≤ k := fun k hk => Nat.le_trans B.size (ox0.ltb k hk).1
  obtain ⟨sx0, tx0, rfl, hqx0, hpx0, -⟩ := id ox0
  obtain ⟨adx0, cpx0, rfl, -⟩ := hqx0.row
  obtain ⟨aex0, cqx0, rfl, -⟩ := hpx0.row
  clear hqx0 hpx0
  have oba0 := oba0.below bw7 (Nat.le_refl _)
  have ow0 := ow0.below bw7 (Nat.le_refl _)
  have obw0 := obw0.below bw7 (Nat.le_refl _)
  have B := B.trans (bw7.mono B.size)
  clear bw7
  have cba00 := oba0.c0
  have cba01 := oba0.c1
  have cba02 := oba0.c2
  have cba03 := oba0.c3
  have cba04 := oba0.c4
  have hba0 := oba0.hi
  have cbw00 := obw0.c0
  have cbw01 := obw0.c1
  have cbw02 := obw0.c2
  have cbw03 := obw0.c3
  have cbw04 := obw0.c4
  have hbw0 := obw0.hi
  have eba0 := oba0.below (below1 w7 (.cells #[.bool xs0.1.1.1, .slice adx0 xs0.1.1.2.length cpx0, .bool xs0.1.2.1, .slice aex0 xs0.1.2.2.length cqx0, .int .i64 xs0.2] 30)) (Nat.le_refl _)
  have eba00 := eba0.c0
  have eba01 := eba0.c1
  have eba02 := eba0.c2
  have eba03 := eba0.c3
  have eba04 := eba0.c4
  have ebw0 := obw0.below (below1 w7 (.cells #[.bool xs0.1.1.1, .slice adx0 xs0.1.1.2.length cpx0, .bool xs0.1.2.1, .slice aex0 xs0.1.2.2.length cqx0, .int .i64 xs0.2] 30)) (Nat.le_refl _)
  have ebw00 := ebw0.c0
  have ebw01 := ebw0.c1
  have ebw02 := ebw0.c2
  have ebw03 := ebw0.c3
  have ebw04 := ebw0.c4
  go_wp2_with fail
  clear cba00 cba01 cba02 cba03 cba04 hba0
  clear cbw00 cbw01 cbw02 cbw03 cbw04 hbw0
  clear eba0 eba00 eba01 eba02 eba03 eba04
  clear ebw0 ebw00 ebw01 ebw02 ebw03 ebw04
  have hsw8 : (w7.alloc (.cells #[.bool xs0.1.1.1, .slice adx0 xs0.1.1.2.length cpx0, .bool xs0.1.2.1, .slice aex0 xs0.1.2.2.length cqx0, .int .i64 xs0.2] 30)).heap.size = w7.heap.size + 1 := by simp
  have bB := below1 w7 (.cells #[.bool xs0.1.1.1, .slice adx0 xs0.1.1.2.length cpx0, .bool xs0.1.2.1, .slice aex0 xs0.1.2.2.length cqx0, .int .i64 xs0.2] 30)
  have obx0 := Bx5.made w7 (.bool xs0.1.1.1) (.slice adx0 xs0.1.1.2.length cpx0) (.bool xs0.1.2.1) (.slice aex0 xs0.1.2.2.length cqx0) (.int .i64 xs0.2) 30
  have dba0_bx0 := apart_of (fun k hk => (oba0.ltb k hk).2) (fun k hk => (obx0.ltb k hk).1)
  have dw0_bx0 := apart_of (fun k hk => (ow0.ltb k hk).2) (fun k hk => (obx0.ltb k hk).1)
  have dbw0_bx0 := apart_of (fun k hk => (obw0.ltb k hk).2) (fun k hk => (obx0.ltb k hk).1)
  have dx0_bx0 := apart_of (fun k hk => (ox0.ltb k hk).2) (fun k hk => (obx0.ltb k hk).1)
  have oba0 := oba0.below bB (Nat.le_refl _)
  have ow0 := ow0.below bB (Nat.le_refl _)
  have obw0 := obw0.below bB (Nat.le_refl _)
  have ox0 := ox0.below bB (Nat.le_refl _)
  have B := B.trans (bB.mono B.size)
  clear bB
  generalize w7.alloc (.cells #[.bool xs0.1.1.1, .slice adx0 xs0.1.1.2.length cpx0, .bool xs0.1.2.1, .slice aex0 xs0.1.2.2.length cqx0, .int .i64 xs0.2] 30) = w8 at *
  refine (T1 w8 (hr1.below B)).mono ?_
  rintro e w9 ⟨vx1, rfl, ox1, bw9⟩
  have dba0_x1 := apart_of (fun k hk => (oba0.ltb k hk).2) (fun k hk => (ox1.ltb k hk).1)
  have dw0_x1 := apart_of (fun k hk => (ow0.ltb k hk).2) (fun k hk => (ox1.ltb k hk).1)
  have dbw0_x1 := apart_of (fun k hk => (obw0.ltb k hk).2) (fun k hk => (ox1.ltb k hk).1)
  have dx0_x1 := apart_of (fun k hk => (ox0.ltb k hk).2) (fun k hk => (ox1.ltb k hk).1)
  have dbx0_x1 := apart_of (fun k hk => (obx0.ltb k hk).2) (fun k hk => (ox1.ltb k hk).1)
  have mx1 : ∀ k ∈ blkI vx1, w.heap.size ≤ k := fun k hk => Nat.le_trans B.size (ox1.ltb k hk).1
  have oba0 := oba0.below bw9 (Nat.le_refl _)
  have ow0 := ow0.below bw9 (Nat.le_refl _)
  have obw0 := obw0.below bw9 (Nat.le_refl _)
  have ox0 := ox0.below bw9 (Nat.le_refl _)
  have obx0 := obx0.below bw9 (Nat.le_refl _)
  have B := B.trans (bw9.mono B.size)
  clear bw9
  have cba00 := oba0.c0
  have cba01 := oba0.c1
  have cba02 := oba0.c2
  have cba03 := oba0.c3
  have cba04 := oba0.c4
  have hba0 := oba0.hi
  have cbw00 := obw0.c0
  have cbw01 := obw0.c1
  have cbw02 := obw0.c2
  have cbw03 := obw0.c3
  have cbw04 := obw0.c4
  have hbw0 := obw0.hi
  have cbx00 := obx0.c0
  have cbx01 := obx0.c1
  have cbx02 := obx0.c2
  have cbx03 := obx0.c3
  have cbx04 := obx0.c4
  have hbx0 := obx0.hi
  go_wp2_with fail
  clear cba00 cba01 cba02 cba03 cba04 hba0
  clear cbw00 cbw01 cbw02 cbw03 cbw04 hbw0
  clear cbx00 cbx01 cbx02 cbx03 cbx04 hbx0
  refine (I _ _ w9 ox0.row ox1.row).mono ?_
  rintro e w10 ⟨vg0, rfl, og0, bw10⟩
  have dba0_g0 := apart_of (fun k hk => (oba0.ltb k hk).2) (fun k hk => (og0.ltb k hk).1)
  have dw0_g0 := apart_of (fun k hk => (ow0.ltb k hk).2) (fun k hk => (og0.ltb k hk).1)
  have dbw0_g0 := apart_of (fun k hk => (obw0.ltb k hk).2) (fun k hk => (og0.ltb k hk).1)
  have dx0_g0 := apart_of (fun k hk => (ox0.ltb k hk).2) (fun k hk => (og0.ltb k hk).1)
  have dbx0_g0 := apart_of (fun k hk => (obx0.ltb k hk).2) (fun k hk => (og0.ltb k hk).1)
  have dx1_g0 := apart_of (fun k hk => (ox1.ltb k hk).2) (fun k hk => (og0.ltb k hk).1)
  have mg0 : ∀ k ∈ blkP vg0, w.heap.size ≤ k := fun k hk => Nat.le_trans B.size (og0.ltb k hk).1
  obtain ⟨sg0, tg0, rfl, hqg0, hpg0, -⟩ := id og0
  obtain ⟨adg0, cpg0, rfl, -⟩ := hqg0.row
  obtain ⟨aeg0, cqg0, rfl, -⟩ := hpg0.row
  clear hqg0 hpg0
  have oba0 := oba0.below bw10 (Nat.le_refl _)
  have ow0 := ow0.below bw10 (Nat.le_refl _)
  have obw0 := obw0.below bw10 (Nat.le_refl _)
  have ox0 := ox0.below bw10 (Nat.le_refl _)
  have obx0 := obx0.below bw10 (Nat.le_refl _)
  have ox1 := ox1.below bw10 (Nat.le_refl _)
  have B := B.trans (bw10.mono B.size)
  clear bw10
  have cba00 := oba0.c0
  have cba01 := oba0.c1
  have cba02 := oba0.c2
  have cba03 := oba0.c3
  have cba04 := oba0.c4
  have hba0 := oba0.hi
  have cbw00 := obw0.c0
  have cbw01 := obw0.c1
  have cbw02 := obw0.c2
  have cbw03 := obw0.c3
  have cbw04 := obw0.c4
  have hbw0 := obw0.hi
  have cbx00 := obx0.c0
  have cbx01 := obx0.c1
  have cbx02 := obx0.c2
  have cbx03 := obx0.c3
  have cbx04 := obx0.c4
  have hbx0 := obx0.hi
  have eba0 := oba0.below (below1 w10 (.cells #[.bool r0.1.1.1, .slice adg0 r0.1.1.2.length cpg0, .bool r0.1.2.1, .slice aeg0 r0.1.2.2.length cqg0, .int .i64 r0.2] 30)) (Nat.le_refl _)
  have eba00 := eba0.c0
  have eba01 := eba0.c1
  have eba02 := eba0.c2
  have eba03 := eba0.c3
  have eba04 := eba0.c4
  have ebw0 := obw0.below (below1 w10 (.cells #[.bool r0.1.1.1, .slice adg0 r0.1.1.2.length cpg0, .bool r0.1.2.1, .slice aeg0 r0.1.2.2.length cqg0, .int .i64 r0.2] 30)) (Nat.le_refl _)
  have ebw00 := ebw0.c0
  have ebw01 := ebw0.c1
  have ebw02 := ebw0.c2
  have ebw03 := ebw0.c3
  have ebw04 := ebw0.c4
  have ebx0 := obx0.below (below1 w10 (.cells #[.bool r0.1.1.1, .slice adg0 r0.1.1.2.length cpg0, .bool r0.1.2.1, .slice aeg0 r0.1.2.2.length cqg0, .int .i64 r0.2] 30)) (Nat.le_refl _)
  have ebx00 := ebx0.c0
  have ebx01 := ebx0.c1
  have ebx02 := ebx0.c2
  have ebx03 := ebx0.c3
  have ebx04 := ebx0.c4
  go_wp2_with fail
  clear cba00 cba01 cba02 cba03 cba04 hba0
  clear cbw00 cbw01 cbw02 cbw03 cbw04 hbw0
  clear cbx00 cbx01 cbx02 cbx03 cbx04 hbx0
  clear eba0 eba00 eba01 eba02 eba03 eba04
  clear ebw0 ebw00 ebw01 ebw02 ebw03 ebw04
  clear ebx0 ebx00 ebx01 ebx02 ebx03 ebx04
  have hsw11 : (w10.alloc (.cells #[.bool r0.1.1.1, .slice adg0 r0.1.1.2.length cpg0, .bool r0.1.2.1, .slice aeg0 r0.1.2.2.length cqg0, .int .i64 r0.2] 30)).heap.size = w10.heap.size + 1 := by simp
  have bB := below1 w10 (.cells #[.bool r0.1.1.1, .slice adg0 r0.1.1.2.length cpg0, .bool r0.1.2.1, .slice aeg0 r0.1.2.2.length cqg0, .int .i64 r0.2] 30)
  have obg0 := Bx5.made w10 (.bool r0.1.1.1) (.slice adg0 r0.1.1.2.length cpg0) (.bool r0.1.2.1) (.slice aeg0 r0.1.2.2.length cqg0) (.int .i64 r0.2) 30
  have dba0_bg0 := apart_of (fun k hk => (oba0.ltb k hk).2) (fun k hk => (obg0.ltb k hk).1)
  have dw0_bg0 := apart_of (fun k hk => (ow0.ltb k hk).2) (fun k hk => (obg0.ltb k hk).1)
  have dbw0_bg0 := apart_of (fun k hk => (obw0.ltb k hk).2) (fun k hk => (obg0.ltb k hk).1)
  have dx0_bg0 := apart_of (fun k hk => (ox0.ltb k hk).2) (fun k hk => (obg0.ltb k hk).1)
  have dbx0_bg0 := apart_of (fun k hk => (obx0.ltb k hk).2) (fun k hk => (obg0.ltb k hk).1)
  have dx1_bg0 := apart_of (fun k hk => (ox1.ltb k hk).2) (fun k hk => (obg0.ltb k hk).1)
  have dg0_bg0 := apart_of (fun k hk => (og0.ltb k hk).2) (fun k hk => (obg0.ltb k hk).1)
  have oba0 := oba0.below bB (Nat.le_refl _)
  have ow0 := ow0.below bB (Nat.le_refl _)
  have obw0 := obw0.below bB (Nat.le_refl _)
  have ox0 := ox0.below bB (Nat.le_refl _)
  have obx0 := obx0.below bB (Nat.le_refl _)
  have ox1 := ox1.below bB (Nat.le_refl _)
  have og0 := og0.below bB (Nat.le_refl _)
  have B := B.trans (bB.mono B.size)
  clear bB
  generalize w10.alloc (.cells #[.bool r0.1.1.1, .slice adg0 r0.1.1.2.length cpg0, .bool r0.1.2.1, .slice aeg0 r0.1.2.2.length cqg0, .int .i64 r0.2] 30) = w11 at *
  refine (eqP' _ _ _ _ _ w11 (by omega) og0 ow0).mono ?_
  rintro e w12 ⟨rfl, bw12⟩
  have oba0 := oba0.below bw12 (Nat.le_refl _)
  have ow0 := ow0.below bw12 (Nat.le_refl _)
  have obw0 := obw0.below bw12 (Nat.le_refl _)
  have ox0 := ox0.below bw12 (Nat.le_refl _)
  have obx0 := obx0.below bw12 (Nat.le_refl _)
  have ox1 := ox1.below bw12 (Nat.le_refl _)
  have og0 := og0.below bw12 (Nat.le_refl _)
  have obg0 := obg0.below bw12 (Nat.le_refl _)
  have B := B.trans (bw12.mono B.size)
  clear bw12
  -- the copies are as they were
  have bB := (Below.refl w12.heap.size w12).drew
  have cba00 := oba0.c0
  have cba01 := oba0.c1
  have cba02 := oba0.c2
  have cba03 := oba0.c3
  have cba04 := oba0.c4
  have hba0 := oba0.hi
  have cbw00 := obw0.c0
  have cbw01 := obw0.c1
  have cbw02 := obw0.c2
  have cbw03 := obw0.c3
  have cbw04 := obw0.c4
  have hbw0 := obw0.hi
  have cbx00 := obx0.c0
  have cbx01 := obx0.c1
  have cbx02 := obx0.c2
  have cbx03 := obx0.c3
  have cbx04 := obx0.c4
  have hbx0 := obx0.hi
  have cbg00 := obg0.c0
  have cbg01 := obg0.c1
  have cbg02 := obg0.c2
  have cbg03 := obg0.c3
  have cbg04 := obg0.c4
  have hbg0 := obg0.hi
  go_wp2_with fail
  clear cba00 cba01 cba02 cba03 cba04 hba0
  clear cbw00 cbw01 cbw02 cbw03 cbw04 hbw0
  clear cbx00 cbx01 cbx02 cbx03 cbx04 hbx0
  clear cbg00 cbg01 cbg02 cbg03 cbg04 hbg0
  have oba0 := oba0.below bB (Nat.le_refl _)
  have ow0 := ow0.below bB (Nat.le_refl _)
  have obw0 := obw0.below bB (Nat.le_refl _)
  have ox0 := ox0.below bB (Nat.le_refl _)
  have obx0 := obx0.below bB (Nat.le_refl _)
  have ox1 := ox1.below bB (Nat.le_refl _)
  have og0 := og0.below bB (Nat.le_refl _)
  have obg0 := obg0.below bB (Nat.le_refl _)
  have B := B.trans (bB.mono B.size)
  clear bB
  have cba00 := oba0.c0
  have cba01 := oba0.c1
  have cba02 := oba0.c2
  have cba03 := oba0.c3
  have cba04 := oba0.c4
  have cbw00 := obw0.c0
  have cbw01 := obw0.c1
  have cbw02 := obw0.c2
  have cbw03 := obw0.c3
  have cbw04 := obw0.c4
  have cbx00 := obx0.c0
  have cbx01 := obx0.c1
  have cbx02 := obx0.c2
  have cbx03 := obx0.c3
  have cbx04 := obx0.c4
  have cbg00 := obg0.c0
  have cbg01 := obg0.c1
  have cbg02 := obg0.c2
  have cbg03 := obg0.c3
  have cbg04 := obg0.c4
  go_region_held (fun w' => w'.cell? ⟨w.heap.size, 0, none⟩ = some (.bool g0) ∧ w'.cell? ⟨w.heap.size, 1, none⟩ = some (.slice a0 n0 c0) ∧ w'.cell? ⟨w.heap.size, 2, none⟩ = some (.bool gg0) ∧ w'.cell? ⟨w.heap.size, 3, none⟩ = some (.slice aa0 nn0 cc0) ∧ w'.cell? ⟨w.heap.size, 4, none⟩ = some (.int .i64 kk0) ∧ w'.cell? ⟨w5.heap.size, 0, none⟩ = some (.bool r0.1.1.1) ∧ w'.cell? ⟨w5.heap.size, 1, none⟩ = some (.slice adw0 r0.1.1.2.length cpw0) ∧ w'.cell? ⟨w5.heap.size, 2, none⟩ = some (.bool r0.1.2.1) ∧ w'.cell? ⟨w5.heap.size, 3, none⟩ = some (.slice aew0 r0.1.2.2.length cqw0) ∧ w'.cell? ⟨w5.heap.size, 4, none⟩ = some (.int .i64 r0.2) ∧ w'.cell? ⟨w7.heap.size, 0, none⟩ = some (.bool xs0.1.1.1) ∧ w'.cell? ⟨w7.heap.size, 1, none⟩ = some (.slice adx0 xs0.1.1.2.length cpx0) ∧ w'.cell? ⟨w7.heap.size, 2, none⟩ = some (.bool xs0.1.2.1) ∧ w'.cell? ⟨w7.heap.size, 3, none⟩ = some (.slice aex0 xs0.1.2.2.length cqx0) ∧ w'.cell? ⟨w7.heap.size, 4, none⟩ = some (.int .i64 xs0.2) ∧ w'.cell? ⟨w10.heap.size, 0, none⟩ = some (.bool r0.1.1.1) ∧ w'.cell? ⟨w10.heap.size, 1, none⟩ = some (.slice adg0 r0.1.1.2.length cpg0) ∧ w'.cell? ⟨w10.heap.size, 2, none⟩ = some (.bool r0.1.2.1) ∧ w'.cell? ⟨w10.heap.size, 3, none⟩ = some (.slice aeg0 r0.1.2.2.length cqg0) ∧ w'.cell? ⟨w10.heap.size, 4, none⟩ = some (.int .i64 r0.2)) (go_keep) (first
    | (go_at_call_of 9 (Value.slice a0 n0 c0)
       refine (T0 w12.drew (hr0.below B) (hh0.below B)).mono ?_
       rintro e w13 ⟨vy0, rfl, oy0, bw13⟩
       have oba0 := oba0.below bw13 (Nat.le_refl _)
       have ow0 := ow0.below bw13 (Nat.le_refl _)
       have obw0 := obw0.below bw13 (Nat.le_refl _)
       have ox0 := ox0.below bw13 (Nat.le_refl _)
       have obx0 := obx0.below bw13 (Nat.le_refl _)
       have ox1 := ox1.below bw13 (Nat.le_refl _)
       have og0 := og0.below bw13 (Nat.le_refl _)
       have obg0 := obg0.below bw13 (Nat.le_refl _)
       have B := B.trans (bw13.mono B.size)
       clear bw13
       have cba00 := oba0.c0
       have cba01 := oba0.c1
       have cba02 := oba0.c2
       have cba03 := oba0.c3
       have cba04 := oba0.c4
       have cbw00 := obw0.c0
       have cbw01 := obw0.c1
       have cbw02 := obw0.c2
       have cbw03 := obw0.c3
       have cbw04 := obw0.c4
       have cbx00 := obx0.c0
       have cbx01 := obx0.c1
       have cbx02 := obx0.c2
       have cbx03 := obx0.c3
       have cbx04 := obx0.c4
       have cbg00 := obg0.c0
       have cbg01 := obg0.c1
       have cbg02 := obg0.c2
       have cbg03 := obg0.c3
       have cbg04 := obg0.c4)
    | (go_at_call 11
       refine (eqP' _ _ _ _ _ w13 (by omega) ox0 oy0).mono ?_
       rintro e w14 ⟨rfl, bw14⟩
       have oba0 := oba0.below bw14 (Nat.le_refl _)
       have ow0 := ow0.below bw14 (Nat.le_refl _)
       have obw0 := obw0.below bw14 (Nat.le_refl _)
       have ox0 := ox0.below bw14 (Nat.le_refl _)
       have obx0 := obx0.below bw14 (Nat.le_refl _)
       have ox1 := ox1.below bw14 (Nat.le_refl _)
       have og0 := og0.below bw14 (Nat.le_refl _)
       have obg0 := obg0.below bw14 (Nat.le_refl _)
       have oy0 := oy0.below bw14 (Nat.le_refl _)
       have B := B.trans (bw14.mono B.size)
       clear bw14
       have cba00 := oba0.c0
       have cba01 := oba0.c1
       have cba02 := oba0.c2
       have cba03 := oba0.c3
       have cba04 := oba0.c4
       have cbw00 := obw0.c0
       have cbw01 := obw0.c1
       have cbw02 := obw0.c2
       have cbw03 := obw0.c3
       have cbw04 := obw0.c4
       have cbx00 := obx0.c0
       have cbx01 := obx0.c1
       have cbx02 := obx0.c2
       have cbx03 := obx0.c3
       have cbx04 := obx0.c4
       have cbg00 := obg0.c0
       have cbg01 := obg0.c1
       have cbg02 := obg0.c2
       have cbg03 := obg0.c3
       have cbg04 := obg0.c4)
    )
  clear cba00 cba01 cba02 cba03 cba04 cbw00 cbw01 cbw02 cbw03 cbw04 cbx00 cbx01 cbx02 cbx03 cbx04 cbg00 cbg01 cbg02 cbg03 cbg04
  clear oy0
  have cba00 := oba0.c0
  have cba01 := oba0.c1
  have cba02 := oba0.c2
  have cba03 := oba0.c3
  have cba04 := oba0.c4
  have hba0 := oba0.hi
  have cbw00 := obw0.c0
  have cbw01 := obw0.c1
  have cbw02 := obw0.c2
  have cbw03 := obw0.c3
  have cbw04 := obw0.c4
  have hbw0 := obw0.hi
  have cbx00 := obx0.c0
  have cbx01 := obx0.c1
  have cbx02 := obx0.c2
  have cbx03 := obx0.c3
  have cbx04 := obx0.c4
  have hbx0 := obx0.hi
  have cbg00 := obg0.c0
  have cbg01 := obg0.c1
  have cbg02 := obg0.c2
  have cbg03 := obg0.c3
  have cbg04 := obg0.c4
  have hbg0 := obg0.hi
  go_wp2_with fail
  clear cba00 cba01 cba02 cba03 cba04 hba0
  clear cbw00 cbw01 cbw02 cbw03 cbw04 hbw0
  clear cbx00 cbx01 cbx02 cbx03 cbx04 hbx0
  clear cbg00 cbg01 cbg02 cbg03 cbg04 hbg0
  refine (T1 w14 (hr1.below B)).mono ?_
  rintro e w15 ⟨vy1, rfl, oy1, bw15⟩
  have oba0 := oba0.below bw15 (Nat.le_refl _)
  have ow0 := ow0.below bw15 (Nat.le_refl _)
  have obw0 := obw0.below bw15 (Nat.le_refl _)
  have ox0 := ox0.below bw15 (Nat.le_refl _)
  have obx0 := obx0.below bw15 (Nat.le_refl _)
  have ox1 := ox1.below bw15 (Nat.le_refl _)
  have og0 := og0.below bw15 (Nat.le_refl _)
  have obg0 := obg0.below bw15 (Nat.le_refl _)
  have B := B.trans (bw15.mono B.size)
  clear bw15
  have cba00 := oba0.c0
  have cba01 := oba0.c1
  have cba02 := oba0.c2
  have cba03 := oba0.c3
  have cba04 := oba0.c4
  have hba0 := oba0.hi
  have cbw00 := obw0.c0
  have cbw01 := obw0.c1
  have cbw02 := obw0.c2
  have cbw03 := obw0.c3
  have cbw04 := obw0.c4
  have hbw0 := obw0.hi
  have cbx00 := obx0.c0
  have cbx01 := obx0.c1
  have cbx02 := obx0.c2
  have cbx03 := obx0.c3
  have cbx04 := obx0.c4
  have hbx0 := obx0.hi
  have cbg00 := obg0.c0
  have cbg01 := obg0.c1
  have cbg02 := obg0.c2
  have cbg03 := obg0.c3
  have cbg04 := obg0.c4
  have hbg0 := obg0.hi
  go_wp2_with fail
  clear cba00 cba01 cba02 cba03 cba04 hba0
  clear cbw00 cbw01 cbw02 cbw03 cbw04 hbw0
  clear cbx00 cbx01 cbx02 cbx03 cbx04 hbx0
  clear cbg00 cbg01 cbg02 cbg03 cbg04 hbg0
  refine (eqI' _ _ _ _ _ w15 (by omega) ox1 oy1).mono ?_
  rintro e w16 ⟨rfl, bw16⟩
  have oba0 := oba0.below bw16 (Nat.le_refl _)
  have ow0 := ow0.below bw16 (Nat.le_refl _)
  have obw0 := obw0.below bw16 (Nat.le_refl _)
  have ox0 := ox0.below bw16 (Nat.le_refl _)
  have obx0 := obx0.below bw16 (Nat.le_refl _)
  have ox1 := ox1.below bw16 (Nat.le_refl _)
  have og0 := og0.below bw16 (Nat.le_refl _)
  have obg0 := obg0.below bw16 (Nat.le_refl _)
  have oy1 := oy1.below bw16 (Nat.le_refl _)
  have B := B.trans (bw16.mono B.size)
  clear bw16
  clear oy1
  -- marks in the copies do not reach the answer
  have cba00 := oba0.c0
  have cba01 := oba0.c1
  have cba02 := oba0.c2
  have cba03 := oba0.c3
  have cba04 := oba0.c4
  have hba0 := oba0.hi
  have cbw00 := obw0.c0
  have cbw01 := obw0.c1
  have cbw02 := obw0.c2
  have cbw03 := obw0.c3
  have cbw04 := obw0.c4
  have hbw0 := obw0.hi
  have cbx00 := obx0.c0
  have cbx01 := obx0.c1
  have cbx02 := obx0.c2
  have cbx03 := obx0.c3
  have cbx04 := obx0.c4
  have hbx0 := obx0.hi
  have cbg00 := obg0.c0
  have cbg01 := obg0.c1
  have cbg02 := obg0.c2
  have cbg03 := obg0.c3
  have cbg04 := obg0.c4
  have hbg0 := obg0.hi
  go_wp2_with fail
  clear cba00 cba01 cba02 cba03 cba04 hba0
  clear cbw00 cbw01 cbw02 cbw03 cbw04 hbw0
  clear cbx00 cbx01 cbx02 cbx03 cbx04 hbx0
  clear cbg00 cbg01 cbg02 cbg03 cbg04 hbg0
  refine (markP _ _ xs0 (1) w16 (by omega) (by omega) (by omega) (by omega) (by omega) ox0).mono ?_
  rintro e w17 ⟨rfl, oM, gw17⟩
  have oba0 := oba0.tn gw17 dba0_x0
  have ow0 := ow0.tn gw17 dw0_x0
  have obw0 := obw0.tn gw17 dbw0_x0
  have obx0 := obx0.tn gw17 dx0_bx0.symm
  have ox1 := ox1.tn gw17 dx0_x1.symm
  have og0 := og0.tn gw17 dx0_g0.symm
  have obg0 := obg0.tn gw17 dx0_bg0.symm
  have B := gw17.below B B.size mx0
  clear gw17
  clear ox0 oM
  have cba00 := oba0.c0
  have cba01 := oba0.c1
  have cba02 := oba0.c2
  have cba03 := oba0.c3
  have cba04 := oba0.c4
  have hba0 := oba0.hi
  have cbw00 := obw0.c0
  have cbw01 := obw0.c1
  have cbw02 := obw0.c2
  have cbw03 := obw0.c3
  have cbw04 := obw0.c4
  have hbw0 := obw0.hi
  have cbx00 := obx0.c0
  have cbx01 := obx0.c1
  have cbx02 := obx0.c2
  have cbx03 := obx0.c3
  have cbx04 := obx0.c4
  have hbx0 := obx0.hi
  have cbg00 := obg0.c0
  have cbg01 := obg0.c1
  have cbg02 := obg0.c2
  have cbg03 := obg0.c3
  have cbg04 := obg0.c4
  have hbg0 := obg0.hi
  go_wp2_with fail
  clear cba00 cba01 cba02 cba03 cba04 hba0
  clear cbw00 cbw01 cbw02 cbw03 cbw04 hbw0
  clear cbx00 cbx01 cbx02 cbx03 cbx04 hbx0
  clear cbg00 cbg01 cbg02 cbg03 cbg04 hbg0
  refine (markN _ _ xs1 (1 + xs0.1.1.2.length + xs0.1.2.2.length) w17 (by omega) (by omega) (by omega) ox1).mono ?_
  rintro e w18 ⟨rfl, oM, gw18⟩
  have oba0 := oba0.tn gw18 dba0_x1
  have ow0 := ow0.tn gw18 dw0_x1
  have obw0 := obw0.tn gw18 dbw0_x1
  have obx0 := obx0.tn gw18 dbx0_x1
  have og0 := og0.tn gw18 dx1_g0.symm
  have obg0 := obg0.tn gw18 dx1_bg0.symm
  have B := gw18.below B B.size mx1
  clear gw18
  clear ox1 oM
  have hkn : ¬ (((1 : Int) + xs0.1.1.2.length + xs0.1.2.2.length + xs1.length) < 0) := by omega
  have cba00 := oba0.c0
  have cba01 := oba0.c1
  have cba02 := oba0.c2
  have cba03 := oba0.c3
  have cba04 := oba0.c4
  have hba0 := oba0.hi
  have cbw00 := obw0.c0
  have cbw01 := obw0.c1
  have cbw02 := obw0.c2
  have cbw03 := obw0.c3
  have cbw04 := obw0.c4
  have hbw0 := obw0.hi
  have cbx00 := obx0.c0
  have cbx01 := obx0.c1
  have cbx02 := obx0.c2
  have cbx03 := obx0.c3
  have cbx04 := obx0.c4
  have hbx0 := obx0.hi
  have cbg00 := obg0.c0
  have cbg01 := obg0.c1
  have cbg02 := obg0.c2
  have cbg03 := obg0.c3
  have cbg04 := obg0.c4
  have hbg0 := obg0.hi
  go_wp2_with fail
  clear cba00 cba01 cba02 cba03 cba04 hba0
  clear cbw00 cbw01 cbw02 cbw03 cbw04 hbw0
  clear cbx00 cbx01 cbx02 cbx03 cbx04 hbx0
  clear cbg00 cbg01 cbg02 cbg03 cbg04 hbg0
  refine (eqP' _ _ _ _ _ w18 (by omega) og0 ow0).mono ?_
  rintro e w19 ⟨rfl, bw19⟩
  have oba0 := oba0.below bw19 (Nat.le_refl _)
  have ow0 := ow0.below bw19 (Nat.le_refl _)
  have obw0 := obw0.below bw19 (Nat.le_refl _)
  have obx0 := obx0.below bw19 (Nat.le_refl _)
  have og0 := og0.below bw19 (Nat.le_refl _)
  have obg0 := obg0.below bw19 (Nat.le_refl _)
  have B := B.trans (bw19.mono B.size)
  clear bw19
  -- the answer's own memory
  have cba00 := oba0.c0
  have cba01 := oba0.c1
  have cba02 := oba0.c2
  have cba03 := oba0.c3
  have cba04 := oba0.c4
  have hba0 := oba0.hi
  have cbw00 := obw0.c0
  have cbw01 := obw0.c1
  have cbw02 := obw0.c2
  have cbw03 := obw0.c3
  have cbw04 := obw0.c4
  have hbw0 := obw0.hi
  have cbx00 := obx0.c0
  have cbx01 := obx0.c1
  have cbx02 := obx0.c2
  have cbx03 := obx0.c3
  have cbx04 := obx0.c4
  have hbx0 := obx0.hi
  have cbg00 := obg0.c0
  have cbg01 := obg0.c1
  have cbg02 := obg0.c2
  have cbg03 := obg0.c3
  have cbg04 := obg0.c4
  have hbg0 := obg0.hi
  go_wp2_with fail
  clear cba00 cba01 cba02 cba03 cba04 hba0
  clear cbw00 cbw01 cbw02 cbw03 cbw04 hbw0
  clear cbx00 cbx01 cbx02 cbx03 cbx04 hbx0
  clear cbg00 cbg01 cbg02 cbg03 cbg04 hbg0
  refine (markP _ _ r0 (1) w19 (by omega) (by omega) (by omega) (by omega) (by omega) og0).mono ?_
  rintro e w20 ⟨rfl, oM, gw20⟩
  have oba0 := oba0.tn gw20 dba0_g0
  have ow0 := ow0.tn gw20 dw0_g0
  have obw0 := obw0.tn gw20 dbw0_g0
  have obx0 := obx0.tn gw20 dbx0_g0
  have obg0 := obg0.tn gw20 dg0_bg0.symm
  have B := gw20.below B B.size mg0
  clear gw20
  have og0 := oM
  clear oM
  have cba00 := oba0.c0
  have cba01 := oba0.c1
  have cba02 := oba0.c2
  have cba03 := oba0.c3
  have cba04 := oba0.c4
  have hba0 := oba0.hi
  have cbw00 := obw0.c0
  have cbw01 := obw0.c1
  have cbw02 := obw0.c2
  have cbw03 := obw0.c3
  have cbw04 := obw0.c4
  have hbw0 := obw0.hi
  have cbx00 := obx0.c0
  have cbx01 := obx0.c1
  have cbx02 := obx0.c2
  have cbx03 := obx0.c3
  have cbx04 := obx0.c4
  have hbx0 := obx0.hi
  have cbg00 := obg0.c0
  have cbg01 := obg0.c1
  have cbg02 := obg0.c2
  have cbg03 := obg0.c3
  have cbg04 := obg0.c4
  have hbg0 := obg0.hi
  go_wp2_with fail
  clear cba00 cba01 cba02 cba03 cba04 hba0
  clear cbw00 cbw01 cbw02 cbw03 cbw04 hbw0
  clear cbx00 cbx01 cbx02 cbx03 cbx04 hbx0
  clear cbg00 cbg01 cbg02 cbg03 cbg04 hbg0
  refine (heldP _ _ r0.1.1.1 r0.1.2.1 r0.2 (1) r0.1.1.2.length r0.1.2.2.length w20 (by omega) (by omega) (by omega) (by omega) og0).mono ?_
  rintro e w21 ⟨rfl, bw21⟩
  have oba0 := oba0.below bw21 (Nat.le_refl _)
  have ow0 := ow0.below bw21 (Nat.le_refl _)
  have obw0 := obw0.below bw21 (Nat.le_refl _)
  have obx0 := obx0.below bw21 (Nat.le_refl _)
  have og0 := og0.below bw21 (Nat.le_refl _)
  have obg0 := obg0.below bw21 (Nat.le_refl _)
  have B := B.trans (bw21.mono B.size)
  clear bw21
  have cba00 := oba0.c0
  have cba01 := oba0.c1
  have cba02 := oba0.c2
  have cba03 := oba0.c3
  have cba04 := oba0.c4
  have hba0 := oba0.hi
  have cbw00 := obw0.c0
  have cbw01 := obw0.c1
  have cbw02 := obw0.c2
  have cbw03 := obw0.c3
  have cbw04 := obw0.c4
  have hbw0 := obw0.hi
  have cbx00 := obx0.c0
  have cbx01 := obx0.c1
  have cbx02 := obx0.c2
  have cbx03 := obx0.c3
  have cbx04 := obx0.c4
  have hbx0 := obx0.hi
  have cbg00 := obg0.c0
  have cbg01 := obg0.c1
  have cbg02 := obg0.c2
  have cbg03 := obg0.c3
  have cbg04 := obg0.c4
  have hbg0 := obg0.hi
  go_wp2_with fail
  clear cba00 cba01 cba02 cba03 cba04 hba0
  clear cbw00 cbw01 cbw02 cbw03 cbw04 hbw0
  clear cbx00 cbx01 cbx02 cbx03 cbx04 hbx0
  clear cbg00 cbg01 cbg02 cbg03 cbg04 hbg0
  refine (T0 w21 (hr0.below B) (hh0.below B)).mono ?_
  rintro e w22 ⟨vz0, rfl, oz0, bw22⟩
  have oba0 := oba0.below bw22 (Nat.le_refl _)
  have ow0 := ow0.below bw22 (Nat.le_refl _)
  have obw0 := obw0.below bw22 (Nat.le_refl _)
  have obx0 := obx0.below bw22 (Nat.le_refl _)
  have og0 := og0.below bw22 (Nat.le_refl _)
  have obg0 := obg0.below bw22 (Nat.le_refl _)
  have B := B.trans (bw22.mono B.size)
  clear bw22
  have cba00 := oba0.c0
  have cba01 := oba0.c1
  have cba02 := oba0.c2
  have cba03 := oba0.c3
  have cba04 := oba0.c4
  have hba0 := oba0.hi
  have cbw00 := obw0.c0
  have cbw01 := obw0.c1
  have cbw02 := obw0.c2
  have cbw03 := obw0.c3
  have cbw04 := obw0.c4
  have hbw0 := obw0.hi
  have cbx00 := obx0.c0
  have cbx01 := obx0.c1
  have cbx02 := obx0.c2
  have cbx03 := obx0.c3
  have cbx04 := obx0.c4
  have hbx0 := obx0.hi
  have cbg00 := obg0.c0
  have cbg01 := obg0.c1
  have cbg02 := obg0.c2
  have cbg03 := obg0.c3
  have cbg04 := obg0.c4
  have hbg0 := obg0.hi
  go_wp2_with fail
  clear cba00 cba01 cba02 cba03 cba04 hba0
  clear cbw00 cbw01 cbw02 cbw03 cbw04 hbw0
  clear cbx00 cbx01 cbx02 cbx03 cbx04 hbx0
  clear cbg00 cbg01 cbg02 cbg03 cbg04 hbg0
  refine (T1 w22 (hr1.below B)).mono ?_
  rintro e w23 ⟨vz1, rfl, oz1, bw23⟩
  have oba0 := oba0.below bw23 (Nat.le_refl _)
  have ow0 := ow0.below bw23 (Nat.le_refl _)
  have obw0 := obw0.below bw23 (Nat.le_refl _)
  have obx0 := obx0.below bw23 (Nat.le_refl _)
  have og0 := og0.below bw23 (Nat.le_refl _)
  have obg0 := obg0.below bw23 (Nat.le_refl _)
  have oz0 := oz0.below bw23 (Nat.le_refl _)
  have B := B.trans (bw23.mono B.size)
  clear bw23
  have cba00 := oba0.c0
  have cba01 := oba0.c1
  have cba02 := oba0.c2
  have cba03 := oba0.c3
  have cba04 := oba0.c4
  have hba0 := oba0.hi
  have cbw00 := obw0.c0
  have cbw01 := obw0.c1
  have cbw02 := obw0.c2
  have cbw03 := obw0.c3
  have cbw04 := obw0.c4
  have hbw0 := obw0.hi
  have cbx00 := obx0.c0
  have cbx01 := obx0.c1
  have cbx02 := obx0.c2
  have cbx03 := obx0.c3
  have cbx04 := obx0.c4
  have hbx0 := obx0.hi
  have cbg00 := obg0.c0
  have cbg01 := obg0.c1
  have cbg02 := obg0.c2
  have cbg03 := obg0.c3
  have cbg04 := obg0.c4
  have hbg0 := obg0.hi
  go_wp2_with fail
  clear cba00 cba01 cba02 cba03 cba04 hba0
  clear cbw00 cbw01 cbw02 cbw03 cbw04 hbw0
  clear cbx00 cbx01 cbx02 cbx03 cbx04 hbx0
  clear cbg00 cbg01 cbg02 cbg03 cbg04 hbg0
  refine (I _ _ w23 oz0.row oz1.row).mono ?_
  rintro e w24 ⟨vh0, rfl, oh0, bw24⟩
  obtain ⟨sh0, th0, rfl, hqh0, hph0, -⟩ := id oh0
  obtain ⟨adh0, cph0, rfl, -⟩ := hqh0.row
  obtain ⟨aeh0, cqh0, rfl, -⟩ := hph0.row
  clear hqh0 hph0
  have oba0 := oba0.below bw24 (Nat.le_refl _)
  have ow0 := ow0.below bw24 (Nat.le_refl _)
  have obw0 := obw0.below bw24 (Nat.le_refl _)
  have obx0 := obx0.below bw24 (Nat.le_refl _)
  have og0 := og0.below bw24 (Nat.le_refl _)
  have obg0 := obg0.below bw24 (Nat.le_refl _)
  have oz0 := oz0.below bw24 (Nat.le_refl _)
  have oz1 := oz1.below bw24 (Nat.le_refl _)
  have B := B.trans (bw24.mono B.size)
  clear bw24
  clear oz0 oz1
  have cba00 := oba0.c0
  have cba01 := oba0.c1
  have cba02 := oba0.c2
  have cba03 := oba0.c3
  have cba04 := oba0.c4
  have hba0 := oba0.hi
  have cbw00 := obw0.c0
  have cbw01 := obw0.c1
  have cbw02 := obw0.c2
  have cbw03 := obw0.c3
  have cbw04 := obw0.c4
  have hbw0 := obw0.hi
  have cbx00 := obx0.c0
  have cbx01 := obx0.c1
  have cbx02 := obx0.c2
  have cbx03 := obx0.c3
  have cbx04 := obx0.c4
  have hbx0 := obx0.hi
  have cbg00 := obg0.c0
  have cbg01 := obg0.c1
  have cbg02 := obg0.c2
  have cbg03 := obg0.c3
  have cbg04 := obg0.c4
  have hbg0 := obg0.hi
  have eba0 := oba0.below (below1 w24 (.cells #[.bool r0.1.1.1, .slice adh0 r0.1.1.2.length cph0, .bool r0.1.2.1, .slice aeh0 r0.1.2.2.length cqh0, .int .i64 r0.2] 30)) (Nat.le_refl _)
  have eba00 := eba0.c0
  have eba01 := eba0.c1
  have eba02 := eba0.c2
  have eba03 := eba0.c3
  have eba04 := eba0.c4
  have ebw0 := obw0.below (below1 w24 (.cells #[.bool r0.1.1.1, .slice adh0 r0.1.1.2.length cph0, .bool r0.1.2.1, .slice aeh0 r0.1.2.2.length cqh0, .int .i64 r0.2] 30)) (Nat.le_refl _)
  have ebw00 := ebw0.c0
  have ebw01 := ebw0.c1
  have ebw02 := ebw0.c2
  have ebw03 := ebw0.c3
  have ebw04 := ebw0.c4
  have ebx0 := obx0.below (below1 w24 (.cells #[.bool r0.1.1.1, .slice adh0 r0.1.1.2.length cph0, .bool r0.1.2.1, .slice aeh0 r0.1.2.2.length cqh0, .int .i64 r0.2] 30)) (Nat.le_refl _)
  have ebx00 := ebx0.c0
  have ebx01 := ebx0.c1
  have ebx02 := ebx0.c2
  have ebx03 := ebx0.c3
  have ebx04 := ebx0.c4
  have ebg0 := obg0.below (below1 w24 (.cells #[.bool r0.1.1.1, .slice adh0 r0.1.1.2.length cph0, .bool r0.1.2.1, .slice aeh0 r0.1.2.2.length cqh0, .int .i64 r0.2] 30)) (Nat.le_refl _)
  have ebg00 := ebg0.c0
  have ebg01 := ebg0.c1
  have ebg02 := ebg0.c2
  have ebg03 := ebg0.c3
  have ebg04 := ebg0.c4
  go_wp2_with fail
  clear cba00 cba01 cba02 cba03 cba04 hba0
  clear cbw00 cbw01 cbw02 cbw03 cbw04 hbw0
  clear cbx00 cbx01 cbx02 cbx03 cbx04 hbx0
  clear cbg00 cbg01 cbg02 cbg03 cbg04 hbg0
  clear eba0 eba00 eba01 eba02 eba03 eba04
  clear ebw0 ebw00 ebw01 ebw02 ebw03 ebw04
  clear ebx0 ebx00 ebx01 ebx02 ebx03 ebx04
  clear ebg0 ebg00 ebg01 ebg02 ebg03 ebg04
  have hsw25 : (w24.alloc (.cells #[.bool r0.1.1.1, .slice adh0 r0.1.1.2.length cph0, .bool r0.1.2.1, .slice aeh0 r0.1.2.2.length cqh0, .int .i64 r0.2] 30)).heap.size = w24.heap.size + 1 := by simp
  have bB := below1 w24 (.cells #[.bool r0.1.1.1, .slice adh0 r0.1.1.2.length cph0, .bool r0.1.2.1, .slice aeh0 r0.1.2.2.length cqh0, .int .i64 r0.2] 30)
  have obh0 := Bx5.made w24 (.bool r0.1.1.1) (.slice adh0 r0.1.1.2.length cph0) (.bool r0.1.2.1) (.slice aeh0 r0.1.2.2.length cqh0) (.int .i64 r0.2) 30
  have dba0_bh0 := apart_of (fun k hk => (oba0.ltb k hk).2) (fun k hk => (obh0.ltb k hk).1)
  have dw0_bh0 := apart_of (fun k hk => (ow0.ltb k hk).2) (fun k hk => (obh0.ltb k hk).1)
  have dbw0_bh0 := apart_of (fun k hk => (obw0.ltb k hk).2) (fun k hk => (obh0.ltb k hk).1)
  have dbx0_bh0 := apart_of (fun k hk => (obx0.ltb k hk).2) (fun k hk => (obh0.ltb k hk).1)
  have dg0_bh0 := apart_of (fun k hk => (og0.ltb k hk).2) (fun k hk => (obh0.ltb k hk).1)
  have dbg0_bh0 := apart_of (fun k hk => (obg0.ltb k hk).2) (fun k hk => (obh0.ltb k hk).1)
  have dh0_bh0 := apart_of (fun k hk => (oh0.ltb k hk).2) (fun k hk => (obh0.ltb k hk).1)
  have oba0 := oba0.below bB (Nat.le_refl _)
  have ow0 := ow0.below bB (Nat.le_refl _)
  have obw0 := obw0.below bB (Nat.le_refl _)
  have obx0 := obx0.below bB (Nat.le_refl _)
  have og0 := og0.below bB (Nat.le_refl _)
  have obg0 := obg0.below bB (Nat.le_refl _)
  have oh0 := oh0.below bB (Nat.le_refl _)
  have B := B.trans (bB.mono B.size)
  clear bB
  generalize w24.alloc (.cells #[.bool r0.1.1.1, .slice adh0 r0.1.1.2.length cph0, .bool r0.1.2.1, .slice aeh0 r0.1.2.2.length cqh0, .int .i64 r0.2] 30) = w25 at *
  refine (eqP' _ _ _ _ _ w25 (by omega) oh0 ow0).mono ?_
  rintro e w26 ⟨rfl, bw26⟩
  have oba0 := oba0.below bw26 (Nat.le_refl _)
  have ow0 := ow0.below bw26 (Nat.le_refl _)
  have obw0 := obw0.below bw26 (Nat.le_refl _)
  have obx0 := obx0.below bw26 (Nat.le_refl _)
  have og0 := og0.below bw26 (Nat.le_refl _)
  have obg0 := obg0.below bw26 (Nat.le_refl _)
  have oh0 := oh0.below bw26 (Nat.le_refl _)
  have obh0 := obh0.below bw26 (Nat.le_refl _)
  have B := B.trans (bw26.mono B.size)
  clear bw26
  have cba00 := oba0.c0
  have cba01 := oba0.c1
  have cba02 := oba0.c2
  have cba03 := oba0.c3
  have cba04 := oba0.c4
  have hba0 := oba0.hi
  have cbw00 := obw0.c0
  have cbw01 := obw0.c1
  have cbw02 := obw0.c2
  have cbw03 := obw0.c3
  have cbw04 := obw0.c4
  have hbw0 := obw0.hi
  have cbx00 := obx0.c0
  have cbx01 := obx0.c1
  have cbx02 := obx0.c2
  have cbx03 := obx0.c3
  have cbx04 := obx0.c4
  have hbx0 := obx0.hi
  have cbg00 := obg0.c0
  have cbg01 := obg0.c1
  have cbg02 := obg0.c2
  have cbg03 := obg0.c3
  have cbg04 := obg0.c4
  have hbg0 := obg0.hi
  have cbh00 := obh0.c0
  have cbh01 := obh0.c1
  have cbh02 := obh0.c2
  have cbh03 := obh0.c3
  have cbh04 := obh0.c4
  have hbh0 := obh0.hi
  go_wp2_with fail
  clear cba00 cba01 cba02 cba03 cba04 hba0
  clear cbw00 cbw01 cbw02 cbw03 cbw04 hbw0
  clear cbx00 cbx01 cbx02 cbx03 cbx04 hbx0
  clear cbg00 cbg01 cbg02 cbg03 cbg04 hbg0
  clear cbh00 cbh01 cbh02 cbh03 cbh04 hbh0
  refine (heldP _ _ r0.1.1.1 r0.1.2.1 r0.2 (1) r0.1.1.2.length r0.1.2.2.length w26 (by omega) (by omega) (by omega) (by omega) og0).mono ?_
  rintro e w27 ⟨rfl, bw27⟩
  have oba0 := oba0.below bw27 (Nat.le_refl _)
  have ow0 := ow0.below bw27 (Nat.le_refl _)
  have obw0 := obw0.below bw27 (Nat.le_refl _)
  have obx0 := obx0.below bw27 (Nat.le_refl _)
  have og0 := og0.below bw27 (Nat.le_refl _)
  have obg0 := obg0.below bw27 (Nat.le_refl _)
  have oh0 := oh0.below bw27 (Nat.le_refl _)
  have obh0 := obh0.below bw27 (Nat.le_refl _)
  have B := B.trans (bw27.mono B.size)
  clear bw27
  have cba00 := oba0.c0
  have cba01 := oba0.c1
  have cba02 := oba0.c2
  have cba03 := oba0.c3
  have cba04 := oba0.c4
  have hba0 := oba0.hi
  have cbw00 := obw0.c0
  have cbw01 := obw0.c1
  have cbw02 := obw0.c2
  have cbw03 := obw0.c3
  have cbw04 := obw0.c4
  have hbw0 := obw0.hi
  have cbx00 := obx0.c0
  have cbx01 := obx0.c1
  have cbx02 := obx0.c2
  have cbx03 := obx0.c3
  have cbx04 := obx0.c4
  have hbx0 := obx0.hi
  have cbg00 := obg0.c0
  have cbg01 := obg0.c1
  have cbg02 := obg0.c2
  have cbg03 := obg0.c3
  have cbg04 := obg0.c4
  have hbg0 := obg0.hi
  have cbh00 := obh0.c0
  have cbh01 := obh0.c1
  have cbh02 := obh0.c2
  have cbh03 := obh0.c3
  have cbh04 := obh0.c4
  have hbh0 := obh0.hi
  go_wp2
  go_ret
  exact ⟨rfl, B⟩

set_option maxHeartbeats 1600000 in
theorem walkSpinRun (g0 : Bool) (a0 : Option Addr) (n0 c0 : Nat) (zs0 : List Int) (gg0 : Bool) (aa0 : Option Addr) (nn0 cc0 : Nat) (zz0 : List Int) (kk0 : Int) (a1 : Option Addr) (n1 c1 : Nat) (zs1 : List Int) (w : World) (hr0 : IsRow .i64 w a0 n0 c0 zs0) (hh0 : IsRow .i64 w aa0 nn0 cc0 zz0) (hr1 : IsRow .i64 w a1 n1 c1 zs1) (hR : n0 + nn0 ≤ 1048576 → (runR (((g0, zs0.take n0), (gg0, zz0.take nn0)), kk0) (zs1.take n1)).1.1.1.2.length ≤ 1048576 ∧ (runR (((g0, zs0.take n0), (gg0, zz0.take nn0)), kk0) (zs1.take n1)).1.1.2.2.length ≤ 1048576)
    (hS : ∀ (va0 : Value) (xs0 : Ph) (va1 : Value) (xs1 : List Int) (W : World), rowP W va0 xs0 → xs0.1.1.2.length ≤ 1048576 → xs0.1.2.2.length ≤ 1048576 → rowI W va1 xs1 → xs1.length ≤ 1048576 → Calls Try.prog 14 #[va0, va1] W (fun e w' => ∃ v0, e = .returned (.tuple #[v0, .bool (runR xs0 xs1).2]) ∧ ownsP w' W.heap.size v0 (runR xs0 xs1).1 ∧ Below W.heap.size W w'))
    (hI : ∀ (va0 : Value) (xs0 : Ph) (va1 : Value) (xs1 : List Int) (W : World), rowP W va0 xs0 → xs0.1.1.2.length ≤ 1048576 → xs0.1.2.2.length ≤ 1048576 → rowI W va1 xs1 → xs1.length ≤ 1048576 → Calls Try.prog 16 #[va0, va1] W (fun e w' => ∃ v0, e = .returned (.tuple #[v0, .bool (runR xs0 xs1).2]) ∧ ownsP w' W.heap.size v0 (runR xs0 xs1).1 ∧ Below W.heap.size W w')) :
    Calls Try.prog 4 #[.agg #[.bool g0, .slice a0 n0 c0, .bool gg0, .slice aa0 nn0 cc0, .int .i64 kk0], .slice a1 n1 c1] w fun e w' => e = .returned (.bool true) ∧ Below w.heap.size w w' := by
  by_cases h1 : n1 ≤ 1048576
  · skip
    by_cases h0 : n0 + nn0 ≤ 1048576
    · skip
      exact walkSpinRun_in g0 a0 n0 c0 zs0 gg0 aa0 nn0 cc0 zz0 kk0 a1 n1 c1 zs1 w h1 (by omega) hr0 hh0 hr1 (hR (by omega)) hS hI
    · have hL0 := And.intro hr0.len_le hh0.len_le
      have h1' : ¬ (1048576 : Int) < (n1 : Int) := by omega
      clear hS hI
      have B := Below.refl w.heap.size w
      go_enter Try.func4, Try.ntmps4
      go_wp2_with fail
      have hsw1 : (w.alloc (.cells #[.bool g0, .slice a0 n0 c0, .bool gg0, .slice aa0 nn0 cc0, .int .i64 kk0] 26)).heap.size = w.heap.size + 1 := by simp
      have bB := below1 w (.cells #[.bool g0, .slice a0 n0 c0, .bool gg0, .slice aa0 nn0 cc0, .int .i64 kk0] 26)
      have oba0 := Bx5.made w (.bool g0) (.slice a0 n0 c0) (.bool gg0) (.slice aa0 nn0 cc0) (.int .i64 kk0) 26
      have B := B.trans (bB.mono B.size)
      clear bB
      generalize w.alloc (.cells #[.bool g0, .slice a0 n0 c0, .bool gg0, .slice aa0 nn0 cc0, .int .i64 kk0] 26) = w1 at *
      refine (szP_no g0 a0 n0 c0 gg0 aa0 nn0 cc0 kk0 ((1048576 : Int)) w1 (by omega) (by omega) hL0.1 hL0.2 (by omega)).mono ?_
      rintro e w2 ⟨rfl, bw2⟩
      have oba0 := oba0.below bw2 (Nat.le_refl _)
      have B := B.trans (bw2.mono B.size)
      clear bw2
      have cba00 := oba0.c0
      have cba01 := oba0.c1
      have cba02 := oba0.c2
      have cba03 := oba0.c3
      have cba04 := oba0.c4
      have hba0 := oba0.hi
      go_wp2
      go_ret
      exact ⟨rfl, B⟩
  · have h1' : (1048576 : Int) < (n1 : Int) := by omega
    clear hS hI
    go_enter Try.func4, Try.ntmps4
    go_wp2
    go_ret
    first | exact ⟨rfl, Below.refl _ _⟩ | exact ⟨rfl, below1 _ _⟩ | exact ⟨rfl, below2 _ _ _⟩

end Go.Proofs.Ytkbnfillbdjboaa
