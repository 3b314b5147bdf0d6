/- The law FnExactAnswerSame: its walk, out of the two contracts (written by genlawb.py). -/
import Derived.Test.YtocaaklhlmnonaaAnsB
import Derived.Deep.RegionHeld
namespace Go.Proofs.Ytocaaklhlmnonaa
open Go.RowKit
set_option linter.unusedSimpArgs false

set_option maxRecDepth 20000 in
set_option maxHeartbeats 6400000 in
theorem walkAnswerSame_in (c0 v0 u0 s0 : Int) (t0 : ByteArray) (a0 : Option Addr) (n0 k0 : Nat) (zs0 : List Int) (c1 v1 u1 s1 : Int) (t1 : ByteArray) (a1 : Option Addr) (n1 k1 : Nat) (zs1 : List Int)  (w : World) (hsum : t0.size + n0 + t1.size + n1 ≤ 1048576) (hs0 : t0.size ≤ 9223372036854775807) (hr0 : IsRow .u8 w a0 n0 k0 zs0) (hs1 : t1.size ≤ 9223372036854775807) (hr1 : IsRow .u8 w a1 n1 k1 zs1)
    (hS : ∀ (va0 : Value) (xs0 : Ah) (va1 : Value) (xs1 : Ah)  (W : World), rowA W va0 xs0 → xs0.b.length ≤ 1048576 → rowA W va1 xs1 → xs1.b.length ≤ 1048576 → Calls Try.prog 25 #[va0, va1] W (fun e w' => e = .returned (.bool (ansR xs0 xs1)) ∧ Below W.heap.size W w'))
    (hI : ∀ (va0 : Value) (xs0 : Ah) (va1 : Value) (xs1 : Ah)  (W : World), rowA W va0 xs0 → xs0.b.length ≤ 1048576 → rowA W va1 xs1 → xs1.b.length ≤ 1048576 → Calls Try.prog 27 #[va0, va1] W (fun e w' => e = .returned (.bool (ansR xs0 xs1)) ∧ Below W.heap.size W w')) :
    Calls Try.prog 7 #[.agg #[.int .i64 c0, .int .i64 v0, .int .i64 u0, .int .i64 s0, .string t0, .slice a0 n0 k0], .agg #[.int .i64 c1, .int .i64 v1, .int .i64 u1, .int .i64 s1, .string t1, .slice a1 n1 k1]] w fun e w' => e = .returned (.bool true) ∧ Below w.heap.size w w' := by
  have h0' : ¬ ((1048576 : Int) - (t0.size : Int) - (n0 : Int) < 0) := by omega
  have h1' : ¬ ((1048576 : Int) - (t0.size : Int) - (n0 : Int) - (t1.size : Int) - (n1 : Int) < 0) := by omega
  have T0 : ∀ W : World, IsRow .u8 W a0 n0 k0 zs0 → Calls Try.prog 26 #[.agg #[.int .i64 c0, .int .i64 v0, .int .i64 u0, .int .i64 s0, .string t0, .slice a0 n0 k0]] W fun e w' => ∃ v, e = .returned v ∧ ownsA w' W.heap.size v (⟨c0, v0, u0, s0, t0, zs0.take n0⟩ : Ah) ∧ Below W.heap.size W w' := fun W h0 => toA c0 v0 u0 s0 t0 a0 n0 k0 zs0 W (by omega) h0
  have l0_0 : (⟨c0, v0, u0, s0, t0, zs0.take n0⟩ : Ah).b.length ≤ 1048576 := by show (zs0.take n0).length ≤ 1048576; rw [List.length_take]; omega
  obtain ⟨xs0, hxs0⟩ : ∃ xs : Ah, (⟨c0, v0, u0, s0, t0, zs0.take n0⟩ : Ah) = xs := ⟨_, rfl⟩
  rw [hxs0] at T0 l0_0
  clear hxs0
  have T1 : ∀ W : World, IsRow .u8 W a1 n1 k1 zs1 → Calls Try.prog 26 #[.agg #[.int .i64 c1, .int .i64 v1, .int .i64 u1, .int .i64 s1, .string t1, .slice a1 n1 k1]] W fun e w' => ∃ v, e = .returned v ∧ ownsA w' W.heap.size v (⟨c1, v1, u1, s1, t1, zs1.take n1⟩ : Ah) ∧ Below W.heap.size W w' := fun W h0 => toA c1 v1 u1 s1 t1 a1 n1 k1 zs1 W (by omega) h0
  have l1_0 : (⟨c1, v1, u1, s1, t1, zs1.take n1⟩ : Ah).b.length ≤ 1048576 := by show (zs1.take n1).length ≤ 1048576; rw [List.length_take]; omega
  obtain ⟨xs1, hxs1⟩ : ∃ xs : Ah, (⟨c1, v1, u1, s1, t1, zs1.take n1⟩ : Ah) = xs := ⟨_, rfl⟩
  rw [hxs1] at T1 l1_0
  clear hxs1
  have S := fun va0 va1 W q0 q1 => hS va0 xs0 va1 xs1 W q0 l0_0 q1 l1_0
  have I := fun va0 va1 W q0 q1 => hI va0 xs0 va1 xs1 W q0 l0_0 q1 l1_0
  obtain ⟨r0, hr⟩ : ∃ r0, ansR xs0 xs1 = r0 := ⟨_, rfl⟩
  simp only [hr] at S I
  clear hS hI hr
  have eb0 : (r0 != r0) = false := by simp
  have B := Below.refl w.heap.size w
  go_enter Try.func7, Try.ntmps7
  go_wp2_with fail
  have hsw1 : (w.alloc (.cells #[.int .i64 c0, .int .i64 v0, .int .i64 u0, .int .i64 s0, .string t0, .slice a0 n0 k0] 32)).heap.size = w.heap.size + 1 := by simp
  have bB := below1 w (.cells #[.int .i64 c0, .int .i64 v0, .int .i64 u0, .int .i64 s0, .string t0, .slice a0 n0 k0] 32)
  have oba0 := Bx6.made w (.int .i64 c0) (.int .i64 v0) (.int .i64 u0) (.int .i64 s0) (.string t0) (.slice a0 n0 k0) 32
  have B := B.trans (bB.mono B.size)
  clear bB
  generalize w.alloc (.cells #[.int .i64 c0, .int .i64 v0, .int .i64 u0, .int .i64 s0, .string t0, .slice a0 n0 k0] 32) = w1 at *
  have hsw2 : (w1.alloc (.cells #[.int .i64 c1, .int .i64 v1, .int .i64 u1, .int .i64 s1, .string t1, .slice a1 n1 k1] 32)).heap.size = w1.heap.size + 1 := by simp
  have bB := below1 w1 (.cells #[.int .i64 c1, .int .i64 v1, .int .i64 u1, .int .i64 s1, .string t1, .slice a1 n1 k1] 32)
  have oba1 := Bx6.made w1 (.int .i64 c1) (.int .i64 v1) (.int .i64 u1) (.int .i64 s1) (.string t1) (.slice a1 n1 k1) 32
  rw [hsw1] at oba1
  have oba0 := oba0.below bB (Nat.le_refl _)
  have B := B.trans (bB.mono B.size)
  clear bB
  generalize w1.alloc (.cells #[.int .i64 c1, .int .i64 v1, .int .i64 u1, .int .i64 s1, .string t1, .slice a1 n1 k1] 32) = w2 at *
  refine (szA_yes c0 v0 u0 s0 t0 a0 n0 k0 ((1048576 : Int)) w2 (by omega) (by omega)).mono ?_
  rintro e w3 ⟨rfl, bw3⟩
  have oba0 := oba0.below bw3 (Nat.le_refl _)
  have oba1 := oba1.below bw3 (Nat.le_refl _)
  have B := B.trans (bw3.mono B.size)
  clear bw3
  have cba00 := oba0.c0
  have cba01 := oba0.c1
  have cba02 := oba0.c2
  have cba03 := oba0.c3
  have cba04 := oba0.c4
  have cba05 := oba0.c5
  have hba0 := oba0.hi
  have cba10 := oba1.c0
  have cba11 := oba1.c1
  have cba12 := oba1.c2
  have cba13 := oba1.c3
  have cba14 := oba1.c4
  have cba15 := oba1.c5
  have hba1 := oba1.hi
  go_wp2_with fail
  clear cba00 cba01 cba02 cba03 cba04 cba05 hba0
  clear cba10 cba11 cba12 cba13 cba14 cba15 hba1
  refine (szA_yes c1 v1 u1 s1 t1 a1 n1 k1 ((1048576 : Int) - (t0.size : Int) - (n0 : Int)) w3 (by omega) (by omega)).mono ?_
  rintro e w4 ⟨rfl, bw4⟩
  have oba0 := oba0.below bw4 (Nat.le_refl _)
  have oba1 := oba1.below bw4 (Nat.le_refl _)
  have B := B.trans (bw4.mono B.size)
  clear bw4
  -- the specification's answer
  have bB := (Below.refl w4.heap.size w4).drew
  have cba00 := oba0.c0
  have cba01 := oba0.c1
  have cba02 := oba0.c2
  have cba03 := oba0.c3
  have cba04 := oba0.c4
  have cba05 := oba0.c5
  have hba0 := oba0.hi
  have cba10 := oba1.c0
  have cba11 := oba1.c1
  have cba12 := oba1.c2
  have cba13 := oba1.c3
  have cba14 := oba1.c4
  have cba15 := oba1.c5
  have hba1 := oba1.hi
  go_wp2_with fail
  clear cba00 cba01 cba02 cba03 cba04 cba05 hba0
  clear cba10 cba11 cba12 cba13 cba14 cba15 hba1
  have oba0 := oba0.below bB (Nat.le_refl _)
  have oba1 := oba1.below bB (Nat.le_refl _)
  have B := B.trans (bB.mono B.size)
  clear bB
  have cba00 := oba0.c0
  have cba01 := oba0.c1
  have cba02 := oba0.c2
  have cba03 := oba0.c3
  have cba04 := oba0.c4
  have cba05 := oba0.c5
  have cba10 := oba1.c0
  have cba11 := oba1.c1
  have cba12 := oba1.c2
  have cba13 := oba1.c3
  have cba14 := oba1.c4
  have cba15 := oba1.c5
  go_region_held (fun w' => w'.cell? ⟨w.heap.size, 0, none⟩ = some (.int .i64 c0) ∧ w'.cell? ⟨w.heap.size, 1, none⟩ = some (.int .i64 v0) ∧ w'.cell? ⟨w.heap.size, 2, none⟩ = some (.int .i64 u0) ∧ w'.cell? ⟨w.heap.size, 3, none⟩ = some (.int .i64 s0) ∧ w'.cell? ⟨w.heap.size, 4, none⟩ = some (.string t0) ∧ w'.cell? ⟨w.heap.size, 5, none⟩ = some (.slice a0 n0 k0) ∧ w'.cell? ⟨w.heap.size + 1, 0, none⟩ = some (.int .i64 c1) ∧ w'.cell? ⟨w.heap.size + 1, 1, none⟩ = some (.int .i64 v1) ∧ w'.cell? ⟨w.heap.size + 1, 2, none⟩ = some (.int .i64 u1) ∧ w'.cell? ⟨w.heap.size + 1, 3, none⟩ = some (.int .i64 s1) ∧ w'.cell? ⟨w.heap.size + 1, 4, none⟩ = some (.string t1) ∧ w'.cell? ⟨w.heap.size + 1, 5, none⟩ = some (.slice a1 n1 k1)) (go_keep) (first
    | (go_at_call_of 26 (Value.slice a0 n0 k0)
       refine (T0 w4.drew (hr0.below B)).mono ?_
       rintro e w5 ⟨vs0, rfl, os0, bw5⟩
       have oba0 := oba0.below bw5 (Nat.le_refl _)
       have oba1 := oba1.below bw5 (Nat.le_refl _)
       have B := B.trans (bw5.mono B.size)
       clear bw5
       have cba00 := oba0.c0
       have cba01 := oba0.c1
       have cba02 := oba0.c2
       have cba03 := oba0.c3
       have cba04 := oba0.c4
       have cba05 := oba0.c5
       have cba10 := oba1.c0
       have cba11 := oba1.c1
       have cba12 := oba1.c2
       have cba13 := oba1.c3
       have cba14 := oba1.c4
       have cba15 := oba1.c5)
    | (go_at_call_of 26 (Value.slice a1 n1 k1)
       refine (T1 w5 (hr1.below B)).mono ?_
       rintro e w6 ⟨vs1, rfl, os1, bw6⟩
       have oba0 := oba0.below bw6 (Nat.le_refl _)
       have oba1 := oba1.below bw6 (Nat.le_refl _)
       have os0 := os0.below bw6 (Nat.le_refl _)
       have B := B.trans (bw6.mono B.size)
       clear bw6
       have cba00 := oba0.c0
       have cba01 := oba0.c1
       have cba02 := oba0.c2
       have cba03 := oba0.c3
       have cba04 := oba0.c4
       have cba05 := oba0.c5
       have cba10 := oba1.c0
       have cba11 := oba1.c1
       have cba12 := oba1.c2
       have cba13 := oba1.c3
       have cba14 := oba1.c4
       have cba15 := oba1.c5)
    | (go_at_call 25
       refine (S _ _ w6 os0.row os1.row).mono ?_
       rintro e w7 ⟨rfl, bw7⟩
       have oba0 := oba0.below bw7 (Nat.le_refl _)
       have oba1 := oba1.below bw7 (Nat.le_refl _)
       have os0 := os0.below bw7 (Nat.le_refl _)
       have os1 := os1.below bw7 (Nat.le_refl _)
       have B := B.trans (bw7.mono B.size)
       clear bw7
       have cba00 := oba0.c0
       have cba01 := oba0.c1
       have cba02 := oba0.c2
       have cba03 := oba0.c3
       have cba04 := oba0.c4
       have cba05 := oba0.c5
       have cba10 := oba1.c0
       have cba11 := oba1.c1
       have cba12 := oba1.c2
       have cba13 := oba1.c3
       have cba14 := oba1.c4
       have cba15 := oba1.c5)
    )
  clear cba00 cba01 cba02 cba03 cba04 cba05
  clear cba10 cba11 cba12 cba13 cba14 cba15
  clear os0
  clear os1
  -- the arguments, copied; the program's answer
  have cba00 := oba0.c0
  have cba01 := oba0.c1
  have cba02 := oba0.c2
  have cba03 := oba0.c3
  have cba04 := oba0.c4
  have cba05 := oba0.c5
  have hba0 := oba0.hi
  have cba10 := oba1.c0
  have cba11 := oba1.c1
  have cba12 := oba1.c2
  have cba13 := oba1.c3
  have cba14 := oba1.c4
  have cba15 := oba1.c5
  have hba1 := oba1.hi
  go_wp2_with fail
  clear cba00 cba01 cba02 cba03 cba04 cba05 hba0
  clear cba10 cba11 cba12 cba13 cba14 cba15 hba1
  refine (T0 w7 (hr0.below B)).mono ?_
  rintro e w8 ⟨vx0, rfl, ox0, bw8⟩
  obtain ⟨sx0, rfl, hqx0⟩ := id ox0
  obtain ⟨adx0, cpx0, rfl⟩ := hqx0.form
  clear hqx0
  have oba0 := oba0.below bw8 (Nat.le_refl _)
  have oba1 := oba1.below bw8 (Nat.le_refl _)
  have B := B.trans (bw8.mono B.size)
  clear bw8
  have cba00 := oba0.c0
  have cba01 := oba0.c1
  have cba02 := oba0.c2
  have cba03 := oba0.c3
  have cba04 := oba0.c4
  have cba05 := oba0.c5
  have hba0 := oba0.hi
  have cba10 := oba1.c0
  have cba11 := oba1.c1
  have cba12 := oba1.c2
  have cba13 := oba1.c3
  have cba14 := oba1.c4
  have cba15 := oba1.c5
  have hba1 := oba1.hi
  have eba0 := oba0.below (below1 w8 (.cells #[.int .i64 xs0.c, .int .i64 xs0.v, .int .i64 xs0.u, .int .i64 xs0.s, .string xs0.t, .slice adx0 xs0.b.length cpx0] 35)) (Nat.le_refl _)
  have eba00 := eba0.c0
  have eba01 := eba0.c1
  have eba02 := eba0.c2
  have eba03 := eba0.c3
  have eba04 := eba0.c4
  have eba05 := eba0.c5
  have eba1 := oba1.below (below1 w8 (.cells #[.int .i64 xs0.c, .int .i64 xs0.v, .int .i64 xs0.u, .int .i64 xs0.s, .string xs0.t, .slice adx0 xs0.b.length cpx0] 35)) (Nat.le_refl _)
  have eba10 := eba1.c0
  have eba11 := eba1.c1
  have eba12 := eba1.c2
  have eba13 := eba1.c3
  have eba14 := eba1.c4
  have eba15 := eba1.c5
  go_wp2_with fail
  clear cba00 cba01 cba02 cba03 cba04 cba05 hba0
  clear cba10 cba11 cba12 cba13 cba14 cba15 hba1
  clear eba0 eba00 eba01 eba02 eba03 eba04 eba05
  clear eba1 eba10 eba11 eba12 eba13 eba14 eba15
  have hsw9 : (w8.alloc (.cells #[.int .i64 xs0.c, .int .i64 xs0.v, .int .i64 xs0.u, .int .i64 xs0.s, .string xs0.t, .slice adx0 xs0.b.length cpx0] 35)).heap.size = w8.heap.size + 1 := by simp
  have bB := below1 w8 (.cells #[.int .i64 xs0.c, .int .i64 xs0.v, .int .i64 xs0.u, .int .i64 xs0.s, .string xs0.t, .slice adx0 xs0.b.length cpx0] 35)
  have obx0 := Bx6.made w8 (.int .i64 xs0.c) (.int .i64 xs0.v) (.int .i64 xs0.u) (.int .i64 xs0.s) (.string xs0.t) (.slice adx0 xs0.b.length cpx0) 35
  have oba0 := oba0.below bB (Nat.le_refl _)
  have oba1 := oba1.below bB (Nat.le_refl _)
  have ox0 := ox0.below bB (Nat.le_refl _)
  have B := B.trans (bB.mono B.size)
  clear bB
  generalize w8.alloc (.cells #[.int .i64 xs0.c, .int .i64 xs0.v, .int .i64 xs0.u, .int .i64 xs0.s, .string xs0.t, .slice adx0 xs0.b.length cpx0] 35) = w9 at *
  refine (T1 w9 (hr1.below B)).mono ?_
  rintro e w10 ⟨vx1, rfl, ox1, bw10⟩
  obtain ⟨sx1, rfl, hqx1⟩ := id ox1
  obtain ⟨adx1, cpx1, rfl⟩ := hqx1.form
  clear hqx1
  have oba0 := oba0.below bw10 (Nat.le_refl _)
  have oba1 := oba1.below bw10 (Nat.le_refl _)
  have ox0 := ox0.below bw10 (Nat.le_refl _)
  have obx0 := obx0.below bw10 (Nat.le_refl _)
  have B := B.trans (bw10.mono B.size)
  clear bw10
  have cba00 := oba0.c0
  have cba01 := oba0.c1
  have cba02 := oba0.c2
  have cba03 := oba0.c3
  have cba04 := oba0.c4
  have cba05 := oba0.c5
  have hba0 := oba0.hi
  have cba10 := oba1.c0
  have cba11 := oba1.c1
  have cba12 := oba1.c2
  have cba13 := oba1.c3
  have cba14 := oba1.c4
  have cba15 := oba1.c5
  have hba1 := oba1.hi
  have cbx00 := obx0.c0
  have cbx01 := obx0.c1
  have cbx02 := obx0.c2
  have cbx03 := obx0.c3
  have cbx04 := obx0.c4
  have cbx05 := obx0.c5
  have hbx0 := obx0.hi
  have eba0 := oba0.below (below1 w10 (.cells #[.int .i64 xs1.c, .int .i64 xs1.v, .int .i64 xs1.u, .int .i64 xs1.s, .string xs1.t, .slice adx1 xs1.b.length cpx1] 35)) (Nat.le_refl _)
  have eba00 := eba0.c0
  have eba01 := eba0.c1
  have eba02 := eba0.c2
  have eba03 := eba0.c3
  have eba04 := eba0.c4
  have eba05 := eba0.c5
  have eba1 := oba1.below (below1 w10 (.cells #[.int .i64 xs1.c, .int .i64 xs1.v, .int .i64 xs1.u, .int .i64 xs1.s, .string xs1.t, .slice adx1 xs1.b.length cpx1] 35)) (Nat.le_refl _)
  have eba10 := eba1.c0
  have eba11 := eba1.c1
  have eba12 := eba1.c2
  have eba13 := eba1.c3
  have eba14 := eba1.c4
  have eba15 := eba1.c5
  have ebx0 := obx0.below (below1 w10 (.cells #[.int .i64 xs1.c, .int .i64 xs1.v, .int .i64 xs1.u, .int .i64 xs1.s, .string xs1.t, .slice adx1 xs1.b.length cpx1] 35)) (Nat.le_refl _)
  have ebx00 := ebx0.c0
  have ebx01 := ebx0.c1
  have ebx02 := ebx0.c2
  have ebx03 := ebx0.c3
  have ebx04 := ebx0.c4
  have ebx05 := ebx0.c5
  go_wp2_with fail
  clear cba00 cba01 cba02 cba03 cba04 cba05 hba0
  clear cba10 cba11 cba12 cba13 cba14 cba15 hba1
  clear cbx00 cbx01 cbx02 cbx03 cbx04 cbx05 hbx0
  clear eba0 eba00 eba01 eba02 eba03 eba04 eba05
  clear eba1 eba10 eba11 eba12 eba13 eba14 eba15
  clear ebx0 ebx00 ebx01 ebx02 ebx03 ebx04 ebx05
  have hsw11 : (w10.alloc (.cells #[.int .i64 xs1.c, .int .i64 xs1.v, .int .i64 xs1.u, .int .i64 xs1.s, .string xs1.t, .slice adx1 xs1.b.length cpx1] 35)).heap.size = w10.heap.size + 1 := by simp
  have bB := below1 w10 (.cells #[.int .i64 xs1.c, .int .i64 xs1.v, .int .i64 xs1.u, .int .i64 xs1.s, .string xs1.t, .slice adx1 xs1.b.length cpx1] 35)
  have obx1 := Bx6.made w10 (.int .i64 xs1.c) (.int .i64 xs1.v) (.int .i64 xs1.u) (.int .i64 xs1.s) (.string xs1.t) (.slice adx1 xs1.b.length cpx1) 35
  have oba0 := oba0.below bB (Nat.le_refl _)
  have oba1 := oba1.below bB (Nat.le_refl _)
  have ox0 := ox0.below bB (Nat.le_refl _)
  have obx0 := obx0.below bB (Nat.le_refl _)
  have ox1 := ox1.below bB (Nat.le_refl _)
  have B := B.trans (bB.mono B.size)
  clear bB
  generalize w10.alloc (.cells #[.int .i64 xs1.c, .int .i64 xs1.v, .int .i64 xs1.u, .int .i64 xs1.s, .string xs1.t, .slice adx1 xs1.b.length cpx1] 35) = w11 at *
  refine (I _ _ w11 ox0.row ox1.row).mono ?_
  rintro e w12 ⟨rfl, bw12⟩
  have oba0 := oba0.below bw12 (Nat.le_refl _)
  have oba1 := oba1.below bw12 (Nat.le_refl _)
  have ox0 := ox0.below bw12 (Nat.le_refl _)
  have obx0 := obx0.below bw12 (Nat.le_refl _)
  have ox1 := ox1.below bw12 (Nat.le_refl _)
  have obx1 := obx1.below bw12 (Nat.le_refl _)
  have B := B.trans (bw12.mono B.size)
  clear bw12
  -- the copies are as they were
  have bB := (Below.refl w12.heap.size w12).drew
  have cba00 := oba0.c0
  have cba01 := oba0.c1
  have cba02 := oba0.c2
  have cba03 := oba0.c3
  have cba04 := oba0.c4
  have cba05 := oba0.c5
  have hba0 := oba0.hi
  have cba10 := oba1.c0
  have cba11 := oba1.c1
  have cba12 := oba1.c2
  have cba13 := oba1.c3
  have cba14 := oba1.c4
  have cba15 := oba1.c5
  have hba1 := oba1.hi
  have cbx00 := obx0.c0
  have cbx01 := obx0.c1
  have cbx02 := obx0.c2
  have cbx03 := obx0.c3
  have cbx04 := obx0.c4
  have cbx05 := obx0.c5
  have hbx0 := obx0.hi
  have cbx10 := obx1.c0
  have cbx11 := obx1.c1
  have cbx12 := obx1.c2
  have cbx13 := obx1.c3
  have cbx14 := obx1.c4
  have cbx15 := obx1.c5
  have hbx1 := obx1.hi
  go_wp2_with fail
  clear cba00 cba01 cba02 cba03 cba04 cba05 hba0
  clear cba10 cba11 cba12 cba13 cba14 cba15 hba1
  clear cbx00 cbx01 cbx02 cbx03 cbx04 cbx05 hbx0
  clear cbx10 cbx11 cbx12 cbx13 cbx14 cbx15 hbx1
  have oba0 := oba0.below bB (Nat.le_refl _)
  have oba1 := oba1.below bB (Nat.le_refl _)
  have ox0 := ox0.below bB (Nat.le_refl _)
  have obx0 := obx0.below bB (Nat.le_refl _)
  have ox1 := ox1.below bB (Nat.le_refl _)
  have obx1 := obx1.below bB (Nat.le_refl _)
  have B := B.trans (bB.mono B.size)
  clear bB
  have cba00 := oba0.c0
  have cba01 := oba0.c1
  have cba02 := oba0.c2
  have cba03 := oba0.c3
  have cba04 := oba0.c4
  have cba05 := oba0.c5
  have cba10 := oba1.c0
  have cba11 := oba1.c1
  have cba12 := oba1.c2
  have cba13 := oba1.c3
  have cba14 := oba1.c4
  have cba15 := oba1.c5
  have cbx00 := obx0.c0
  have cbx01 := obx0.c1
  have cbx02 := obx0.c2
  have cbx03 := obx0.c3
  have cbx04 := obx0.c4
  have cbx05 := obx0.c5
  have cbx10 := obx1.c0
  have cbx11 := obx1.c1
  have cbx12 := obx1.c2
  have cbx13 := obx1.c3
  have cbx14 := obx1.c4
  have cbx15 := obx1.c5
  go_region_held (fun w' => w'.cell? ⟨w.heap.size, 0, none⟩ = some (.int .i64 c0) ∧ w'.cell? ⟨w.heap.size, 1, none⟩ = some (.int .i64 v0) ∧ w'.cell? ⟨w.heap.size, 2, none⟩ = some (.int .i64 u0) ∧ w'.cell? ⟨w.heap.size, 3, none⟩ = some (.int .i64 s0) ∧ w'.cell? ⟨w.heap.size, 4, none⟩ = some (.string t0) ∧ w'.cell? ⟨w.heap.size, 5, none⟩ = some (.slice a0 n0 k0) ∧ w'.cell? ⟨w.heap.size + 1, 0, none⟩ = some (.int .i64 c1) ∧ w'.cell? ⟨w.heap.size + 1, 1, none⟩ = some (.int .i64 v1) ∧ w'.cell? ⟨w.heap.size + 1, 2, none⟩ = some (.int .i64 u1) ∧ w'.cell? ⟨w.heap.size + 1, 3, none⟩ = some (.int .i64 s1) ∧ w'.cell? ⟨w.heap.size + 1, 4, none⟩ = some (.string t1) ∧ w'.cell? ⟨w.heap.size + 1, 5, none⟩ = some (.slice a1 n1 k1) ∧ w'.cell? ⟨w8.heap.size, 0, none⟩ = some (.int .i64 xs0.c) ∧ w'.cell? ⟨w8.heap.size, 1, none⟩ = some (.int .i64 xs0.v) ∧ w'.cell? ⟨w8.heap.size, 2, none⟩ = some (.int .i64 xs0.u) ∧ w'.cell? ⟨w8.heap.size, 3, none⟩ = some (.int .i64 xs0.s) ∧ w'.cell? ⟨w8.heap.size, 4, none⟩ = some (.string xs0.t) ∧ w'.cell? ⟨w8.heap.size, 5, none⟩ = some (.slice adx0 xs0.b.length cpx0) ∧ w'.cell? ⟨w10.heap.size, 0, none⟩ = some (.int .i64 xs1.c) ∧ w'.cell? ⟨w10.heap.size, 1, none⟩ = some (.int .i64 xs1.v) ∧ w'.cell? ⟨w10.heap.size, 2, none⟩ = some (.int .i64 xs1.u) ∧ w'.cell? ⟨w10.heap.size, 3, none⟩ = some (.int .i64 xs1.s) ∧ w'.cell? ⟨w10.heap.size, 4, none⟩ = some (.string xs1.t) ∧ w'.cell? ⟨w10.heap.size, 5, none⟩ = some (.slice adx1 xs1.b.length cpx1)) (go_keep) (first
    | (go_at_call_of 26 (Value.slice a0 n0 k0)
       refine (T0 w12.drew (hr0.below B)).mono ?_
       rintro e w13 ⟨vy0, rfl, oy0, bw13⟩
       have oba0 := oba0.below bw13 (Nat.le_refl _)
       have oba1 := oba1.below bw13 (Nat.le_refl _)
       have ox0 := ox0.below bw13 (Nat.le_refl _)
       have obx0 := obx0.below bw13 (Nat.le_refl _)
       have ox1 := ox1.below bw13 (Nat.le_refl _)
       have obx1 := obx1.below bw13 (Nat.le_refl _)
       have B := B.trans (bw13.mono B.size)
       clear bw13
       have cba00 := oba0.c0
       have cba01 := oba0.c1
       have cba02 := oba0.c2
       have cba03 := oba0.c3
       have cba04 := oba0.c4
       have cba05 := oba0.c5
       have cba10 := oba1.c0
       have cba11 := oba1.c1
       have cba12 := oba1.c2
       have cba13 := oba1.c3
       have cba14 := oba1.c4
       have cba15 := oba1.c5
       have cbx00 := obx0.c0
       have cbx01 := obx0.c1
       have cbx02 := obx0.c2
       have cbx03 := obx0.c3
       have cbx04 := obx0.c4
       have cbx05 := obx0.c5
       have cbx10 := obx1.c0
       have cbx11 := obx1.c1
       have cbx12 := obx1.c2
       have cbx13 := obx1.c3
       have cbx14 := obx1.c4
       have cbx15 := obx1.c5)
    | (go_at_call 28
       refine (eqA' _ _ _ _ _ w13 (by omega) ox0 oy0).mono ?_
       rintro e w14 ⟨rfl, bw14⟩
       have oba0 := oba0.below bw14 (Nat.le_refl _)
       have oba1 := oba1.below bw14 (Nat.le_refl _)
       have ox0 := ox0.below bw14 (Nat.le_refl _)
       have obx0 := obx0.below bw14 (Nat.le_refl _)
       have ox1 := ox1.below bw14 (Nat.le_refl _)
       have obx1 := obx1.below bw14 (Nat.le_refl _)
       have oy0 := oy0.below bw14 (Nat.le_refl _)
       have B := B.trans (bw14.mono B.size)
       clear bw14
       have cba00 := oba0.c0
       have cba01 := oba0.c1
       have cba02 := oba0.c2
       have cba03 := oba0.c3
       have cba04 := oba0.c4
       have cba05 := oba0.c5
       have cba10 := oba1.c0
       have cba11 := oba1.c1
       have cba12 := oba1.c2
       have cba13 := oba1.c3
       have cba14 := oba1.c4
       have cba15 := oba1.c5
       have cbx00 := obx0.c0
       have cbx01 := obx0.c1
       have cbx02 := obx0.c2
       have cbx03 := obx0.c3
       have cbx04 := obx0.c4
       have cbx05 := obx0.c5
       have cbx10 := obx1.c0
       have cbx11 := obx1.c1
       have cbx12 := obx1.c2
       have cbx13 := obx1.c3
       have cbx14 := obx1.c4
       have cbx15 := obx1.c5)
    )
  clear cba00 cba01 cba02 cba03 cba04 cba05
  clear cba10 cba11 cba12 cba13 cba14 cba15
  clear cbx00 cbx01 cbx02 cbx03 cbx04 cbx05
  clear cbx10 cbx11 cbx12 cbx13 cbx14 cbx15
  clear oy0
  have bB := (Below.refl w14.heap.size w14).drew
  have cba00 := oba0.c0
  have cba01 := oba0.c1
  have cba02 := oba0.c2
  have cba03 := oba0.c3
  have cba04 := oba0.c4
  have cba05 := oba0.c5
  have hba0 := oba0.hi
  have cba10 := oba1.c0
  have cba11 := oba1.c1
  have cba12 := oba1.c2
  have cba13 := oba1.c3
  have cba14 := oba1.c4
  have cba15 := oba1.c5
  have hba1 := oba1.hi
  have cbx00 := obx0.c0
  have cbx01 := obx0.c1
  have cbx02 := obx0.c2
  have cbx03 := obx0.c3
  have cbx04 := obx0.c4
  have cbx05 := obx0.c5
  have hbx0 := obx0.hi
  have cbx10 := obx1.c0
  have cbx11 := obx1.c1
  have cbx12 := obx1.c2
  have cbx13 := obx1.c3
  have cbx14 := obx1.c4
  have cbx15 := obx1.c5
  have hbx1 := obx1.hi
  go_wp2_with fail
  clear cba00 cba01 cba02 cba03 cba04 cba05 hba0
  clear cba10 cba11 cba12 cba13 cba14 cba15 hba1
  clear cbx00 cbx01 cbx02 cbx03 cbx04 cbx05 hbx0
  clear cbx10 cbx11 cbx12 cbx13 cbx14 cbx15 hbx1
  have oba0 := oba0.below bB (Nat.le_refl _)
  have oba1 := oba1.below bB (Nat.le_refl _)
  have ox0 := ox0.below bB (Nat.le_refl _)
  have obx0 := obx0.below bB (Nat.le_refl _)
  have ox1 := ox1.below bB (Nat.le_refl _)
  have obx1 := obx1.below bB (Nat.le_refl _)
  have B := B.trans (bB.mono B.size)
  clear bB
  have cba00 := oba0.c0
  have cba01 := oba0.c1
  have cba02 := oba0.c2
  have cba03 := oba0.c3
  have cba04 := oba0.c4
  have cba05 := oba0.c5
  have cba10 := oba1.c0
  have cba11 := oba1.c1
  have cba12 := oba1.c2
  have cba13 := oba1.c3
  have cba14 := oba1.c4
  have cba15 := oba1.c5
  have cbx00 := obx0.c0
  have cbx01 := obx0.c1
  have cbx02 := obx0.c2
  have cbx03 := obx0.c3
  have cbx04 := obx0.c4
  have cbx05 := obx0.c5
  have cbx10 := obx1.c0
  have cbx11 := obx1.c1
  have cbx12 := obx1.c2
  have cbx13 := obx1.c3
  have cbx14 := obx1.c4
  have cbx15 := obx1.c5
  go_region_held (fun w' => w'.cell? ⟨w.heap.size, 0, none⟩ = some (.int .i64 c0) ∧ w'.cell? ⟨w.heap.size, 1, none⟩ = some (.int .i64 v0) ∧ w'.cell? ⟨w.heap.size, 2, none⟩ = some (.int .i64 u0) ∧ w'.cell? ⟨w.heap.size, 3, none⟩ = some (.int .i64 s0) ∧ w'.cell? ⟨w.heap.size, 4, none⟩ = some (.string t0) ∧ w'.cell? ⟨w.heap.size, 5, none⟩ = some (.slice a0 n0 k0) ∧ w'.cell? ⟨w.heap.size + 1, 0, none⟩ = some (.int .i64 c1) ∧ w'.cell? ⟨w.heap.size + 1, 1, none⟩ = some (.int .i64 v1) ∧ w'.cell? ⟨w.heap.size + 1, 2, none⟩ = some (.int .i64 u1) ∧ w'.cell? ⟨w.heap.size + 1, 3, none⟩ = some (.int .i64 s1) ∧ w'.cell? ⟨w.heap.size + 1, 4, none⟩ = some (.string t1) ∧ w'.cell? ⟨w.heap.size + 1, 5, none⟩ = some (.slice a1 n1 k1) ∧ w'.cell? ⟨w8.heap.size, 0, none⟩ = some (.int .i64 xs0.c) ∧ w'.cell? ⟨w8.heap.size, 1, none⟩ = some (.int .i64 xs0.v) ∧ w'.cell? ⟨w8.heap.size, 2, none⟩ = some (.int .i64 xs0.u) ∧ w'.cell? ⟨w8.heap.size, 3, none⟩ = some (.int .i64 xs0.s) ∧ w'.cell? ⟨w8.heap.size, 4, none⟩ = some (.string xs0.t) ∧ w'.cell? ⟨w8.heap.size, 5, none⟩ = some (.slice adx0 xs0.b.length cpx0) ∧ w'.cell? ⟨w10.heap.size, 0, none⟩ = some (.int .i64 xs1.c) ∧ w'.cell? ⟨w10.heap.size, 1, none⟩ = some (.int .i64 xs1.v) ∧ w'.cell? ⟨w10.heap.size, 2, none⟩ = some (.int .i64 xs1.u) ∧ w'.cell? ⟨w10.heap.size, 3, none⟩ = some (.int .i64 xs1.s) ∧ w'.cell? ⟨w10.heap.size, 4, none⟩ = some (.string xs1.t) ∧ w'.cell? ⟨w10.heap.size, 5, none⟩ = some (.slice adx1 xs1.b.length cpx1)) (go_keep) (first
    | (go_at_call_of 26 (Value.slice a1 n1 k1)
       refine (T1 w14.drew (hr1.below B)).mono ?_
       rintro e w15 ⟨vy1, rfl, oy1, bw15⟩
       have oba0 := oba0.below bw15 (Nat.le_refl _)
       have oba1 := oba1.below bw15 (Nat.le_refl _)
       have ox0 := ox0.below bw15 (Nat.le_refl _)
       have obx0 := obx0.below bw15 (Nat.le_refl _)
       have ox1 := ox1.below bw15 (Nat.le_refl _)
       have obx1 := obx1.below bw15 (Nat.le_refl _)
       have B := B.trans (bw15.mono B.size)
       clear bw15
       have cba00 := oba0.c0
       have cba01 := oba0.c1
       have cba02 := oba0.c2
       have cba03 := oba0.c3
       have cba04 := oba0.c4
       have cba05 := oba0.c5
       have cba10 := oba1.c0
       have cba11 := oba1.c1
       have cba12 := oba1.c2
       have cba13 := oba1.c3
       have cba14 := oba1.c4
       have cba15 := oba1.c5
       have cbx00 := obx0.c0
       have cbx01 := obx0.c1
       have cbx02 := obx0.c2
       have cbx03 := obx0.c3
       have cbx04 := obx0.c4
       have cbx05 := obx0.c5
       have cbx10 := obx1.c0
       have cbx11 := obx1.c1
       have cbx12 := obx1.c2
       have cbx13 := obx1.c3
       have cbx14 := obx1.c4
       have cbx15 := obx1.c5)
    | (go_at_call 28
       refine (eqA' _ _ _ _ _ w15 (by omega) ox1 oy1).mono ?_
       rintro e w16 ⟨rfl, bw16⟩
       have oba0 := oba0.below bw16 (Nat.le_refl _)
       have oba1 := oba1.below bw16 (Nat.le_refl _)
       have ox0 := ox0.below bw16 (Nat.le_refl _)
       have obx0 := obx0.below bw16 (Nat.le_refl _)
       have ox1 := ox1.below bw16 (Nat.le_refl _)
       have obx1 := obx1.below bw16 (Nat.le_refl _)
       have oy1 := oy1.below bw16 (Nat.le_refl _)
       have B := B.trans (bw16.mono B.size)
       clear bw16
       have cba00 := oba0.c0
       have cba01 := oba0.c1
       have cba02 := oba0.c2
       have cba03 := oba0.c3
       have cba04 := oba0.c4
       have cba05 := oba0.c5
       have cba10 := oba1.c0
       have cba11 := oba1.c1
       have cba12 := oba1.c2
       have cba13 := oba1.c3
       have cba14 := oba1.c4
       have cba15 := oba1.c5
       have cbx00 := obx0.c0
       have cbx01 := obx0.c1
       have cbx02 := obx0.c2
       have cbx03 := obx0.c3
       have cbx04 := obx0.c4
       have cbx05 := obx0.c5
       have cbx10 := obx1.c0
       have cbx11 := obx1.c1
       have cbx12 := obx1.c2
       have cbx13 := obx1.c3
       have cbx14 := obx1.c4
       have cbx15 := obx1.c5)
    )
  clear cba00 cba01 cba02 cba03 cba04 cba05
  clear cba10 cba11 cba12 cba13 cba14 cba15
  clear cbx00 cbx01 cbx02 cbx03 cbx04 cbx05
  clear cbx10 cbx11 cbx12 cbx13 cbx14 cbx15
  clear oy1
  have cba00 := oba0.c0
  have cba01 := oba0.c1
  have cba02 := oba0.c2
  have cba03 := oba0.c3
  have cba04 := oba0.c4
  have cba05 := oba0.c5
  have hba0 := oba0.hi
  have cba10 := oba1.c0
  have cba11 := oba1.c1
  have cba12 := oba1.c2
  have cba13 := oba1.c3
  have cba14 := oba1.c4
  have cba15 := oba1.c5
  have hba1 := oba1.hi
  have cbx00 := obx0.c0
  have cbx01 := obx0.c1
  have cbx02 := obx0.c2
  have cbx03 := obx0.c3
  have cbx04 := obx0.c4
  have cbx05 := obx0.c5
  have hbx0 := obx0.hi
  have cbx10 := obx1.c0
  have cbx11 := obx1.c1
  have cbx12 := obx1.c2
  have cbx13 := obx1.c3
  have cbx14 := obx1.c4
  have cbx15 := obx1.c5
  have hbx1 := obx1.hi
  go_wp2
  go_ret
  exact ⟨rfl, B⟩

set_option maxRecDepth 20000 in
set_option maxHeartbeats 6400000 in
theorem walkAnswerSame (c0 v0 u0 s0 : Int) (t0 : ByteArray) (a0 : Option Addr) (n0 k0 : Nat) (zs0 : List Int) (c1 v1 u1 s1 : Int) (t1 : ByteArray) (a1 : Option Addr) (n1 k1 : Nat) (zs1 : List Int)  (w : World) (hs0 : t0.size ≤ 9223372036854775807) (hr0 : IsRow .u8 w a0 n0 k0 zs0) (hs1 : t1.size ≤ 9223372036854775807) (hr1 : IsRow .u8 w a1 n1 k1 zs1)
    (hS : ∀ (va0 : Value) (xs0 : Ah) (va1 : Value) (xs1 : Ah)  (W : World), rowA W va0 xs0 → xs0.b.length ≤ 1048576 → rowA W va1 xs1 → xs1.b.length ≤ 1048576 → Calls Try.prog 25 #[va0, va1] W (fun e w' => e = .returned (.bool (ansR xs0 xs1)) ∧ Below W.heap.size W w'))
    (hI : ∀ (va0 : Value) (xs0 : Ah) (va1 : Value) (xs1 : Ah)  (W : World), rowA W va0 xs0 → xs0.b.length ≤ 1048576 → rowA W va1 xs1 → xs1.b.length ≤ 1048576 → Calls Try.prog 27 #[va0, va1] W (fun e w' => e = .returned (.bool (ansR xs0 xs1)) ∧ Below W.heap.size W w')) :
    Calls Try.prog 7 #[.agg #[.int .i64 c0, .int .i64 v0, .int .i64 u0, .int .i64 s0, .string t0, .slice a0 n0 k0], .agg #[.int .i64 c1, .int .i64 v1, .int .i64 u1, .int .i64 s1, .string t1, .slice a1 n1 k1]] w fun e w' => e = .returned (.bool true) ∧ Below w.heap.size w w' := by
  by_cases h0 : t0.size + n0 ≤ 1048576
  · skip
    by_cases h1 : t0.size + n0 + t1.size + n1 ≤ 1048576
    · skip
      exact walkAnswerSame_in c0 v0 u0 s0 t0 a0 n0 k0 zs0 c1 v1 u1 s1 t1 a1 n1 k1 zs1 w (by omega) hs0 hr0 hs1 hr1 hS hI
    · have hL1 := hr1.len_le
      have h0' : ¬ ((1048576 : Int) - (t0.size : Int) - (n0 : Int) < 0) := by omega
      clear hS hI
      have B := Below.refl w.heap.size w
      go_enter Try.func7, Try.ntmps7
      go_wp2_with fail
      have hsw1 : (w.alloc (.cells #[.int .i64 c0, .int .i64 v0, .int .i64 u0, .int .i64 s0, .string t0, .slice a0 n0 k0] 32)).heap.size = w.heap.size + 1 := by simp
      have bB := below1 w (.cells #[.int .i64 c0, .int .i64 v0, .int .i64 u0, .int .i64 s0, .string t0, .slice a0 n0 k0] 32)
      have oba0 := Bx6.made w (.int .i64 c0) (.int .i64 v0) (.int .i64 u0) (.int .i64 s0) (.string t0) (.slice a0 n0 k0) 32
      have B := B.trans (bB.mono B.size)
      clear bB
      generalize w.alloc (.cells #[.int .i64 c0, .int .i64 v0, .int .i64 u0, .int .i64 s0, .string t0, .slice a0 n0 k0] 32) = w1 at *
      have hsw2 : (w1.alloc (.cells #[.int .i64 c1, .int .i64 v1, .int .i64 u1, .int .i64 s1, .string t1, .slice a1 n1 k1] 32)).heap.size = w1.heap.size + 1 := by simp
      have bB := below1 w1 (.cells #[.int .i64 c1, .int .i64 v1, .int .i64 u1, .int .i64 s1, .string t1, .slice a1 n1 k1] 32)
      have oba1 := Bx6.made w1 (.int .i64 c1) (.int .i64 v1) (.int .i64 u1) (.int .i64 s1) (.string t1) (.slice a1 n1 k1) 32
      rw [hsw1] at oba1
      have oba0 := oba0.below bB (Nat.le_refl _)
      have B := B.trans (bB.mono B.size)
      clear bB
      generalize w1.alloc (.cells #[.int .i64 c1, .int .i64 v1, .int .i64 u1, .int .i64 s1, .string t1, .slice a1 n1 k1] 32) = w2 at *
      refine (szA_yes c0 v0 u0 s0 t0 a0 n0 k0 ((1048576 : Int)) w2 (by omega) (by omega)).mono ?_
      rintro e w3 ⟨rfl, bw3⟩
      have oba0 := oba0.below bw3 (Nat.le_refl _)
      have oba1 := oba1.below bw3 (Nat.le_refl _)
      have B := B.trans (bw3.mono B.size)
      clear bw3
      have cba00 := oba0.c0
      have cba01 := oba0.c1
      have cba02 := oba0.c2
      have cba03 := oba0.c3
      have cba04 := oba0.c4
      have cba05 := oba0.c5
      have hba0 := oba0.hi
      have cba10 := oba1.c0
      have cba11 := oba1.c1
      have cba12 := oba1.c2
      have cba13 := oba1.c3
      have cba14 := oba1.c4
      have cba15 := oba1.c5
      have hba1 := oba1.hi
      go_wp2_with fail
      clear cba00 cba01 cba02 cba03 cba04 cba05 hba0
      clear cba10 cba11 cba12 cba13 cba14 cba15 hba1
      refine (szA_no c1 v1 u1 s1 t1 a1 n1 k1 ((1048576 : Int) - (t0.size : Int) - (n0 : Int)) w3 (by omega) (by omega) hs1 hL1 (by omega)).mono ?_
      rintro e w4 ⟨rfl, bw4⟩
      have oba0 := oba0.below bw4 (Nat.le_refl _)
      have oba1 := oba1.below bw4 (Nat.le_refl _)
      have B := B.trans (bw4.mono B.size)
      clear bw4
      have cba00 := oba0.c0
      have cba01 := oba0.c1
      have cba02 := oba0.c2
      have cba03 := oba0.c3
      have cba04 := oba0.c4
      have cba05 := oba0.c5
      have hba0 := oba0.hi
      have cba10 := oba1.c0
      have cba11 := oba1.c1
      have cba12 := oba1.c2
      have cba13 := oba1.c3
      have cba14 := oba1.c4
      have cba15 := oba1.c5
      have hba1 := oba1.hi
      go_wp2
      go_ret
      exact ⟨rfl, B⟩
  · have hL0 := hr0.len_le
    clear hS hI
    have B := Below.refl w.heap.size w
    go_enter Try.func7, Try.ntmps7
    go_wp2_with fail
    have hsw1 : (w.alloc (.cells #[.int .i64 c0, .int .i64 v0, .int .i64 u0, .int .i64 s0, .string t0, .slice a0 n0 k0] 32)).heap.size = w.heap.size + 1 := by simp
    have bB := below1 w (.cells #[.int .i64 c0, .int .i64 v0, .int .i64 u0, .int .i64 s0, .string t0, .slice a0 n0 k0] 32)
    have oba0 := Bx6.made w (.int .i64 c0) (.int .i64 v0) (.int .i64 u0) (.int .i64 s0) (.string t0) (.slice a0 n0 k0) 32
    have B := B.trans (bB.mono B.size)
    clear bB
    generalize w.alloc (.cells #[.int .i64 c0, .int .i64 v0, .int .i64 u0, .int .i64 s0, .string t0, .slice a0 n0 k0] 32) = w1 at *
    have hsw2 : (w1.alloc (.cells #[.int .i64 c1, .int .i64 v1, .int .i64 u1, .int .i64 s1, .string t1, .slice a1 n1 k1] 32)).heap.size = w1.heap.size + 1 := by simp
    have bB := below1 w1 (.cells #[.int .i64 c1, .int .i64 v1, .int .i64 u1, .int .i64 s1, .string t1, .slice a1 n1 k1] 32)
    have oba1 := Bx6.made w1 (.int .i64 c1) (.int .i64 v1) (.int .i64 u1) (.int .i64 s1) (.string t1) (.slice a1 n1 k1) 32
    rw [hsw1] at oba1
    have oba0 := oba0.below bB (Nat.le_refl _)
    have B := B.trans (bB.mono B.size)
    clear bB
    generalize w1.alloc (.cells #[.int .i64 c1, .int .i64 v1, .int .i64 u1, .int .i64 s1, .string t1, .slice a1 n1 k1] 32) = w2 at *
    refine (szA_no c0 v0 u0 s0 t0 a0 n0 k0 ((1048576 : Int)) w2 (by omega) (by omega) hs0 hL0 (by omega)).mono ?_
    rintro e w3 ⟨rfl, bw3⟩
    have oba0 := oba0.below bw3 (Nat.le_refl _)
    have oba1 := oba1.below bw3 (Nat.le_refl _)
    have B := B.trans (bw3.mono B.size)
    clear bw3
    have cba00 := oba0.c0
    have cba01 := oba0.c1
    have cba02 := oba0.c2
    have cba03 := oba0.c3
    have cba04 := oba0.c4
    have cba05 := oba0.c5
    have hba0 := oba0.hi
    have cba10 := oba1.c0
    have cba11 := oba1.c1
    have cba12 := oba1.c2
    have cba13 := oba1.c3
    have cba14 := oba1.c4
    have cba15 := oba1.c5
    have hba1 := oba1.hi
    go_wp2
    go_ret
    exact ⟨rfl, B⟩

end Go.Proofs.Ytocaaklhlmnonaa
