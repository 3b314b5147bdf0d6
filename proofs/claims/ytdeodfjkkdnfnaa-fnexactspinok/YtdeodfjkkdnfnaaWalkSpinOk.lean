/- The law FnExactSpinOk: its walk, out of the two contracts (written by genlaw.py from the signature V>B). -/
import Derived.Test.YtdeodfjkkdnfnaaTn0
import Derived.Test.YtdeodfjkkdnfnaaToP2
import Derived.Test.YtdeodfjkkdnfnaaToW0
import Derived.Deep.RegionHeld
import Derived.Test.YtdeodfjkkdnfnaaSpinB
namespace Go.Proofs.Ytdeodfjkkdnfnaa
open Go.RowKit

set_option maxHeartbeats 3200000 in
theorem walkSpinOk_in (g0 : Bool) (a0 : Option Addr) (n0 c0 : Nat) (zs0 : List Int) (gg0 : Bool) (aa0 : Option Addr) (nn0 cc0 : Nat) (zz0 : List Int) (kk0 : Int) (w : World) (hsum : n0 + nn0 ≤ 1048576) (hr0 : IsRow .i64 w a0 n0 c0 zs0) (hh0 : IsRow .i64 w aa0 nn0 cc0 zz0)
    (hS : ∀ (va0 : Value) (xs0 : Ph) (W : World), rowP W va0 xs0 → xs0.1.1.2.length ≤ 1048576 → xs0.1.2.2.length ≤ 1048576 → Calls Try.prog 9 #[va0] W (fun e w' => e = .returned (.bool (okP xs0)) ∧ Below W.heap.size W w'))
    (hI : ∀ (va0 : Value) (xs0 : Ph) (W : World), rowP W va0 xs0 → xs0.1.1.2.length ≤ 1048576 → xs0.1.2.2.length ≤ 1048576 → Calls Try.prog 11 #[va0] W (fun e w' => e = .returned (.bool (okP xs0)) ∧ Below W.heap.size W w')) :
    Calls Try.prog 3 #[.agg #[.bool g0, .slice a0 n0 c0, .bool gg0, .slice aa0 nn0 cc0, .int .i64 kk0]] w fun e w' => e = .returned (.bool true) ∧ Below w.heap.size w w' := by
  have h0' : ¬ ((1048576 : Int) - (n0 : Int) - (nn0 : Int) < 0) := by omega
  have T0 : ∀ W : World, IsRow .i64 W a0 n0 c0 zs0 → IsRow .i64 W aa0 nn0 cc0 zz0 → Calls Try.prog 10 #[.agg #[.bool g0, .slice a0 n0 c0, .bool gg0, .slice aa0 nn0 cc0, .int .i64 kk0]] W fun e w' => ∃ v, e = .returned v ∧ ownsP w' W.heap.size v (((g0, zs0.take n0), (gg0, zz0.take nn0)), kk0) ∧ Below W.heap.size W w' := fun W h h' => toP g0 a0 n0 c0 zs0 gg0 aa0 nn0 cc0 zz0 kk0 W (by omega) (by omega) h h'
  have l0 : ((((g0, zs0.take n0), (gg0, zz0.take nn0)), kk0) : Ph).1.1.2.length ≤ 1048576 ∧ ((((g0, zs0.take n0), (gg0, zz0.take nn0)), kk0) : Ph).1.2.2.length ≤ 1048576 := by show (zs0.take n0).length ≤ 1048576 ∧ (zz0.take nn0).length ≤ 1048576; rw [List.length_take, List.length_take]; omega
  obtain ⟨xs0, hxs0⟩ : ∃ xs : Ph, (((g0, zs0.take n0), (gg0, zz0.take nn0)), kk0) = xs := ⟨_, rfl⟩
  rw [hxs0] at T0 l0
  clear hxs0
  have S := fun va0 W q0 => hS va0 xs0 W q0 l0.1 l0.2
  have I := fun va0 W q0 => hI va0 xs0 W q0 l0.1 l0.2
  obtain ⟨r0, hr⟩ : ∃ r0, okP xs0 = r0 := ⟨_, rfl⟩
  simp only [hr] at S I
  clear hS hI hr
  have eb0 : (r0 != r0) = false := by simp
  have B := Below.refl w.heap.size w
  go_enter Try.func3, Try.ntmps3
  go_wp2_with fail
  have hsw1 : (w.alloc (.cells #[.bool g0, .slice a0 n0 c0, .bool gg0, .slice aa0 nn0 cc0, .int .i64 kk0] 26)).heap.size = w.heap.size + 1 := by simp
  have bB := below1 w (.cells #[.bool g0, .slice a0 n0 c0, .bool gg0, .slice aa0 nn0 cc0, .int .i64 kk0] 26)
  have oba0 := Bx5.made w (.bool g0) (.slice a0 n0 c0) (.bool gg0) (.slice aa0 nn0 cc0) (.int .i64 kk0) 26
  have B := B.trans (bB.mono B.size)
  clear bB
  generalize w.alloc (.cells #[.bool g0, .slice a0 n0 c0, .bool gg0, .slice aa0 nn0 cc0, .int .i64 kk0] 26) = w1 at *
  refine (szP_yes g0 a0 n0 c0 gg0 aa0 nn0 cc0 kk0 ((1048576 : Int)) w1 (by omega) (by omega)).mono ?_
  rintro e w2 ⟨rfl, bw2⟩
  have oba0 := oba0.below bw2 (Nat.le_refl _)
  have B := B.trans (bw2.mono B.size)
  clear bw2
  -- the specification's answer
  have cba00 := oba0.c0
  have cba01 := oba0.c1
  have cba02 := oba0.c2
  have cba03 := oba0.c3
  have cba04 := oba0.c4
  have hba0 := oba0.hi
  go_wp2_with fail
  clear cba00 cba01 cba02 cba03 cba04 hba0
  refine (T0 w2 (hr0.below B) (hh0.below B)).mono ?_
  rintro e w3 ⟨vs0, rfl, os0, bw3⟩
  have oba0 := oba0.below bw3 (Nat.le_refl _)
  have B := B.trans (bw3.mono B.size)
  clear bw3
  have cba00 := oba0.c0
  have cba01 := oba0.c1
  have cba02 := oba0.c2
  have cba03 := oba0.c3
  have cba04 := oba0.c4
  have hba0 := oba0.hi
  go_wp2_with fail
  clear cba00 cba01 cba02 cba03 cba04 hba0
  refine (S _ w3 os0.row).mono ?_
  rintro e w4 ⟨rfl, bw4⟩
  have oba0 := oba0.below bw4 (Nat.le_refl _)
  have os0 := os0.below bw4 (Nat.le_refl _)
  have B := B.trans (bw4.mono B.size)
  clear bw4
  clear os0
  -- the arguments, copied; the program's answer
  have cba00 := oba0.c0
  have cba01 := oba0.c1
  have cba02 := oba0.c2
  have cba03 := oba0.c3
  have cba04 := oba0.c4
  have hba0 := oba0.hi
  go_wp2_with fail
  clear cba00 cba01 cba02 cba03 cba04 hba0
  refine (T0 w4 (hr0.below B) (hh0.below B)).mono ?_
  rintro e w5 ⟨vx0, rfl, ox0, bw5⟩
  have dba0_x0 := apart_of (fun k hk => (oba0.ltb k hk).2) (fun k hk => (ox0.ltb k hk).1)
  have mx0 : ∀ k ∈ blkP vx0, w.heap.size ≤ k := fun k hk => Nat.le_trans B.size (ox0.ltb k hk).1
  obtain ⟨sx0, tx0, rfl, hqx0, hpx0, -⟩ := id ox0
  obtain ⟨adx0, cpx0, rfl, -⟩ := hqx0.row
  obtain ⟨aex0, cqx0, rfl, -⟩ := hpx0.row
  clear hqx0 hpx0
  have oba0 := oba0.below bw5 (Nat.le_refl _)
  have B := B.trans (bw5.mono B.size)
  clear bw5
  have cba00 := oba0.c0
  have cba01 := oba0.c1
  have cba02 := oba0.c2
  have cba03 := oba0.c3
  have cba04 := oba0.c4
  have hba0 := oba0.hi
  have eba0 := oba0.below (below1 w5 (.cells #[.bool xs0.1.1.1, .slice adx0 xs0.1.1.2.length cpx0, .bool xs0.1.2.1, .slice aex0 xs0.1.2.2.length cqx0, .int .i64 xs0.2] 31)) (Nat.le_refl _)
  have eba00 := eba0.c0
  have eba01 := eba0.c1
  have eba02 := eba0.c2
  have eba03 := eba0.c3
  have eba04 := eba0.c4
  go_wp2_with fail
  clear cba00 cba01 cba02 cba03 cba04 hba0
  clear eba0 eba00 eba01 eba02 eba03 eba04
  have hsw6 : (w5.alloc (.cells #[.bool xs0.1.1.1, .slice adx0 xs0.1.1.2.length cpx0, .bool xs0.1.2.1, .slice aex0 xs0.1.2.2.length cqx0, .int .i64 xs0.2] 31)).heap.size = w5.heap.size + 1 := by simp
  have bB := below1 w5 (.cells #[.bool xs0.1.1.1, .slice adx0 xs0.1.1.2.length cpx0, .bool xs0.1.2.1, .slice aex0 xs0.1.2.2.length cqx0, .int .i64 xs0.2] 31)
  have obx0 := Bx5.made w5 (.bool xs0.1.1.1) (.slice adx0 xs0.1.1.2.length cpx0) (.bool xs0.1.2.1) (.slice aex0 xs0.1.2.2.length cqx0) (.int .i64 xs0.2) 31
  have dba0_bx0 := apart_of (fun k hk => (oba0.ltb k hk).2) (fun k hk => (obx0.ltb k hk).1)
  have dx0_bx0 := apart_of (fun k hk => (ox0.ltb k hk).2) (fun k hk => (obx0.ltb k hk).1)
  have oba0 := oba0.below bB (Nat.le_refl _)
  have ox0 := ox0.below bB (Nat.le_refl _)
  have B := B.trans (bB.mono B.size)
  clear bB
  generalize w5.alloc (.cells #[.bool xs0.1.1.1, .slice adx0 xs0.1.1.2.length cpx0, .bool xs0.1.2.1, .slice aex0 xs0.1.2.2.length cqx0, .int .i64 xs0.2] 31) = w6 at *
  refine (I _ w6 ox0.row).mono ?_
  rintro e w7 ⟨rfl, bw7⟩
  have oba0 := oba0.below bw7 (Nat.le_refl _)
  have ox0 := ox0.below bw7 (Nat.le_refl _)
  have obx0 := obx0.below bw7 (Nat.le_refl _)
  have B := B.trans (bw7.mono B.size)
  clear bw7
  -- the copies are as they were
  have bB := (Below.refl w7.heap.size w7).drew
  have cba00 := oba0.c0
  have cba01 := oba0.c1
  have cba02 := oba0.c2
  have cba03 := oba0.c3
  have cba04 := oba0.c4
  have hba0 := oba0.hi
  have cbx00 := obx0.c0
  have cbx01 := obx0.c1
  have cbx02 := obx0.c2
  have cbx03 := obx0.c3
  have cbx04 := obx0.c4
  have hbx0 := obx0.hi
  go_wp2_with fail
  clear cba00 cba01 cba02 cba03 cba04 hba0
  clear cbx00 cbx01 cbx02 cbx03 cbx04 hbx0
  have oba0 := oba0.below bB (Nat.le_refl _)
  have ox0 := ox0.below bB (Nat.le_refl _)
  have obx0 := obx0.below bB (Nat.le_refl _)
  have B := B.trans (bB.mono B.size)
  clear bB
  have cba00 := oba0.c0
  have cba01 := oba0.c1
  have cba02 := oba0.c2
  have cba03 := oba0.c3
  have cba04 := oba0.c4
  have cbx00 := obx0.c0
  have cbx01 := obx0.c1
  have cbx02 := obx0.c2
  have cbx03 := obx0.c3
  have cbx04 := obx0.c4
  go_region_held (fun w' => w'.cell? ⟨w.heap.size, 0, none⟩ = some (.bool g0) ∧ w'.cell? ⟨w.heap.size, 1, none⟩ = some (.slice a0 n0 c0) ∧ w'.cell? ⟨w.heap.size, 2, none⟩ = some (.bool gg0) ∧ w'.cell? ⟨w.heap.size, 3, none⟩ = some (.slice aa0 nn0 cc0) ∧ w'.cell? ⟨w.heap.size, 4, none⟩ = some (.int .i64 kk0) ∧ w'.cell? ⟨w5.heap.size, 0, none⟩ = some (.bool xs0.1.1.1) ∧ w'.cell? ⟨w5.heap.size, 1, none⟩ = some (.slice adx0 xs0.1.1.2.length cpx0) ∧ w'.cell? ⟨w5.heap.size, 2, none⟩ = some (.bool xs0.1.2.1) ∧ w'.cell? ⟨w5.heap.size, 3, none⟩ = some (.slice aex0 xs0.1.2.2.length cqx0) ∧ w'.cell? ⟨w5.heap.size, 4, none⟩ = some (.int .i64 xs0.2)) (go_keep) (first
    | (go_at_call_of 10 (Value.slice a0 n0 c0)
       refine (T0 w7.drew (hr0.below B) (hh0.below B)).mono ?_
       rintro e w8 ⟨vy0, rfl, oy0, bw8⟩
       have oba0 := oba0.below bw8 (Nat.le_refl _)
       have ox0 := ox0.below bw8 (Nat.le_refl _)
       have obx0 := obx0.below bw8 (Nat.le_refl _)
       have B := B.trans (bw8.mono B.size)
       clear bw8
       have cba00 := oba0.c0
       have cba01 := oba0.c1
       have cba02 := oba0.c2
       have cba03 := oba0.c3
       have cba04 := oba0.c4
       have cbx00 := obx0.c0
       have cbx01 := obx0.c1
       have cbx02 := obx0.c2
       have cbx03 := obx0.c3
       have cbx04 := obx0.c4)
    | (go_at_call 12
       refine (eqP' _ _ _ _ _ w8 (by omega) ox0 oy0).mono ?_
       rintro e w9 ⟨rfl, bw9⟩
       have oba0 := oba0.below bw9 (Nat.le_refl _)
       have ox0 := ox0.below bw9 (Nat.le_refl _)
       have obx0 := obx0.below bw9 (Nat.le_refl _)
       have oy0 := oy0.below bw9 (Nat.le_refl _)
       have B := B.trans (bw9.mono B.size)
       clear bw9
       have cba00 := oba0.c0
       have cba01 := oba0.c1
       have cba02 := oba0.c2
       have cba03 := oba0.c3
       have cba04 := oba0.c4
       have cbx00 := obx0.c0
       have cbx01 := obx0.c1
       have cbx02 := obx0.c2
       have cbx03 := obx0.c3
       have cbx04 := obx0.c4)
    )
  clear cba00 cba01 cba02 cba03 cba04 cbx00 cbx01 cbx02 cbx03 cbx04
  clear oy0
  clear ox0
  have cba00 := oba0.c0
  have cba01 := oba0.c1
  have cba02 := oba0.c2
  have cba03 := oba0.c3
  have cba04 := oba0.c4
  have hba0 := oba0.hi
  have cbx00 := obx0.c0
  have cbx01 := obx0.c1
  have cbx02 := obx0.c2
  have cbx03 := obx0.c3
  have cbx04 := obx0.c4
  have hbx0 := obx0.hi
  go_wp2
  go_ret
  exact ⟨rfl, B⟩

set_option maxHeartbeats 1600000 in
theorem walkSpinOk (g0 : Bool) (a0 : Option Addr) (n0 c0 : Nat) (zs0 : List Int) (gg0 : Bool) (aa0 : Option Addr) (nn0 cc0 : Nat) (zz0 : List Int) (kk0 : Int) (w : World) (hr0 : IsRow .i64 w a0 n0 c0 zs0) (hh0 : IsRow .i64 w aa0 nn0 cc0 zz0)
    (hS : ∀ (va0 : Value) (xs0 : Ph) (W : World), rowP W va0 xs0 → xs0.1.1.2.length ≤ 1048576 → xs0.1.2.2.length ≤ 1048576 → Calls Try.prog 9 #[va0] W (fun e w' => e = .returned (.bool (okP xs0)) ∧ Below W.heap.size W w'))
    (hI : ∀ (va0 : Value) (xs0 : Ph) (W : World), rowP W va0 xs0 → xs0.1.1.2.length ≤ 1048576 → xs0.1.2.2.length ≤ 1048576 → Calls Try.prog 11 #[va0] W (fun e w' => e = .returned (.bool (okP xs0)) ∧ Below W.heap.size W w')) :
    Calls Try.prog 3 #[.agg #[.bool g0, .slice a0 n0 c0, .bool gg0, .slice aa0 nn0 cc0, .int .i64 kk0]] w fun e w' => e = .returned (.bool true) ∧ Below w.heap.size w w' := by
  by_cases h0 : n0 + nn0 ≤ 1048576
  · skip
    exact walkSpinOk_in g0 a0 n0 c0 zs0 gg0 aa0 nn0 cc0 zz0 kk0 w  (by omega) hr0 hh0 hS hI
  · have hL0 := And.intro hr0.len_le hh0.len_le
    clear hS hI
    have B := Below.refl w.heap.size w
    go_enter Try.func3, Try.ntmps3
    go_wp2_with fail
    have hsw1 : (w.alloc (.cells #[.bool g0, .slice a0 n0 c0, .bool gg0, .slice aa0 nn0 cc0, .int .i64 kk0] 26)).heap.size = w.heap.size + 1 := by simp
    have bB := below1 w (.cells #[.bool g0, .slice a0 n0 c0, .bool gg0, .slice aa0 nn0 cc0, .int .i64 kk0] 26)
    have oba0 := Bx5.made w (.bool g0) (.slice a0 n0 c0) (.bool gg0) (.slice aa0 nn0 cc0) (.int .i64 kk0) 26
    have B := B.trans (bB.mono B.size)
    clear bB
    generalize w.alloc (.cells #[.bool g0, .slice a0 n0 c0, .bool gg0, .slice aa0 nn0 cc0, .int .i64 kk0] 26) = w1 at *
    refine (szP_no g0 a0 n0 c0 gg0 aa0 nn0 cc0 kk0 ((1048576 : Int)) w1 (by omega) (by omega) hL0.1 hL0.2 (by omega)).mono ?_
    rintro e w2 ⟨rfl, bw2⟩
    have oba0 := oba0.below bw2 (Nat.le_refl _)
    have B := B.trans (bw2.mono B.size)
    clear bw2
    have cba00 := oba0.c0
    have cba01 := oba0.c1
    have cba02 := oba0.c2
    have cba03 := oba0.c3
    have cba04 := oba0.c4
    have hba0 := oba0.hi
    go_wp2
    go_ret
    exact ⟨rfl, B⟩

end Go.Proofs.Ytdeodfjkkdnfnaa
