/- The law FnExactWholeText: its walk, out of the two contracts (written by genlaw.py from the signature W>S). -/
import Derived.Test.YtnojigofojjopaaDoorTn0
import Derived.Test.YtnojigofojjopaaDoorToW0
import Derived.Deep.RegionHeld
import Derived.Test.YtnojigofojjopaaDoorITextB
import Derived.Test.YtnojigofojjopaaDoorToI
namespace Go.Proofs.YtnojigofojjopaaDoor
open Go.RowKit

set_option maxHeartbeats 3200000 in
theorem walkWholeText_in (g0 : Bool) (a0 : Option Addr) (n0 c0 : Nat) (zs0 : List Int) (w : World) (hsum : n0 ≤ 1048576) (hr0 : IsRow .i64 w a0 n0 c0 zs0)
    (hS : ∀ (va0 : Value) (xs0 : Wh) (W : World), rowW W va0 xs0 → xs0.2.length ≤ 1048576 → Calls Tryd.prog 11 #[va0] W (fun e w' => e = .returned (.string (wtextR xs0)) ∧ Below W.heap.size W w'))
    (hI : ∀ (va0 : Value) (xs0 : Wh) (W : World), Below w.heap.size w W → rowW W va0 xs0 → xs0.2.length ≤ 1048576 → Calls Tryd.prog 13 #[va0] W (fun e w' => e = .returned (.string (wtextR xs0)) ∧ Below W.heap.size W w')) :
    Calls Tryd.prog 4 #[.agg #[.bool g0, .slice a0 n0 c0]] w fun e w' => e = .returned (.bool true) ∧ Below w.heap.size w w' := by
  have h0' : ¬ ((1048576 : Int) - (n0 : Int) < 0) := by omega
  have T0 : ∀ W : World, IsRow .i64 W a0 n0 c0 zs0 → Calls Tryd.prog 12 #[.agg #[.bool g0, .slice a0 n0 c0]] W fun e w' => ∃ v, e = .returned v ∧ ownsW w' W.heap.size v (g0, zs0.take n0) ∧ Below W.heap.size W w' := fun W h => toW g0 a0 n0 c0 zs0 W (by omega) h
  have l0 : (g0, zs0.take n0).2.length ≤ 1048576 := by show (zs0.take n0).length ≤ 1048576; rw [List.length_take]; omega
  obtain ⟨xs0, hxs0⟩ : ∃ xs : Wh, (g0, zs0.take n0) = xs := ⟨_, rfl⟩
  rw [hxs0] at T0 l0
  clear hxs0
  have S := fun va0 W q0 => hS va0 xs0 W q0 l0
  have I := fun va0 W hb q0 => hI va0 xs0 W hb q0 l0
  obtain ⟨r0, hr⟩ : ∃ r0, wtextR xs0 = r0 := ⟨_, rfl⟩
  simp only [hr] at S I
  clear hS hI hr
  have B := Below.refl w.heap.size w
  go_enter Tryd.func4, Tryd.ntmps4
  go_wp2_with fail
  have hsw1 : (w.alloc (.cells #[.bool g0, .slice a0 n0 c0] 28)).heap.size = w.heap.size + 1 := by simp
  have bB := below1 w (.cells #[.bool g0, .slice a0 n0 c0] 28)
  have oba0 := BoxW.made w (.bool g0) (.slice a0 n0 c0) 28
  have B := B.trans (bB.mono B.size)
  clear bB
  generalize w.alloc (.cells #[.bool g0, .slice a0 n0 c0] 28) = w1 at *
  refine (szW_yes g0 a0 n0 c0 ((1048576 : Int)) w1 (by omega) (by omega)).mono ?_
  rintro e w2 ⟨rfl, bw2⟩
  have oba0 := oba0.below bw2 (Nat.le_refl _)
  have B := B.trans (bw2.mono B.size)
  clear bw2
  -- the specification's answer
  have cba00 := oba0.c0
  have cba01 := oba0.c1
  have hba0 := oba0.hi
  go_wp2_with fail
  clear cba00 cba01 hba0
  refine (T0 w2 (hr0.below B)).mono ?_
  rintro e w3 ⟨vs0, rfl, os0, bw3⟩
  have oba0 := oba0.below bw3 (Nat.le_refl _)
  have B := B.trans (bw3.mono B.size)
  clear bw3
  have cba00 := oba0.c0
  have cba01 := oba0.c1
  have hba0 := oba0.hi
  go_wp2_with fail
  clear cba00 cba01 hba0
  refine (S _ w3 os0.row).mono ?_
  rintro e w4 ⟨rfl, bw4⟩
  have oba0 := oba0.below bw4 (Nat.le_refl _)
  have os0 := os0.below bw4 (Nat.le_refl _)
  have B := B.trans (bw4.mono B.size)
  clear bw4
  clear os0
  -- the arguments, copied; the program's answer
  have cba00 := oba0.c0
  have cba01 := oba0.c1
  have hba0 := oba0.hi
  go_wp2_with fail
  clear cba00 cba01 hba0
  refine (T0 w4 (hr0.below B)).mono ?_
  rintro e w5 ⟨vx0, rfl, ox0, bw5⟩
  have dba0_x0 := apart_of (fun k hk => (oba0.ltb k hk).2) (fun k hk => (ox0.ltb k hk).1)
  have mx0 : ∀ k ∈ blkW vx0, w.heap.size ≤ k := fun k hk => Nat.le_trans B.size (ox0.ltb k hk).1
  obtain ⟨sx0, rfl, hqx0⟩ := id ox0
  obtain ⟨adx0, cpx0, rfl, -⟩ := hqx0.row
  clear hqx0
  have oba0 := oba0.below bw5 (Nat.le_refl _)
  have B := B.trans (bw5.mono B.size)
  clear bw5
  have cba00 := oba0.c0
  have cba01 := oba0.c1
  have hba0 := oba0.hi
  have eba0 := oba0.below (below1 w5 (.cells #[.bool xs0.1, .slice adx0 xs0.2.length cpx0] 31)) (Nat.le_refl _)
  have eba00 := eba0.c0
  have eba01 := eba0.c1
  go_wp2_with fail
  clear cba00 cba01 hba0
  clear eba0 eba00 eba01
  have hsw6 : (w5.alloc (.cells #[.bool xs0.1, .slice adx0 xs0.2.length cpx0] 31)).heap.size = w5.heap.size + 1 := by simp
  have bB := below1 w5 (.cells #[.bool xs0.1, .slice adx0 xs0.2.length cpx0] 31)
  have obx0 := BoxW.made w5 (.bool xs0.1) (.slice adx0 xs0.2.length cpx0) 31
  have dba0_bx0 := apart_of (fun k hk => (oba0.ltb k hk).2) (fun k hk => (obx0.ltb k hk).1)
  have dx0_bx0 := apart_of (fun k hk => (ox0.ltb k hk).2) (fun k hk => (obx0.ltb k hk).1)
  have oba0 := oba0.below bB (Nat.le_refl _)
  have ox0 := ox0.below bB (Nat.le_refl _)
  have B := B.trans (bB.mono B.size)
  clear bB
  generalize w5.alloc (.cells #[.bool xs0.1, .slice adx0 xs0.2.length cpx0] 31) = w6 at *
  refine (I _ w6 B ox0.row).mono ?_
  rintro e w7 ⟨rfl, bw7⟩
  have oba0 := oba0.below bw7 (Nat.le_refl _)
  have ox0 := ox0.below bw7 (Nat.le_refl _)
  have obx0 := obx0.below bw7 (Nat.le_refl _)
  have B := B.trans (bw7.mono B.size)
  clear bw7
  -- the copies are as they were
  have bB := (Below.refl w7.heap.size w7).drew
  have cba00 := oba0.c0
  have cba01 := oba0.c1
  have hba0 := oba0.hi
  have cbx00 := obx0.c0
  have cbx01 := obx0.c1
  have hbx0 := obx0.hi
  go_wp2_with fail
  clear cba00 cba01 hba0
  clear cbx00 cbx01 hbx0
  have oba0 := oba0.below bB (Nat.le_refl _)
  have ox0 := ox0.below bB (Nat.le_refl _)
  have obx0 := obx0.below bB (Nat.le_refl _)
  have B := B.trans (bB.mono B.size)
  clear bB
  have cba00 := oba0.c0
  have cba01 := oba0.c1
  have cbx00 := obx0.c0
  have cbx01 := obx0.c1
  go_region_held (fun w' => w'.cell? ⟨w.heap.size, 0, none⟩ = some (.bool g0) ∧ w'.cell? ⟨w.heap.size, 1, none⟩ = some (.slice a0 n0 c0) ∧ w'.cell? ⟨w5.heap.size, 0, none⟩ = some (.bool xs0.1) ∧ w'.cell? ⟨w5.heap.size, 1, none⟩ = some (.slice adx0 xs0.2.length cpx0)) (go_keep) (first
    | (go_at_call_of 12 (Value.slice a0 n0 c0)
       refine (T0 w7.drew (hr0.below B)).mono ?_
       rintro e w8 ⟨vy0, rfl, oy0, bw8⟩
       have oba0 := oba0.below bw8 (Nat.le_refl _)
       have ox0 := ox0.below bw8 (Nat.le_refl _)
       have obx0 := obx0.below bw8 (Nat.le_refl _)
       have B := B.trans (bw8.mono B.size)
       clear bw8
       have cba00 := oba0.c0
       have cba01 := oba0.c1
       have cbx00 := obx0.c0
       have cbx01 := obx0.c1)
    | (go_at_call 14
       refine (eqW' _ _ _ _ _ w8 (by omega) ox0 oy0).mono ?_
       rintro e w9 ⟨rfl, bw9⟩
       have oba0 := oba0.below bw9 (Nat.le_refl _)
       have ox0 := ox0.below bw9 (Nat.le_refl _)
       have obx0 := obx0.below bw9 (Nat.le_refl _)
       have oy0 := oy0.below bw9 (Nat.le_refl _)
       have B := B.trans (bw9.mono B.size)
       clear bw9
       have cba00 := oba0.c0
       have cba01 := oba0.c1
       have cbx00 := obx0.c0
       have cbx01 := obx0.c1)
    )
  clear cba00 cba01 cbx00 cbx01
  clear oy0
  clear ox0
  have cba00 := oba0.c0
  have cba01 := oba0.c1
  have hba0 := oba0.hi
  have cbx00 := obx0.c0
  have cbx01 := obx0.c1
  have hbx0 := obx0.hi
  go_wp2
  go_ret
  exact ⟨rfl, B⟩

set_option maxHeartbeats 1600000 in
theorem walkWholeText (g0 : Bool) (a0 : Option Addr) (n0 c0 : Nat) (zs0 : List Int) (w : World) (hr0 : IsRow .i64 w a0 n0 c0 zs0)
    (hS : ∀ (va0 : Value) (xs0 : Wh) (W : World), rowW W va0 xs0 → xs0.2.length ≤ 1048576 → Calls Tryd.prog 11 #[va0] W (fun e w' => e = .returned (.string (wtextR xs0)) ∧ Below W.heap.size W w'))
    (hI : ∀ (va0 : Value) (xs0 : Wh) (W : World), Below w.heap.size w W → rowW W va0 xs0 → xs0.2.length ≤ 1048576 → Calls Tryd.prog 13 #[va0] W (fun e w' => e = .returned (.string (wtextR xs0)) ∧ Below W.heap.size W w')) :
    Calls Tryd.prog 4 #[.agg #[.bool g0, .slice a0 n0 c0]] w fun e w' => e = .returned (.bool true) ∧ Below w.heap.size w w' := by
  by_cases h0 : n0 ≤ 1048576
  · skip
    exact walkWholeText_in g0 a0 n0 c0 zs0 w  (by omega) hr0 hS hI
  · have hL0 := hr0.len_le
    clear hS hI
    have B := Below.refl w.heap.size w
    go_enter Tryd.func4, Tryd.ntmps4
    go_wp2_with fail
    have hsw1 : (w.alloc (.cells #[.bool g0, .slice a0 n0 c0] 28)).heap.size = w.heap.size + 1 := by simp
    have bB := below1 w (.cells #[.bool g0, .slice a0 n0 c0] 28)
    have oba0 := BoxW.made w (.bool g0) (.slice a0 n0 c0) 28
    have B := B.trans (bB.mono B.size)
    clear bB
    generalize w.alloc (.cells #[.bool g0, .slice a0 n0 c0] 28) = w1 at *
    refine (szW_no g0 a0 n0 c0 ((1048576 : Int)) w1 (by omega) (by omega) hL0 (by omega)).mono ?_
    rintro e w2 ⟨rfl, bw2⟩
    have oba0 := oba0.below bw2 (Nat.le_refl _)
    have B := B.trans (bw2.mono B.size)
    clear bw2
    have cba00 := oba0.c0
    have cba01 := oba0.c1
    have hba0 := oba0.hi
    go_wp2
    go_ret
    exact ⟨rfl, B⟩

end Go.Proofs.YtnojigofojjopaaDoor
