/- The law FnExactKernOk: its walk, out of the two contracts (written by genlawb.py). -/
import Derived.Test.YtplgohjmfihpaaaKernB
import Derived.Deep.RegionHeld
namespace Go.Proofs.Ytplgohjmfihpaaa
open Go.RowKit
set_option linter.unusedSimpArgs false

set_option maxRecDepth 20000 in
set_option maxHeartbeats 6400000 in
theorem walkKernOk_in (g0x : Bool) (a0x : Option Addr) (n0x c0x : Nat) (zs0x : List Int) (g0y : Bool) (a0y : Option Addr) (n0y c0y : Nat) (zs0y : List Int) (g0z : Bool) (a0z : Option Addr) (n0z c0z : Nat) (zs0z : List Int)  (w : World) (hsum : n0x + n0y + n0z ≤ 1048576) (hr0x : IsRow .i64 w a0x n0x c0x zs0x) (hr0y : IsRow .i64 w a0y n0y c0y zs0y) (hr0z : IsRow .i64 w a0z n0z c0z zs0z)
    (hS : ∀ (va0 : Value) (xs0 : Kh)  (W : World), rowK W va0 xs0 → xs0.x.2.length ≤ 1048576 → xs0.y.2.length ≤ 1048576 → xs0.z.2.length ≤ 1048576 → Calls Try.prog 8 #[va0] W (fun e w' => e = .returned (.bool (kernR xs0)) ∧ Below W.heap.size W w'))
    (hI : ∀ (va0 : Value) (xs0 : Kh)  (W : World), rowK W va0 xs0 → xs0.x.2.length ≤ 1048576 → xs0.y.2.length ≤ 1048576 → xs0.z.2.length ≤ 1048576 → Calls Try.prog 10 #[va0] W (fun e w' => e = .returned (.bool (kernR xs0)) ∧ Below W.heap.size W w')) :
    Calls Try.prog 3 #[.agg #[.bool g0x, .slice a0x n0x c0x, .bool g0y, .slice a0y n0y c0y, .bool g0z, .slice a0z n0z c0z]] w fun e w' => e = .returned (.bool true) ∧ Below w.heap.size w w' := by
  have h0' : ¬ ((1048576 : Int) - (n0x : Int) - (n0y : Int) - (n0z : Int) < 0) := by omega
  have T0 : ∀ W : World, IsRow .i64 W a0x n0x c0x zs0x → IsRow .i64 W a0y n0y c0y zs0y → IsRow .i64 W a0z n0z c0z zs0z → Calls Try.prog 9 #[.agg #[.bool g0x, .slice a0x n0x c0x, .bool g0y, .slice a0y n0y c0y, .bool g0z, .slice a0z n0z c0z]] W fun e w' => ∃ v, e = .returned v ∧ ownsK w' W.heap.size v (⟨(g0x, zs0x.take n0x), (g0y, zs0y.take n0y), (g0z, zs0z.take n0z)⟩ : Kh) ∧ Below W.heap.size W w' := fun W h0 h1 h2 => toK g0x a0x n0x c0x zs0x g0y a0y n0y c0y zs0y g0z a0z n0z c0z zs0z W (by omega) (by omega) (by omega) h0 h1 h2
  have l0_0 : (⟨(g0x, zs0x.take n0x), (g0y, zs0y.take n0y), (g0z, zs0z.take n0z)⟩ : Kh).x.2.length ≤ 1048576 := by show (zs0x.take n0x).length ≤ 1048576; rw [List.length_take]; omega
  have l0_1 : (⟨(g0x, zs0x.take n0x), (g0y, zs0y.take n0y), (g0z, zs0z.take n0z)⟩ : Kh).y.2.length ≤ 1048576 := by show (zs0y.take n0y).length ≤ 1048576; rw [List.length_take]; omega
  have l0_2 : (⟨(g0x, zs0x.take n0x), (g0y, zs0y.take n0y), (g0z, zs0z.take n0z)⟩ : Kh).z.2.length ≤ 1048576 := by show (zs0z.take n0z).length ≤ 1048576; rw [List.length_take]; omega
  obtain ⟨xs0, hxs0⟩ : ∃ xs : Kh, (⟨(g0x, zs0x.take n0x), (g0y, zs0y.take n0y), (g0z, zs0z.take n0z)⟩ : Kh) = xs := ⟨_, rfl⟩
  rw [hxs0] at T0 l0_0 l0_1 l0_2
  clear hxs0
  have S := fun va0 W q0 => hS va0 xs0 W q0 l0_0 l0_1 l0_2
  have I := fun va0 W q0 => hI va0 xs0 W q0 l0_0 l0_1 l0_2
  obtain ⟨r0, hr⟩ : ∃ r0, kernR xs0 = r0 := ⟨_, rfl⟩
  simp only [hr] at S I
  clear hS hI hr
  have eb0 : (r0 != r0) = false := by simp
  have B := Below.refl w.heap.size w
  go_enter Try.func3, Try.ntmps3
  go_wp2_with fail
  have hsw1 : (w.alloc (.cells #[.bool g0x, .slice a0x n0x c0x, .bool g0y, .slice a0y n0y c0y, .bool g0z, .slice a0z n0z c0z] 26)).heap.size = w.heap.size + 1 := by simp
  have bB := below1 w (.cells #[.bool g0x, .slice a0x n0x c0x, .bool g0y, .slice a0y n0y c0y, .bool g0z, .slice a0z n0z c0z] 26)
  have oba0 := Bx6.made w (.bool g0x) (.slice a0x n0x c0x) (.bool g0y) (.slice a0y n0y c0y) (.bool g0z) (.slice a0z n0z c0z) 26
  have B := B.trans (bB.mono B.size)
  clear bB
  generalize w.alloc (.cells #[.bool g0x, .slice a0x n0x c0x, .bool g0y, .slice a0y n0y c0y, .bool g0z, .slice a0z n0z c0z] 26) = w1 at *
  refine (szK_yes g0x a0x n0x c0x g0y a0y n0y c0y g0z a0z n0z c0z ((1048576 : Int)) w1 (by omega) (by omega)).mono ?_
  rintro e w2 ⟨rfl, bw2⟩
  have oba0 := oba0.below bw2 (Nat.le_refl _)
  have B := B.trans (bw2.mono B.size)
  clear bw2
  -- the specification's answer
  have cba00 := oba0.c0
  have cba01 := oba0.c1
  have cba02 := oba0.c2
  have cba03 := oba0.c3
  have cba04 := oba0.c4
  have cba05 := oba0.c5
  have hba0 := oba0.hi
  go_wp2_with fail
  clear cba00 cba01 cba02 cba03 cba04 cba05 hba0
  refine (T0 w2 (hr0x.below B) (hr0y.below B) (hr0z.below B)).mono ?_
  rintro e w3 ⟨vs0, rfl, os0, bw3⟩
  have oba0 := oba0.below bw3 (Nat.le_refl _)
  have B := B.trans (bw3.mono B.size)
  clear bw3
  have cba00 := oba0.c0
  have cba01 := oba0.c1
  have cba02 := oba0.c2
  have cba03 := oba0.c3
  have cba04 := oba0.c4
  have cba05 := oba0.c5
  have hba0 := oba0.hi
  go_wp2_with fail
  clear cba00 cba01 cba02 cba03 cba04 cba05 hba0
  refine (S _ w3 os0.row).mono ?_
  rintro e w4 ⟨rfl, bw4⟩
  have oba0 := oba0.below bw4 (Nat.le_refl _)
  have os0 := os0.below bw4 (Nat.le_refl _)
  have B := B.trans (bw4.mono B.size)
  clear bw4
  clear os0
  -- the arguments, copied; the program's answer
  have cba00 := oba0.c0
  have cba01 := oba0.c1
  have cba02 := oba0.c2
  have cba03 := oba0.c3
  have cba04 := oba0.c4
  have cba05 := oba0.c5
  have hba0 := oba0.hi
  go_wp2_with fail
  clear cba00 cba01 cba02 cba03 cba04 cba05 hba0
  refine (T0 w4 (hr0x.below B) (hr0y.below B) (hr0z.below B)).mono ?_
  rintro e w5 ⟨vx0, rfl, ox0, bw5⟩
  obtain ⟨sx0, tx0, ux0, rfl, hqx0, hpx0, hmx0⟩ := id ox0
  obtain ⟨adx0q, cpx0q, rfl, -⟩ := hqx0.row
  obtain ⟨adx0p, cpx0p, rfl, -⟩ := hpx0.row
  obtain ⟨adx0m, cpx0m, rfl, -⟩ := hmx0.row
  clear hqx0 hpx0 hmx0
  have oba0 := oba0.below bw5 (Nat.le_refl _)
  have B := B.trans (bw5.mono B.size)
  clear bw5
  have cba00 := oba0.c0
  have cba01 := oba0.c1
  have cba02 := oba0.c2
  have cba03 := oba0.c3
  have cba04 := oba0.c4
  have cba05 := oba0.c5
  have hba0 := oba0.hi
  have eba0 := oba0.below (below1 w5 (.cells #[.bool xs0.x.1, .slice adx0q xs0.x.2.length cpx0q, .bool xs0.y.1, .slice adx0p xs0.y.2.length cpx0p, .bool xs0.z.1, .slice adx0m xs0.z.2.length cpx0m] 31)) (Nat.le_refl _)
  have eba00 := eba0.c0
  have eba01 := eba0.c1
  have eba02 := eba0.c2
  have eba03 := eba0.c3
  have eba04 := eba0.c4
  have eba05 := eba0.c5
  go_wp2_with fail
  clear cba00 cba01 cba02 cba03 cba04 cba05 hba0
  clear eba0 eba00 eba01 eba02 eba03 eba04 eba05
  have hsw6 : (w5.alloc (.cells #[.bool xs0.x.1, .slice adx0q xs0.x.2.length cpx0q, .bool xs0.y.1, .slice adx0p xs0.y.2.length cpx0p, .bool xs0.z.1, .slice adx0m xs0.z.2.length cpx0m] 31)).heap.size = w5.heap.size + 1 := by simp
  have bB := below1 w5 (.cells #[.bool xs0.x.1, .slice adx0q xs0.x.2.length cpx0q, .bool xs0.y.1, .slice adx0p xs0.y.2.length cpx0p, .bool xs0.z.1, .slice adx0m xs0.z.2.length cpx0m] 31)
  have obx0 := Bx6.made w5 (.bool xs0.x.1) (.slice adx0q xs0.x.2.length cpx0q) (.bool xs0.y.1) (.slice adx0p xs0.y.2.length cpx0p) (.bool xs0.z.1) (.slice adx0m xs0.z.2.length cpx0m) 31
  have oba0 := oba0.below bB (Nat.le_refl _)
  have ox0 := ox0.below bB (Nat.le_refl _)
  have B := B.trans (bB.mono B.size)
  clear bB
  generalize w5.alloc (.cells #[.bool xs0.x.1, .slice adx0q xs0.x.2.length cpx0q, .bool xs0.y.1, .slice adx0p xs0.y.2.length cpx0p, .bool xs0.z.1, .slice adx0m xs0.z.2.length cpx0m] 31) = w6 at *
  refine (I _ w6 ox0.row).mono ?_
  rintro e w7 ⟨rfl, bw7⟩
  have oba0 := oba0.below bw7 (Nat.le_refl _)
  have ox0 := ox0.below bw7 (Nat.le_refl _)
  have obx0 := obx0.below bw7 (Nat.le_refl _)
  have B := B.trans (bw7.mono B.size)
  clear bw7
  -- the copies are as they were
  have bB := (Below.refl w7.heap.size w7).drew
  have cba00 := oba0.c0
  have cba01 := oba0.c1
  have cba02 := oba0.c2
  have cba03 := oba0.c3
  have cba04 := oba0.c4
  have cba05 := oba0.c5
  have hba0 := oba0.hi
  have cbx00 := obx0.c0
  have cbx01 := obx0.c1
  have cbx02 := obx0.c2
  have cbx03 := obx0.c3
  have cbx04 := obx0.c4
  have cbx05 := obx0.c5
  have hbx0 := obx0.hi
  go_wp2_with fail
  clear cba00 cba01 cba02 cba03 cba04 cba05 hba0
  clear cbx00 cbx01 cbx02 cbx03 cbx04 cbx05 hbx0
  have oba0 := oba0.below bB (Nat.le_refl _)
  have ox0 := ox0.below bB (Nat.le_refl _)
  have obx0 := obx0.below bB (Nat.le_refl _)
  have B := B.trans (bB.mono B.size)
  clear bB
  have cba00 := oba0.c0
  have cba01 := oba0.c1
  have cba02 := oba0.c2
  have cba03 := oba0.c3
  have cba04 := oba0.c4
  have cba05 := oba0.c5
  have cbx00 := obx0.c0
  have cbx01 := obx0.c1
  have cbx02 := obx0.c2
  have cbx03 := obx0.c3
  have cbx04 := obx0.c4
  have cbx05 := obx0.c5
  go_region_held (fun w' => w'.cell? ⟨w.heap.size, 0, none⟩ = some (.bool g0x) ∧ w'.cell? ⟨w.heap.size, 1, none⟩ = some (.slice a0x n0x c0x) ∧ w'.cell? ⟨w.heap.size, 2, none⟩ = some (.bool g0y) ∧ w'.cell? ⟨w.heap.size, 3, none⟩ = some (.slice a0y n0y c0y) ∧ w'.cell? ⟨w.heap.size, 4, none⟩ = some (.bool g0z) ∧ w'.cell? ⟨w.heap.size, 5, none⟩ = some (.slice a0z n0z c0z) ∧ w'.cell? ⟨w5.heap.size, 0, none⟩ = some (.bool xs0.x.1) ∧ w'.cell? ⟨w5.heap.size, 1, none⟩ = some (.slice adx0q xs0.x.2.length cpx0q) ∧ w'.cell? ⟨w5.heap.size, 2, none⟩ = some (.bool xs0.y.1) ∧ w'.cell? ⟨w5.heap.size, 3, none⟩ = some (.slice adx0p xs0.y.2.length cpx0p) ∧ w'.cell? ⟨w5.heap.size, 4, none⟩ = some (.bool xs0.z.1) ∧ w'.cell? ⟨w5.heap.size, 5, none⟩ = some (.slice adx0m xs0.z.2.length cpx0m)) (go_keep) (first
    | (go_at_call_of 9 (Value.slice a0x n0x c0x)
       refine (T0 w7.drew (hr0x.below B) (hr0y.below B) (hr0z.below B)).mono ?_
       rintro e w8 ⟨vy0, rfl, oy0, bw8⟩
       have oba0 := oba0.below bw8 (Nat.le_refl _)
       have ox0 := ox0.below bw8 (Nat.le_refl _)
       have obx0 := obx0.below bw8 (Nat.le_refl _)
       have B := B.trans (bw8.mono B.size)
       clear bw8
       have cba00 := oba0.c0
       have cba01 := oba0.c1
       have cba02 := oba0.c2
       have cba03 := oba0.c3
       have cba04 := oba0.c4
       have cba05 := oba0.c5
       have cbx00 := obx0.c0
       have cbx01 := obx0.c1
       have cbx02 := obx0.c2
       have cbx03 := obx0.c3
       have cbx04 := obx0.c4
       have cbx05 := obx0.c5)
    | (go_at_call 11
       refine (eqK' _ _ _ _ _ w8 ⟨l0_0, l0_1, l0_2⟩ ox0 oy0).mono ?_
       rintro e w9 ⟨rfl, bw9⟩
       have oba0 := oba0.below bw9 (Nat.le_refl _)
       have ox0 := ox0.below bw9 (Nat.le_refl _)
       have obx0 := obx0.below bw9 (Nat.le_refl _)
       have oy0 := oy0.below bw9 (Nat.le_refl _)
       have B := B.trans (bw9.mono B.size)
       clear bw9
       have cba00 := oba0.c0
       have cba01 := oba0.c1
       have cba02 := oba0.c2
       have cba03 := oba0.c3
       have cba04 := oba0.c4
       have cba05 := oba0.c5
       have cbx00 := obx0.c0
       have cbx01 := obx0.c1
       have cbx02 := obx0.c2
       have cbx03 := obx0.c3
       have cbx04 := obx0.c4
       have cbx05 := obx0.c5)
    )
  clear cba00 cba01 cba02 cba03 cba04 cba05
  clear cbx00 cbx01 cbx02 cbx03 cbx04 cbx05
  clear oy0
  have cba00 := oba0.c0
  have cba01 := oba0.c1
  have cba02 := oba0.c2
  have cba03 := oba0.c3
  have cba04 := oba0.c4
  have cba05 := oba0.c5
  have hba0 := oba0.hi
  have cbx00 := obx0.c0
  have cbx01 := obx0.c1
  have cbx02 := obx0.c2
  have cbx03 := obx0.c3
  have cbx04 := obx0.c4
  have cbx05 := obx0.c5
  have hbx0 := obx0.hi
  go_wp2
  go_ret
  exact ⟨rfl, B⟩

set_option maxRecDepth 20000 in
set_option maxHeartbeats 6400000 in
theorem walkKernOk (g0x : Bool) (a0x : Option Addr) (n0x c0x : Nat) (zs0x : List Int) (g0y : Bool) (a0y : Option Addr) (n0y c0y : Nat) (zs0y : List Int) (g0z : Bool) (a0z : Option Addr) (n0z c0z : Nat) (zs0z : List Int)  (w : World) (hr0x : IsRow .i64 w a0x n0x c0x zs0x) (hr0y : IsRow .i64 w a0y n0y c0y zs0y) (hr0z : IsRow .i64 w a0z n0z c0z zs0z)
    (hS : ∀ (va0 : Value) (xs0 : Kh)  (W : World), rowK W va0 xs0 → xs0.x.2.length ≤ 1048576 → xs0.y.2.length ≤ 1048576 → xs0.z.2.length ≤ 1048576 → Calls Try.prog 8 #[va0] W (fun e w' => e = .returned (.bool (kernR xs0)) ∧ Below W.heap.size W w'))
    (hI : ∀ (va0 : Value) (xs0 : Kh)  (W : World), rowK W va0 xs0 → xs0.x.2.length ≤ 1048576 → xs0.y.2.length ≤ 1048576 → xs0.z.2.length ≤ 1048576 → Calls Try.prog 10 #[va0] W (fun e w' => e = .returned (.bool (kernR xs0)) ∧ Below W.heap.size W w')) :
    Calls Try.prog 3 #[.agg #[.bool g0x, .slice a0x n0x c0x, .bool g0y, .slice a0y n0y c0y, .bool g0z, .slice a0z n0z c0z]] w fun e w' => e = .returned (.bool true) ∧ Below w.heap.size w w' := by
  by_cases h0 : n0x + n0y + n0z ≤ 1048576
  · skip
    exact walkKernOk_in g0x a0x n0x c0x zs0x g0y a0y n0y c0y zs0y g0z a0z n0z c0z zs0z w (by omega) hr0x hr0y hr0z hS hI
  · have hL0x := hr0x.len_le
    have hL0y := hr0y.len_le
    have hL0z := hr0z.len_le
    clear hS hI
    have B := Below.refl w.heap.size w
    go_enter Try.func3, Try.ntmps3
    go_wp2_with fail
    have hsw1 : (w.alloc (.cells #[.bool g0x, .slice a0x n0x c0x, .bool g0y, .slice a0y n0y c0y, .bool g0z, .slice a0z n0z c0z] 26)).heap.size = w.heap.size + 1 := by simp
    have bB := below1 w (.cells #[.bool g0x, .slice a0x n0x c0x, .bool g0y, .slice a0y n0y c0y, .bool g0z, .slice a0z n0z c0z] 26)
    have oba0 := Bx6.made w (.bool g0x) (.slice a0x n0x c0x) (.bool g0y) (.slice a0y n0y c0y) (.bool g0z) (.slice a0z n0z c0z) 26
    have B := B.trans (bB.mono B.size)
    clear bB
    generalize w.alloc (.cells #[.bool g0x, .slice a0x n0x c0x, .bool g0y, .slice a0y n0y c0y, .bool g0z, .slice a0z n0z c0z] 26) = w1 at *
    refine (szK_no g0x a0x n0x c0x g0y a0y n0y c0y g0z a0z n0z c0z ((1048576 : Int)) w1 (by omega) (by omega) hL0x hL0y hL0z (by omega)).mono ?_
    rintro e w2 ⟨rfl, bw2⟩
    have oba0 := oba0.below bw2 (Nat.le_refl _)
    have B := B.trans (bw2.mono B.size)
    clear bw2
    have cba00 := oba0.c0
    have cba01 := oba0.c1
    have cba02 := oba0.c2
    have cba03 := oba0.c3
    have cba04 := oba0.c4
    have cba05 := oba0.c5
    have hba0 := oba0.hi
    go_wp2
    go_ret
    exact ⟨rfl, B⟩

end Go.Proofs.Ytplgohjmfihpaaa
