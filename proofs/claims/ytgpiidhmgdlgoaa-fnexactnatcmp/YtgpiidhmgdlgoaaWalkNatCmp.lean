/- The law FnExactNatCmp: its walk, out of the two contracts (written by genlaw.py from the signature NN>I). -/
import Derived.Test.YtgpiidhmgdlgoaaTn0
import Derived.Test.YtgpiidhmgdlgoaaSNatCmp
import Derived.Test.YtgpiidhmgdlgoaaINatCmp
namespace Go.Proofs.Ytgpiidhmgdlgoaa
open Go.RowKit

set_option maxHeartbeats 3200000 in
theorem walkNatCmp_in (a0 : Option Addr) (n0 c0 : Nat) (zs0 : List Int) (a1 : Option Addr) (n1 c1 : Nat) (zs1 : List Int) (w : World) (h0 : n0 ≤ 1048576) (h1 : n1 ≤ 1048576) (hr0 : IsRow .i64 w a0 n0 c0 zs0) (hr1 : IsRow .i64 w a1 n1 c1 zs1)
    (hS : ∀ (va0 : Value) (xs0 : List Int) (va1 : Value) (xs1 : List Int) (W : World), rowI W va0 xs0 → xs0.length ≤ 1048576 → rowI W va1 xs1 → xs1.length ≤ 1048576 → Calls Try.prog 23 #[va0, va1] W (fun e w' => e = .returned (.int .i64 (cmpR xs0 xs1)) ∧ Below W.heap.size W w'))
    (hI : ∀ (va0 : Value) (xs0 : List Int) (va1 : Value) (xs1 : List Int) (W : World), rowI W va0 xs0 → xs0.length ≤ 1048576 → rowI W va1 xs1 → xs1.length ≤ 1048576 → Calls Try.prog 24 #[va0, va1] W (fun e w' => e = .returned (.int .i64 (cmpR xs0 xs1)) ∧ Below W.heap.size W w')) :
    Calls Try.prog 5 #[.slice a0 n0 c0, .slice a1 n1 c1] w fun e w' => e = .returned (.bool true) ∧ Below w.heap.size w w' := by
  have h0' : ¬ (1048576 : Int) < (n0 : Int) := by omega
  have h1' : ¬ (1048576 : Int) < (n1 : Int) := by omega
  have T0 : ∀ W : World, IsRow .i64 W a0 n0 c0 zs0 → Calls Try.prog 21 #[.slice a0 n0 c0] W fun e w' => ∃ v, e = .returned v ∧ ownsI w' W.heap.size v (zs0.take n0) ∧ Below W.heap.size W w' := fun W h => toI a0 n0 c0 zs0 W (by omega) h
  have l0 : (zs0.take n0).length ≤ 1048576 := by rw [List.length_take]; omega
  obtain ⟨xs0, hxs0⟩ : ∃ xs, zs0.take n0 = xs := ⟨_, rfl⟩
  rw [hxs0] at T0 l0
  clear hxs0
  have T1 : ∀ W : World, IsRow .i64 W a1 n1 c1 zs1 → Calls Try.prog 21 #[.slice a1 n1 c1] W fun e w' => ∃ v, e = .returned v ∧ ownsI w' W.heap.size v (zs1.take n1) ∧ Below W.heap.size W w' := fun W h => toI a1 n1 c1 zs1 W (by omega) h
  have l1 : (zs1.take n1).length ≤ 1048576 := by rw [List.length_take]; omega
  obtain ⟨xs1, hxs1⟩ : ∃ xs, zs1.take n1 = xs := ⟨_, rfl⟩
  rw [hxs1] at T1 l1
  clear hxs1
  have S := fun va0 va1 W q0 q1 => hS va0 xs0 va1 xs1 W q0 l0 q1 l1
  have I := fun va0 va1 W q0 q1 => hI va0 xs0 va1 xs1 W q0 l0 q1 l1
  obtain ⟨r0, hr⟩ : ∃ r0, cmpR xs0 xs1 = r0 := ⟨_, rfl⟩
  simp only [hr] at S I
  clear hS hI hr
  have B := Below.refl w.heap.size w
  go_enter Try.func5, Try.ntmps5
  -- the specification's answer
  go_wp2_with fail
  refine (T0 w (hr0.below B)).mono ?_
  rintro e w1 ⟨vs0, rfl, os0, bw1⟩
  have B := B.trans (bw1.mono B.size)
  clear bw1
  go_wp2_with fail
  refine (T1 w1 (hr1.below B)).mono ?_
  rintro e w2 ⟨vs1, rfl, os1, bw2⟩
  have os0 := os0.below bw2 (Nat.le_refl _)
  have B := B.trans (bw2.mono B.size)
  clear bw2
  go_wp2_with fail
  refine (S _ _ w2 os0.row os1.row).mono ?_
  rintro e w3 ⟨rfl, bw3⟩
  have os0 := os0.below bw3 (Nat.le_refl _)
  have os1 := os1.below bw3 (Nat.le_refl _)
  have B := B.trans (bw3.mono B.size)
  clear bw3
  clear os0 os1
  -- the arguments, copied; the program's answer
  go_wp2_with fail
  refine (T0 w3 (hr0.below B)).mono ?_
  rintro e w4 ⟨vx0, rfl, ox0, bw4⟩
  have mx0 : ∀ k ∈ blkI vx0, w.heap.size ≤ k := fun k hk => Nat.le_trans B.size (ox0.ltb k hk).1
  have B := B.trans (bw4.mono B.size)
  clear bw4
  go_wp2_with fail
  refine (T1 w4 (hr1.below B)).mono ?_
  rintro e w5 ⟨vx1, rfl, ox1, bw5⟩
  have dx0_x1 := apart_of (fun k hk => (ox0.ltb k hk).2) (fun k hk => (ox1.ltb k hk).1)
  have mx1 : ∀ k ∈ blkI vx1, w.heap.size ≤ k := fun k hk => Nat.le_trans B.size (ox1.ltb k hk).1
  have ox0 := ox0.below bw5 (Nat.le_refl _)
  have B := B.trans (bw5.mono B.size)
  clear bw5
  go_wp2_with fail
  refine (I _ _ w5 ox0.row ox1.row).mono ?_
  rintro e w6 ⟨rfl, bw6⟩
  have ox0 := ox0.below bw6 (Nat.le_refl _)
  have ox1 := ox1.below bw6 (Nat.le_refl _)
  have B := B.trans (bw6.mono B.size)
  clear bw6
  -- the copies are as they were
  go_wp2_with fail
  refine (T0 w6 (hr0.below B)).mono ?_
  rintro e w7 ⟨vy0, rfl, oy0, bw7⟩
  have ox0 := ox0.below bw7 (Nat.le_refl _)
  have ox1 := ox1.below bw7 (Nat.le_refl _)
  have B := B.trans (bw7.mono B.size)
  clear bw7
  go_wp2_with fail
  refine (eqI' _ _ _ _ _ w7 (by omega) ox0 oy0).mono ?_
  rintro e w8 ⟨rfl, bw8⟩
  have ox0 := ox0.below bw8 (Nat.le_refl _)
  have ox1 := ox1.below bw8 (Nat.le_refl _)
  have oy0 := oy0.below bw8 (Nat.le_refl _)
  have B := B.trans (bw8.mono B.size)
  clear bw8
  clear oy0
  go_wp2_with fail
  refine (T1 w8 (hr1.below B)).mono ?_
  rintro e w9 ⟨vy1, rfl, oy1, bw9⟩
  have ox0 := ox0.below bw9 (Nat.le_refl _)
  have ox1 := ox1.below bw9 (Nat.le_refl _)
  have B := B.trans (bw9.mono B.size)
  clear bw9
  go_wp2_with fail
  refine (eqI' _ _ _ _ _ w9 (by omega) ox1 oy1).mono ?_
  rintro e w10 ⟨rfl, bw10⟩
  have ox0 := ox0.below bw10 (Nat.le_refl _)
  have ox1 := ox1.below bw10 (Nat.le_refl _)
  have oy1 := oy1.below bw10 (Nat.le_refl _)
  have B := B.trans (bw10.mono B.size)
  clear bw10
  clear oy1
  clear ox0 ox1
  go_wp2
  go_ret
  exact ⟨rfl, B⟩

set_option maxHeartbeats 1600000 in
theorem walkNatCmp (a0 : Option Addr) (n0 c0 : Nat) (zs0 : List Int) (a1 : Option Addr) (n1 c1 : Nat) (zs1 : List Int) (w : World) (hr0 : IsRow .i64 w a0 n0 c0 zs0) (hr1 : IsRow .i64 w a1 n1 c1 zs1)
    (hS : ∀ (va0 : Value) (xs0 : List Int) (va1 : Value) (xs1 : List Int) (W : World), rowI W va0 xs0 → xs0.length ≤ 1048576 → rowI W va1 xs1 → xs1.length ≤ 1048576 → Calls Try.prog 23 #[va0, va1] W (fun e w' => e = .returned (.int .i64 (cmpR xs0 xs1)) ∧ Below W.heap.size W w'))
    (hI : ∀ (va0 : Value) (xs0 : List Int) (va1 : Value) (xs1 : List Int) (W : World), rowI W va0 xs0 → xs0.length ≤ 1048576 → rowI W va1 xs1 → xs1.length ≤ 1048576 → Calls Try.prog 24 #[va0, va1] W (fun e w' => e = .returned (.int .i64 (cmpR xs0 xs1)) ∧ Below W.heap.size W w')) :
    Calls Try.prog 5 #[.slice a0 n0 c0, .slice a1 n1 c1] w fun e w' => e = .returned (.bool true) ∧ Below w.heap.size w w' := by
  by_cases h0 : n0 ≤ 1048576
  · skip
    by_cases h1 : n1 ≤ 1048576
    · skip
      exact walkNatCmp_in a0 n0 c0 zs0 a1 n1 c1 zs1 w h0 h1 hr0 hr1 hS hI
    · have h1' : (1048576 : Int) < (n1 : Int) := by omega
      have h0' : ¬ (1048576 : Int) < (n0 : Int) := by omega
      clear hS hI
      go_enter Try.func5, Try.ntmps5
      go_wp2
      go_ret
      exact ⟨rfl, Below.refl _ _⟩
  · have h0' : (1048576 : Int) < (n0 : Int) := by omega
    clear hS hI
    go_enter Try.func5, Try.ntmps5
    go_wp2
    go_ret
    exact ⟨rfl, Below.refl _ _⟩

end Go.Proofs.Ytgpiidhmgdlgoaa
