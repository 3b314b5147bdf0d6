/- The law FnExactNatShr: its walk, out of the two contracts (written by genlaw.py from the signature NI>NB). -/
import Derived.Test.YthgjpccimiddfaaTn
import Derived.Test.YthgjpccimiddfaaSNatShr
import Derived.Test.YthgjpccimiddfaaINatShl
namespace Go.Proofs.Ythgjpccimiddfaa
open Go.RowKit

set_option maxHeartbeats 3200000 in
theorem walkNatShr_in (a0 : Option Addr) (n0 c0 : Nat) (zs0 : List Int) (k1 : Int) (w : World) (h0 : n0 ≤ 1048576) (hr0 : IsRow .i64 w a0 n0 c0 zs0) (hk1 : -9223372036854775808 ≤ k1 ∧ k1 ≤ 9223372036854775807) (hR : (shrR (zs0.take n0) k1).1.length ≤ 1048576)
    (hS : ∀ (va0 : Value) (xs0 : List Int) (k1 : Int) (W : World), rowI W va0 xs0 → xs0.length ≤ 1048576 → -9223372036854775808 ≤ k1 → k1 ≤ 9223372036854775807 → Calls Try.prog 26 #[va0, .int .i64 k1] W (fun e w' => ∃ v0, e = .returned (.tuple #[v0, .bool (shrR xs0 k1).2]) ∧ ownsI w' W.heap.size v0 (shrR xs0 k1).1 ∧ Below W.heap.size W w'))
    (hI : ∀ (va0 : Value) (xs0 : List Int) (k1 : Int) (W : World), rowI W va0 xs0 → xs0.length ≤ 1048576 → -9223372036854775808 ≤ k1 → k1 ≤ 9223372036854775807 → Calls Try.prog 27 #[va0, .int .i64 k1] W (fun e w' => ∃ v0, e = .returned (.tuple #[v0, .bool (shrR xs0 k1).2]) ∧ ownsI w' W.heap.size v0 (shrR xs0 k1).1 ∧ Below W.heap.size W w')) :
    Calls Try.prog 8 #[.slice a0 n0 c0, .int .i64 k1] w fun e w' => e = .returned (.bool true) ∧ Below w.heap.size w w' := by
  have h0' : ¬ (1048576 : Int) < (n0 : Int) := by omega
  have T0 : ∀ W : World, IsRow .i64 W a0 n0 c0 zs0 → Calls Try.prog 18 #[.slice a0 n0 c0] W fun e w' => ∃ v, e = .returned v ∧ ownsI w' W.heap.size v (zs0.take n0) ∧ Below W.heap.size W w' := fun W h => toI a0 n0 c0 zs0 W (by omega) h
  have l0 : (zs0.take n0).length ≤ 1048576 := by rw [List.length_take]; omega
  obtain ⟨xs0, hxs0⟩ : ∃ xs, zs0.take n0 = xs := ⟨_, rfl⟩
  rw [hxs0] at T0 l0 hR
  clear hxs0
  have S := fun va0 W q0 => hS va0 xs0 k1 W q0 l0 hk1.1 hk1.2
  have I := fun va0 W q0 => hI va0 xs0 k1 W q0 l0 hk1.1 hk1.2
  obtain ⟨r0, r1, hr⟩ : ∃ r0 r1, shrR xs0 k1 = (r0, r1) := ⟨_, _, rfl⟩
  simp only [hr] at S I hR
  clear hS hI hr
  have eb1 : (r1 != r1) = false := by simp
  have B := Below.refl w.heap.size w
  go_enter Try.func8, Try.ntmps8
  -- the specification's answer
  go_wp2_with fail
  refine (T0 w (hr0.below B)).mono ?_
  rintro e w1 ⟨vs0, rfl, os0, bw1⟩
  have B := B.trans (bw1.mono B.size)
  clear bw1
  go_wp2_with fail
  refine (S _ w1 os0.row).mono ?_
  rintro e w2 ⟨vw0, rfl, ow0, bw2⟩
  have ds0_w0 := apart_of (fun k hk => (os0.ltb k hk).2) (fun k hk => (ow0.ltb k hk).1)
  have mw0 : ∀ k ∈ blkI vw0, w.heap.size ≤ k := fun k hk => Nat.le_trans B.size (ow0.ltb k hk).1
  have os0 := os0.below bw2 (Nat.le_refl _)
  have B := B.trans (bw2.mono B.size)
  clear bw2
  clear os0
  -- the arguments, copied; the program's answer
  go_wp2_with fail
  refine (T0 w2 (hr0.below B)).mono ?_
  rintro e w3 ⟨vx0, rfl, ox0, bw3⟩
  have dw0_x0 := apart_of (fun k hk => (ow0.ltb k hk).2) (fun k hk => (ox0.ltb k hk).1)
  have mx0 : ∀ k ∈ blkI vx0, w.heap.size ≤ k := fun k hk => Nat.le_trans B.size (ox0.ltb k hk).1
  have ow0 := ow0.below bw3 (Nat.le_refl _)
  have B := B.trans (bw3.mono B.size)
  clear bw3
  go_wp2_with fail
  refine (I _ w3 ox0.row).mono ?_
  rintro e w4 ⟨vg0, rfl, og0, bw4⟩
  have dw0_g0 := apart_of (fun k hk => (ow0.ltb k hk).2) (fun k hk => (og0.ltb k hk).1)
  have dx0_g0 := apart_of (fun k hk => (ox0.ltb k hk).2) (fun k hk => (og0.ltb k hk).1)
  have mg0 : ∀ k ∈ blkI vg0, w.heap.size ≤ k := fun k hk => Nat.le_trans B.size (og0.ltb k hk).1
  have ow0 := ow0.below bw4 (Nat.le_refl _)
  have ox0 := ox0.below bw4 (Nat.le_refl _)
  have B := B.trans (bw4.mono B.size)
  clear bw4
  go_wp2_with fail
  refine (eqI' _ _ _ _ _ w4 (by omega) og0 ow0).mono ?_
  rintro e w5 ⟨rfl, bw5⟩
  have ow0 := ow0.below bw5 (Nat.le_refl _)
  have ox0 := ox0.below bw5 (Nat.le_refl _)
  have og0 := og0.below bw5 (Nat.le_refl _)
  have B := B.trans (bw5.mono B.size)
  clear bw5
  -- the copies are as they were
  go_wp2_with fail
  refine (T0 w5 (hr0.below B)).mono ?_
  rintro e w6 ⟨vy0, rfl, oy0, bw6⟩
  have ow0 := ow0.below bw6 (Nat.le_refl _)
  have ox0 := ox0.below bw6 (Nat.le_refl _)
  have og0 := og0.below bw6 (Nat.le_refl _)
  have B := B.trans (bw6.mono B.size)
  clear bw6
  go_wp2_with fail
  refine (eqI' _ _ _ _ _ w6 (by omega) ox0 oy0).mono ?_
  rintro e w7 ⟨rfl, bw7⟩
  have ow0 := ow0.below bw7 (Nat.le_refl _)
  have ox0 := ox0.below bw7 (Nat.le_refl _)
  have og0 := og0.below bw7 (Nat.le_refl _)
  have oy0 := oy0.below bw7 (Nat.le_refl _)
  have B := B.trans (bw7.mono B.size)
  clear bw7
  clear oy0
  -- marks in the copies do not reach the answer
  go_wp2_with fail
  refine (markN _ _ xs0 (1) w7 (by omega) (by omega) (by omega) ox0).mono ?_
  rintro e w8 ⟨rfl, oM, gw8⟩
  have ow0 := ow0.tn gw8 dw0_x0
  have og0 := og0.tn gw8 dx0_g0.symm
  have B := gw8.below B B.size mx0
  clear gw8
  clear ox0 oM
  have hkn : ¬ (((1 : Int) + xs0.length) < 0) := by omega
  go_wp2_with fail
  refine (eqI' _ _ _ _ _ w8 (by omega) og0 ow0).mono ?_
  rintro e w9 ⟨rfl, bw9⟩
  have ow0 := ow0.below bw9 (Nat.le_refl _)
  have og0 := og0.below bw9 (Nat.le_refl _)
  have B := B.trans (bw9.mono B.size)
  clear bw9
  -- the answer's own memory
  go_wp2_with fail
  refine (markN _ _ r0 (1) w9 (by omega) (by omega) (by omega) og0).mono ?_
  rintro e w10 ⟨rfl, oM, gw10⟩
  have ow0 := ow0.tn gw10 dw0_g0
  have B := gw10.below B B.size mg0
  clear gw10
  have og0 := oM
  clear oM
  go_wp2_with fail
  refine (heldN _ _ (1) r0.length w10 (by omega) (by omega) (by omega) og0).mono ?_
  rintro e w11 ⟨rfl, bw11⟩
  have ow0 := ow0.below bw11 (Nat.le_refl _)
  have og0 := og0.below bw11 (Nat.le_refl _)
  have B := B.trans (bw11.mono B.size)
  clear bw11
  go_wp2_with fail
  refine (T0 w11 (hr0.below B)).mono ?_
  rintro e w12 ⟨vz0, rfl, oz0, bw12⟩
  have ow0 := ow0.below bw12 (Nat.le_refl _)
  have og0 := og0.below bw12 (Nat.le_refl _)
  have B := B.trans (bw12.mono B.size)
  clear bw12
  go_wp2_with fail
  refine (I _ w12 oz0.row).mono ?_
  rintro e w13 ⟨vh0, rfl, oh0, bw13⟩
  have ow0 := ow0.below bw13 (Nat.le_refl _)
  have og0 := og0.below bw13 (Nat.le_refl _)
  have oz0 := oz0.below bw13 (Nat.le_refl _)
  have B := B.trans (bw13.mono B.size)
  clear bw13
  clear oz0
  go_wp2_with fail
  refine (eqI' _ _ _ _ _ w13 (by omega) oh0 ow0).mono ?_
  rintro e w14 ⟨rfl, bw14⟩
  have ow0 := ow0.below bw14 (Nat.le_refl _)
  have og0 := og0.below bw14 (Nat.le_refl _)
  have oh0 := oh0.below bw14 (Nat.le_refl _)
  have B := B.trans (bw14.mono B.size)
  clear bw14
  go_wp2_with fail
  refine (heldN _ _ (1) r0.length w14 (by omega) (by omega) (by omega) og0).mono ?_
  rintro e w15 ⟨rfl, bw15⟩
  have ow0 := ow0.below bw15 (Nat.le_refl _)
  have og0 := og0.below bw15 (Nat.le_refl _)
  have oh0 := oh0.below bw15 (Nat.le_refl _)
  have B := B.trans (bw15.mono B.size)
  clear bw15
  go_wp2
  go_ret
  exact ⟨rfl, B⟩

set_option maxHeartbeats 1600000 in
theorem walkNatShr (a0 : Option Addr) (n0 c0 : Nat) (zs0 : List Int) (k1 : Int) (w : World) (hr0 : IsRow .i64 w a0 n0 c0 zs0) (hk1 : -9223372036854775808 ≤ k1 ∧ k1 ≤ 9223372036854775807) (hR : (shrR (zs0.take n0) k1).1.length ≤ 1048576)
    (hS : ∀ (va0 : Value) (xs0 : List Int) (k1 : Int) (W : World), rowI W va0 xs0 → xs0.length ≤ 1048576 → -9223372036854775808 ≤ k1 → k1 ≤ 9223372036854775807 → Calls Try.prog 26 #[va0, .int .i64 k1] W (fun e w' => ∃ v0, e = .returned (.tuple #[v0, .bool (shrR xs0 k1).2]) ∧ ownsI w' W.heap.size v0 (shrR xs0 k1).1 ∧ Below W.heap.size W w'))
    (hI : ∀ (va0 : Value) (xs0 : List Int) (k1 : Int) (W : World), rowI W va0 xs0 → xs0.length ≤ 1048576 → -9223372036854775808 ≤ k1 → k1 ≤ 9223372036854775807 → Calls Try.prog 27 #[va0, .int .i64 k1] W (fun e w' => ∃ v0, e = .returned (.tuple #[v0, .bool (shrR xs0 k1).2]) ∧ ownsI w' W.heap.size v0 (shrR xs0 k1).1 ∧ Below W.heap.size W w')) :
    Calls Try.prog 8 #[.slice a0 n0 c0, .int .i64 k1] w fun e w' => e = .returned (.bool true) ∧ Below w.heap.size w w' := by
  by_cases h0 : n0 ≤ 1048576
  · skip
    exact walkNatShr_in a0 n0 c0 zs0 k1 w h0 hr0 hk1 hR hS hI
  · have h0' : (1048576 : Int) < (n0 : Int) := by omega
    clear hS hI
    go_enter Try.func8, Try.ntmps8
    go_wp2
    go_ret
    exact ⟨rfl, Below.refl _ _⟩

end Go.Proofs.Ythgjpccimiddfaa
