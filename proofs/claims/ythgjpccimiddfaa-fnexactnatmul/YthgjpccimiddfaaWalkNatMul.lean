/- The law FnExactNatMul: its walk, out of the two contracts (written by genlaw.py from the signature NN>NB). -/
import Derived.Test.YthgjpccimiddfaaTn
import Derived.Test.YthgjpccimiddfaaSNatMul
import Derived.Test.YthgjpccimiddfaaINatMul
namespace Go.Proofs.Ythgjpccimiddfaa
open Go.RowKit

set_option maxHeartbeats 3200000 in
theorem walkNatMul_in (a0 : Option Addr) (n0 c0 : Nat) (zs0 : List Int) (a1 : Option Addr) (n1 c1 : Nat) (zs1 : List Int) (w : World) (h0 : n0 ≤ 1048576) (h1 : n1 ≤ 1048576) (hr0 : IsRow .i64 w a0 n0 c0 zs0) (hr1 : IsRow .i64 w a1 n1 c1 zs1) (hR : (mulR (zs0.take n0) (zs1.take n1)).1.length ≤ 1048576)
    (hS : ∀ (va0 : Value) (xs0 : List Int) (va1 : Value) (xs1 : List Int) (W : World), rowI W va0 xs0 → xs0.length ≤ 1048576 → rowI W va1 xs1 → xs1.length ≤ 1048576 → Calls Try.prog 22 #[va0, va1] W (fun e w' => ∃ v0, e = .returned (.tuple #[v0, .bool (mulR xs0 xs1).2]) ∧ ownsI w' W.heap.size v0 (mulR xs0 xs1).1 ∧ Below W.heap.size W w'))
    (hI : ∀ (va0 : Value) (xs0 : List Int) (va1 : Value) (xs1 : List Int) (W : World), rowI W va0 xs0 → xs0.length ≤ 1048576 → rowI W va1 xs1 → xs1.length ≤ 1048576 → Calls Try.prog 23 #[va0, va1] W (fun e w' => ∃ v0, e = .returned (.tuple #[v0, .bool (mulR xs0 xs1).2]) ∧ ownsI w' W.heap.size v0 (mulR xs0 xs1).1 ∧ Below W.heap.size W w')) :
    Calls Try.prog 6 #[.slice a0 n0 c0, .slice a1 n1 c1] w fun e w' => e = .returned (.bool true) ∧ Below w.heap.size w w' := by
  have h0' : ¬ (1048576 : Int) < (n0 : Int) := by omega
  have h1' : ¬ (1048576 : Int) < (n1 : Int) := by omega
  have T0 : ∀ W : World, IsRow .i64 W a0 n0 c0 zs0 → Calls Try.prog 18 #[.slice a0 n0 c0] W fun e w' => ∃ v, e = .returned v ∧ ownsI w' W.heap.size v (zs0.take n0) ∧ Below W.heap.size W w' := fun W h => toI a0 n0 c0 zs0 W (by omega) h
  have l0 : (zs0.take n0).length ≤ 1048576 := by rw [List.length_take]; omega
  obtain ⟨xs0, hxs0⟩ : ∃ xs, zs0.take n0 = xs := ⟨_, rfl⟩
  rw [hxs0] at T0 l0 hR
  clear hxs0
  have T1 : ∀ W : World, IsRow .i64 W a1 n1 c1 zs1 → Calls Try.prog 18 #[.slice a1 n1 c1] W fun e w' => ∃ v, e = .returned v ∧ ownsI w' W.heap.size v (zs1.take n1) ∧ Below W.heap.size W w' := fun W h => toI a1 n1 c1 zs1 W (by omega) h
  have l1 : (zs1.take n1).length ≤ 1048576 := by rw [List.length_take]; omega
  obtain ⟨xs1, hxs1⟩ : ∃ xs, zs1.take n1 = xs := ⟨_, rfl⟩
  rw [hxs1] at T1 l1 hR
  clear hxs1
  have S := fun va0 va1 W q0 q1 => hS va0 xs0 va1 xs1 W q0 l0 q1 l1
  have I := fun va0 va1 W q0 q1 => hI va0 xs0 va1 xs1 W q0 l0 q1 l1
  obtain ⟨r0, r1, hr⟩ : ∃ r0 r1, mulR xs0 xs1 = (r0, r1) := ⟨_, _, rfl⟩
  simp only [hr] at S I hR
  clear hS hI hr
  have eb1 : (r1 != r1) = false := by simp
  have B := Below.refl w.heap.size w
  go_enter Try.func6, Try.ntmps6
  -- the specification's answer
  go_wp2_with fail
  refine (T0 w (hr0.below B)).mono ?_
  rintro e w1 ⟨vs0, rfl, os0, bw1⟩
  have B := B.trans (bw1.mono B.size)
  clear bw1
  go_wp2_with fail
  refine (T1 w1 (hr1.below B)).mono ?_
  rintro e w2 ⟨vs1, rfl, os1, bw2⟩
  have os0 := os0.below bw2 (Nat.le_refl _)
  have B := B.trans (bw2.mono B.size)
  clear bw2
  go_wp2_with fail
  refine (S _ _ w2 os0.row os1.row).mono ?_
  rintro e w3 ⟨vw0, rfl, ow0, bw3⟩
  have ds0_w0 := apart_of (fun k hk => (os0.ltb k hk).2) (fun k hk => (ow0.ltb k hk).1)
  have ds1_w0 := apart_of (fun k hk => (os1.ltb k hk).2) (fun k hk => (ow0.ltb k hk).1)
  have mw0 : ∀ k ∈ blkI vw0, w.heap.size ≤ k := fun k hk => Nat.le_trans B.size (ow0.ltb k hk).1
  have os0 := os0.below bw3 (Nat.le_refl _)
  have os1 := os1.below bw3 (Nat.le_refl _)
  have B := B.trans (bw3.mono B.size)
  clear bw3
  clear os0 os1
  -- the arguments, copied; the program's answer
  go_wp2_with fail
  refine (T0 w3 (hr0.below B)).mono ?_
  rintro e w4 ⟨vx0, rfl, ox0, bw4⟩
  have dw0_x0 := apart_of (fun k hk => (ow0.ltb k hk).2) (fun k hk => (ox0.ltb k hk).1)
  have mx0 : ∀ k ∈ blkI vx0, w.heap.size ≤ k := fun k hk => Nat.le_trans B.size (ox0.ltb k hk).1
  have ow0 := ow0.below bw4 (Nat.le_refl _)
  have B := B.trans (bw4.mono B.size)
  clear bw4
  go_wp2_with fail
  refine (T1 w4 (hr1.below B)).mono ?_
  rintro e w5 ⟨vx1, rfl, ox1, bw5⟩
  have dw0_x1 := apart_of (fun k hk => (ow0.ltb k hk).2) (fun k hk => (ox1.ltb k hk).1)
  have dx0_x1 := apart_of (fun k hk => (ox0.ltb k hk).2) (fun k hk => (ox1.ltb k hk).1)
  have mx1 : ∀ k ∈ blkI vx1, w.heap.size ≤ k := fun k hk => Nat.le_trans B.size (ox1.ltb k hk).1
  have ow0 := ow0.below bw5 (Nat.le_refl _)
  have ox0 := ox0.below bw5 (Nat.le_refl _)
  have B := B.trans (bw5.mono B.size)
  clear bw5
  go_wp2_with fail
  refine (I _ _ w5 ox0.row ox1.row).mono ?_
  rintro e w6 ⟨vg0, rfl, og0, bw6⟩
  have dw0_g0 := apart_of (fun k hk => (ow0.ltb k hk).2) (fun k hk => (og0.ltb k hk).1)
  have dx0_g0 := apart_of (fun k hk => (ox0.ltb k hk).2) (fun k hk => (og0.ltb k hk).1)
  have dx1_g0 := apart_of (fun k hk => (ox1.ltb k hk).2) (fun k hk => (og0.ltb k hk).1)
  have mg0 : ∀ k ∈ blkI vg0, w.heap.size ≤ k := fun k hk => Nat.le_trans B.size (og0.ltb k hk).1
  have ow0 := ow0.below bw6 (Nat.le_refl _)
  have ox0 := ox0.below bw6 (Nat.le_refl _)
  have ox1 := ox1.below bw6 (Nat.le_refl _)
  have B := B.trans (bw6.mono B.size)
  clear bw6
  go_wp2_with fail
  refine (eqI' _ _ _ _ _ w6 (by omega) og0 ow0).mono ?_
  rintro e w7 ⟨rfl, bw7⟩
  have ow0 := ow0.below bw7 (Nat.le_refl _)
  have ox0 := ox0.below bw7 (Nat.le_refl _)
  have ox1 := ox1.below bw7 (Nat.le_refl _)
  have og0 := og0.below bw7 (Nat.le_refl _)
  have B := B.trans (bw7.mono B.size)
  clear bw7
  -- the copies are as they were
  go_wp2_with fail
  refine (T0 w7 (hr0.below B)).mono ?_
  rintro e w8 ⟨vy0, rfl, oy0, bw8⟩
  have ow0 := ow0.below bw8 (Nat.le_refl _)
  have ox0 := ox0.below bw8 (Nat.le_refl _)
  have ox1 := ox1.below bw8 (Nat.le_refl _)
  have og0 := og0.below bw8 (Nat.le_refl _)
  have B := B.trans (bw8.mono B.size)
  clear bw8
  go_wp2_with fail
  refine (eqI' _ _ _ _ _ w8 (by omega) ox0 oy0).mono ?_
  rintro e w9 ⟨rfl, bw9⟩
  have ow0 := ow0.below bw9 (Nat.le_refl _)
  have ox0 := ox0.below bw9 (Nat.le_refl _)
  have ox1 := ox1.below bw9 (Nat.le_refl _)
  have og0 := og0.below bw9 (Nat.le_refl _)
  have oy0 := oy0.below bw9 (Nat.le_refl _)
  have B := B.trans (bw9.mono B.size)
  clear bw9
  clear oy0
  go_wp2_with fail
  refine (T1 w9 (hr1.below B)).mono ?_
  rintro e w10 ⟨vy1, rfl, oy1, bw10⟩
  have ow0 := ow0.below bw10 (Nat.le_refl _)
  have ox0 := ox0.below bw10 (Nat.le_refl _)
  have ox1 := ox1.below bw10 (Nat.le_refl _)
  have og0 := og0.below bw10 (Nat.le_refl _)
  have B := B.trans (bw10.mono B.size)
  clear bw10
  go_wp2_with fail
  refine (eqI' _ _ _ _ _ w10 (by omega) ox1 oy1).mono ?_
  rintro e w11 ⟨rfl, bw11⟩
  have ow0 := ow0.below bw11 (Nat.le_refl _)
  have ox0 := ox0.below bw11 (Nat.le_refl _)
  have ox1 := ox1.below bw11 (Nat.le_refl _)
  have og0 := og0.below bw11 (Nat.le_refl _)
  have oy1 := oy1.below bw11 (Nat.le_refl _)
  have B := B.trans (bw11.mono B.size)
  clear bw11
  clear oy1
  -- marks in the copies do not reach the answer
  go_wp2_with fail
  refine (markN _ _ xs0 (1) w11 (by omega) (by omega) (by omega) ox0).mono ?_
  rintro e w12 ⟨rfl, oM, gw12⟩
  have ow0 := ow0.tn gw12 dw0_x0
  have ox1 := ox1.tn gw12 dx0_x1.symm
  have og0 := og0.tn gw12 dx0_g0.symm
  have B := gw12.below B B.size mx0
  clear gw12
  clear ox0 oM
  go_wp2_with fail
  refine (markN _ _ xs1 (1 + xs0.length) w12 (by omega) (by omega) (by omega) ox1).mono ?_
  rintro e w13 ⟨rfl, oM, gw13⟩
  have ow0 := ow0.tn gw13 dw0_x1
  have og0 := og0.tn gw13 dx1_g0.symm
  have B := gw13.below B B.size mx1
  clear gw13
  clear ox1 oM
  have hkn : ¬ (((1 : Int) + xs0.length + xs1.length) < 0) := by omega
  go_wp2_with fail
  refine (eqI' _ _ _ _ _ w13 (by omega) og0 ow0).mono ?_
  rintro e w14 ⟨rfl, bw14⟩
  have ow0 := ow0.below bw14 (Nat.le_refl _)
  have og0 := og0.below bw14 (Nat.le_refl _)
  have B := B.trans (bw14.mono B.size)
  clear bw14
  -- the answer's own memory
  go_wp2_with fail
  refine (markN _ _ r0 (1) w14 (by omega) (by omega) (by omega) og0).mono ?_
  rintro e w15 ⟨rfl, oM, gw15⟩
  have ow0 := ow0.tn gw15 dw0_g0
  have B := gw15.below B B.size mg0
  clear gw15
  have og0 := oM
  clear oM
  go_wp2_with fail
  refine (heldN _ _ (1) r0.length w15 (by omega) (by omega) (by omega) og0).mono ?_
  rintro e w16 ⟨rfl, bw16⟩
  have ow0 := ow0.below bw16 (Nat.le_refl _)
  have og0 := og0.below bw16 (Nat.le_refl _)
  have B := B.trans (bw16.mono B.size)
  clear bw16
  go_wp2_with fail
  refine (T0 w16 (hr0.below B)).mono ?_
  rintro e w17 ⟨vz0, rfl, oz0, bw17⟩
  have ow0 := ow0.below bw17 (Nat.le_refl _)
  have og0 := og0.below bw17 (Nat.le_refl _)
  have B := B.trans (bw17.mono B.size)
  clear bw17
  go_wp2_with fail
  refine (T1 w17 (hr1.below B)).mono ?_
  rintro e w18 ⟨vz1, rfl, oz1, bw18⟩
  have ow0 := ow0.below bw18 (Nat.le_refl _)
  have og0 := og0.below bw18 (Nat.le_refl _)
  have oz0 := oz0.below bw18 (Nat.le_refl _)
  have B := B.trans (bw18.mono B.size)
  clear bw18
  go_wp2_with fail
  refine (I _ _ w18 oz0.row oz1.row).mono ?_
  rintro e w19 ⟨vh0, rfl, oh0, bw19⟩
  have ow0 := ow0.below bw19 (Nat.le_refl _)
  have og0 := og0.below bw19 (Nat.le_refl _)
  have oz0 := oz0.below bw19 (Nat.le_refl _)
  have oz1 := oz1.below bw19 (Nat.le_refl _)
  have B := B.trans (bw19.mono B.size)
  clear bw19
  clear oz0 oz1
  go_wp2_with fail
  refine (eqI' _ _ _ _ _ w19 (by omega) oh0 ow0).mono ?_
  rintro e w20 ⟨rfl, bw20⟩
  have ow0 := ow0.below bw20 (Nat.le_refl _)
  have og0 := og0.below bw20 (Nat.le_refl _)
  have oh0 := oh0.below bw20 (Nat.le_refl _)
  have B := B.trans (bw20.mono B.size)
  clear bw20
  go_wp2_with fail
  refine (heldN _ _ (1) r0.length w20 (by omega) (by omega) (by omega) og0).mono ?_
  rintro e w21 ⟨rfl, bw21⟩
  have ow0 := ow0.below bw21 (Nat.le_refl _)
  have og0 := og0.below bw21 (Nat.le_refl _)
  have oh0 := oh0.below bw21 (Nat.le_refl _)
  have B := B.trans (bw21.mono B.size)
  clear bw21
  go_wp2
  go_ret
  exact ⟨rfl, B⟩

set_option maxHeartbeats 1600000 in
theorem walkNatMul (a0 : Option Addr) (n0 c0 : Nat) (zs0 : List Int) (a1 : Option Addr) (n1 c1 : Nat) (zs1 : List Int) (w : World) (hr0 : IsRow .i64 w a0 n0 c0 zs0) (hr1 : IsRow .i64 w a1 n1 c1 zs1) (hR : (mulR (zs0.take n0) (zs1.take n1)).1.length ≤ 1048576)
    (hS : ∀ (va0 : Value) (xs0 : List Int) (va1 : Value) (xs1 : List Int) (W : World), rowI W va0 xs0 → xs0.length ≤ 1048576 → rowI W va1 xs1 → xs1.length ≤ 1048576 → Calls Try.prog 22 #[va0, va1] W (fun e w' => ∃ v0, e = .returned (.tuple #[v0, .bool (mulR xs0 xs1).2]) ∧ ownsI w' W.heap.size v0 (mulR xs0 xs1).1 ∧ Below W.heap.size W w'))
    (hI : ∀ (va0 : Value) (xs0 : List Int) (va1 : Value) (xs1 : List Int) (W : World), rowI W va0 xs0 → xs0.length ≤ 1048576 → rowI W va1 xs1 → xs1.length ≤ 1048576 → Calls Try.prog 23 #[va0, va1] W (fun e w' => ∃ v0, e = .returned (.tuple #[v0, .bool (mulR xs0 xs1).2]) ∧ ownsI w' W.heap.size v0 (mulR xs0 xs1).1 ∧ Below W.heap.size W w')) :
    Calls Try.prog 6 #[.slice a0 n0 c0, .slice a1 n1 c1] w fun e w' => e = .returned (.bool true) ∧ Below w.heap.size w w' := by
  by_cases h0 : n0 ≤ 1048576
  · skip
    by_cases h1 : n1 ≤ 1048576
    · skip
      exact walkNatMul_in a0 n0 c0 zs0 a1 n1 c1 zs1 w h0 h1 hr0 hr1 hR hS hI
    · have h1' : (1048576 : Int) < (n1 : Int) := by omega
      have h0' : ¬ (1048576 : Int) < (n0 : Int) := by omega
      clear hS hI
      go_enter Try.func6, Try.ntmps6
      go_wp2
      go_ret
      exact ⟨rfl, Below.refl _ _⟩
  · have h0' : (1048576 : Int) < (n0 : Int) := by omega
    clear hS hI
    go_enter Try.func6, Try.ntmps6
    go_wp2
    go_ret
    exact ⟨rfl, Below.refl _ _⟩

end Go.Proofs.Ythgjpccimiddfaa
