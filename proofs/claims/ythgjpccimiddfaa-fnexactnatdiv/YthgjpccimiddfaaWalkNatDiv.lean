/- The law FnExactNatDiv: its walk, out of the two contracts (written by genlaw.py from the signature NN>NNB). -/
import Derived.Test.YthgjpccimiddfaaTn
import Derived.Test.YthgjpccimiddfaaSNatDiv
import Derived.Test.YthgjpccimiddfaaINatDiv
namespace Go.Proofs.Ythgjpccimiddfaa
open Go.RowKit

set_option maxHeartbeats 3200000 in
theorem walkNatDiv_in (a0 : Option Addr) (n0 c0 : Nat) (zs0 : List Int) (a1 : Option Addr) (n1 c1 : Nat) (zs1 : List Int) (w : World) (h0 : n0 ≤ 1048576) (h1 : n1 ≤ 1048576) (hr0 : IsRow .i64 w a0 n0 c0 zs0) (hr1 : IsRow .i64 w a1 n1 c1 zs1) (hR : (divR (zs0.take n0) (zs1.take n1)).1.length ≤ 1048576 ∧ (divR (zs0.take n0) (zs1.take n1)).2.1.length ≤ 1048576)
    (hS : ∀ (va0 : Value) (xs0 : List Int) (va1 : Value) (xs1 : List Int) (W : World), rowI W va0 xs0 → xs0.length ≤ 1048576 → rowI W va1 xs1 → xs1.length ≤ 1048576 → Calls Try.prog 28 #[va0, va1] W (fun e w' => ∃ v0 v1, e = .returned (.tuple #[v0, v1, .bool (divR xs0 xs1).2.2]) ∧ ownsI w' W.heap.size v0 (divR xs0 xs1).1 ∧ ownsI w' W.heap.size v1 (divR xs0 xs1).2.1 ∧ Apart (blkI v0) (blkI v1) ∧ Below W.heap.size W w'))
    (hI : ∀ (va0 : Value) (xs0 : List Int) (va1 : Value) (xs1 : List Int) (W : World), rowI W va0 xs0 → xs0.length ≤ 1048576 → rowI W va1 xs1 → xs1.length ≤ 1048576 → Calls Try.prog 29 #[va0, va1] W (fun e w' => ∃ v0 v1, e = .returned (.tuple #[v0, v1, .bool (divR xs0 xs1).2.2]) ∧ ownsI w' W.heap.size v0 (divR xs0 xs1).1 ∧ ownsI w' W.heap.size v1 (divR xs0 xs1).2.1 ∧ Apart (blkI v0) (blkI v1) ∧ Below W.heap.size W w')) :
    Calls Try.prog 9 #[.slice a0 n0 c0, .slice a1 n1 c1] w fun e w' => e = .returned (.bool true) ∧ Below w.heap.size w w' := by
  have h0' : ¬ (1048576 : Int) < (n0 : Int) := by omega
  have h1' : ¬ (1048576 : Int) < (n1 : Int) := by omega
  have T0 : ∀ W : World, IsRow .i64 W a0 n0 c0 zs0 → Calls Try.prog 18 #[.slice a0 n0 c0] W fun e w' => ∃ v, e = .returned v ∧ ownsI w' W.heap.size v (zs0.take n0) ∧ Below W.heap.size W w' := fun W h => toI a0 n0 c0 zs0 W (by omega) h
  have l0 : (zs0.take n0).length ≤ 1048576 := by rw [List.length_take]; omega
  obtain ⟨xs0, hxs0⟩ : ∃ xs, zs0.take n0 = xs := ⟨_, rfl⟩
  rw [hxs0] at T0 l0 hR
  clear hxs0
  have T1 : ∀ W : World, IsRow .i64 W a1 n1 c1 zs1 → Calls Try.prog 18 #[.slice a1 n1 c1] W fun e w' => ∃ v, e = .returned v ∧ ownsI w' W.heap.size v (zs1.take n1) ∧ Below W.heap.size W w' := fun W h => toI a1 n1 c1 zs1 W (by omega) h
  have l1 : (zs1.take n1).length ≤ 1048576 := by rw [List.length_take]; omega
  obtain ⟨xs1, hxs1⟩ : ∃ xs, zs1.take n1 = xs := ⟨_, rfl⟩
  rw [hxs1] at T1 l1 hR
  clear hxs1
  have S := fun va0 va1 W q0 q1 => hS va0 xs0 va1 xs1 W q0 l0 q1 l1
  have I := fun va0 va1 W q0 q1 => hI va0 xs0 va1 xs1 W q0 l0 q1 l1
  obtain ⟨r0, r1, r2, hr⟩ : ∃ r0 r1 r2, divR xs0 xs1 = (r0, r1, r2) := ⟨_, _, _, rfl⟩
  simp only [hr] at S I hR
  clear hS hI hr
  have eb2 : (r2 != r2) = false := by simp
  have B := Below.refl w.heap.size w
  go_enter Try.func9, Try.ntmps9
  -- the specification's answer
  go_wp2_with fail
  refine (T0 w (hr0.below B)).mono ?_
  rintro e w1 ⟨vs0, rfl, os0, bw1⟩
  have B := B.trans (bw1.mono B.size)
  clear bw1
  go_wp2_with fail
  refine (T1 w1 (hr1.below B)).mono ?_
  rintro e w2 ⟨vs1, rfl, os1, bw2⟩
  have os0 := os0.below bw2 (Nat.le_refl _)
  have B := B.trans (bw2.mono B.size)
  clear bw2
  go_wp2_with fail
  refine (S _ _ w2 os0.row os1.row).mono ?_
  rintro e w3 ⟨vw0, vw1, rfl, ow0, ow1, dw0_w1, bw3⟩
  have ds0_w0 := apart_of (fun k hk => (os0.ltb k hk).2) (fun k hk => (ow0.ltb k hk).1)
  have ds1_w0 := apart_of (fun k hk => (os1.ltb k hk).2) (fun k hk => (ow0.ltb k hk).1)
  have mw0 : ∀ k ∈ blkI vw0, w.heap.size ≤ k := fun k hk => Nat.le_trans B.size (ow0.ltb k hk).1
  have ds0_w1 := apart_of (fun k hk => (os0.ltb k hk).2) (fun k hk => (ow1.ltb k hk).1)
  have ds1_w1 := apart_of (fun k hk => (os1.ltb k hk).2) (fun k hk => (ow1.ltb k hk).1)
  have mw1 : ∀ k ∈ blkI vw1, w.heap.size ≤ k := fun k hk => Nat.le_trans B.size (ow1.ltb k hk).1
  have os0 := os0.below bw3 (Nat.le_refl _)
  have os1 := os1.below bw3 (Nat.le_refl _)
  have B := B.trans (bw3.mono B.size)
  clear bw3
  clear os0 os1
  -- the arguments, copied; the program's answer
  go_wp2_with fail
  refine (T0 w3 (hr0.below B)).mono ?_
  rintro e w4 ⟨vx0, rfl, ox0, bw4⟩
  have dw0_x0 := apart_of (fun k hk => (ow0.ltb k hk).2) (fun k hk => (ox0.ltb k hk).1)
  have dw1_x0 := apart_of (fun k hk => (ow1.ltb k hk).2) (fun k hk => (ox0.ltb k hk).1)
  have mx0 : ∀ k ∈ blkI vx0, w.heap.size ≤ k := fun k hk => Nat.le_trans B.size (ox0.ltb k hk).1
  have ow0 := ow0.below bw4 (Nat.le_refl _)
  have ow1 := ow1.below bw4 (Nat.le_refl _)
  have B := B.trans (bw4.mono B.size)
  clear bw4
  go_wp2_with fail
  refine (T1 w4 (hr1.below B)).mono ?_
  rintro e w5 ⟨vx1, rfl, ox1, bw5⟩
  have dw0_x1 := apart_of (fun k hk => (ow0.ltb k hk).2) (fun k hk => (ox1.ltb k hk).1)
  have dw1_x1 := apart_of (fun k hk => (ow1.ltb k hk).2) (fun k hk => (ox1.ltb k hk).1)
  have dx0_x1 := apart_of (fun k hk => (ox0.ltb k hk).2) (fun k hk => (ox1.ltb k hk).1)
  have mx1 : ∀ k ∈ blkI vx1, w.heap.size ≤ k := fun k hk => Nat.le_trans B.size (ox1.ltb k hk).1
  have ow0 := ow0.below bw5 (Nat.le_refl _)
  have ow1 := ow1.below bw5 (Nat.le_refl _)
  have ox0 := ox0.below bw5 (Nat.le_refl _)
  have B := B.trans (bw5.mono B.size)
  clear bw5
  go_wp2_with fail
  refine (I _ _ w5 ox0.row ox1.row).mono ?_
  rintro e w6 ⟨vg0, vg1, rfl, og0, og1, dg0_g1, bw6⟩
  have dw0_g0 := apart_of (fun k hk => (ow0.ltb k hk).2) (fun k hk => (og0.ltb k hk).1)
  have dw1_g0 := apart_of (fun k hk => (ow1.ltb k hk).2) (fun k hk => (og0.ltb k hk).1)
  have dx0_g0 := apart_of (fun k hk => (ox0.ltb k hk).2) (fun k hk => (og0.ltb k hk).1)
  have dx1_g0 := apart_of (fun k hk => (ox1.ltb k hk).2) (fun k hk => (og0.ltb k hk).1)
  have mg0 : ∀ k ∈ blkI vg0, w.heap.size ≤ k := fun k hk => Nat.le_trans B.size (og0.ltb k hk).1
  have dw0_g1 := apart_of (fun k hk => (ow0.ltb k hk).2) (fun k hk => (og1.ltb k hk).1)
  have dw1_g1 := apart_of (fun k hk => (ow1.ltb k hk).2) (fun k hk => (og1.ltb k hk).1)
  have dx0_g1 := apart_of (fun k hk => (ox0.ltb k hk).2) (fun k hk => (og1.ltb k hk).1)
  have dx1_g1 := apart_of (fun k hk => (ox1.ltb k hk).2) (fun k hk => (og1.ltb k hk).1)
  have mg1 : ∀ k ∈ blkI vg1, w.heap.size ≤ k := fun k hk => Nat.le_trans B.size (og1.ltb k hk).1
  have ow0 := ow0.below bw6 (Nat.le_refl _)
  have ow1 := ow1.below bw6 (Nat.le_refl _)
  have ox0 := ox0.below bw6 (Nat.le_refl _)
  have ox1 := ox1.below bw6 (Nat.le_refl _)
  have B := B.trans (bw6.mono B.size)
  clear bw6
  go_wp2_with fail
  refine (eqI' _ _ _ _ _ w6 (by omega) og0 ow0).mono ?_
  rintro e w7 ⟨rfl, bw7⟩
  have ow0 := ow0.below bw7 (Nat.le_refl _)
  have ow1 := ow1.below bw7 (Nat.le_refl _)
  have ox0 := ox0.below bw7 (Nat.le_refl _)
  have ox1 := ox1.below bw7 (Nat.le_refl _)
  have og0 := og0.below bw7 (Nat.le_refl _)
  have og1 := og1.below bw7 (Nat.le_refl _)
  have B := B.trans (bw7.mono B.size)
  clear bw7
  go_wp2_with fail
  refine (eqI' _ _ _ _ _ w7 (by omega) og1 ow1).mono ?_
  rintro e w8 ⟨rfl, bw8⟩
  have ow0 := ow0.below bw8 (Nat.le_refl _)
  have ow1 := ow1.below bw8 (Nat.le_refl _)
  have ox0 := ox0.below bw8 (Nat.le_refl _)
  have ox1 := ox1.below bw8 (Nat.le_refl _)
  have og0 := og0.below bw8 (Nat.le_refl _)
  have og1 := og1.below bw8 (Nat.le_refl _)
  have B := B.trans (bw8.mono B.size)
  clear bw8
  -- the copies are as they were
  go_wp2_with fail
  refine (T0 w8 (hr0.below B)).mono ?_
  rintro e w9 ⟨vy0, rfl, oy0, bw9⟩
  have ow0 := ow0.below bw9 (Nat.le_refl _)
  have ow1 := ow1.below bw9 (Nat.le_refl _)
  have ox0 := ox0.below bw9 (Nat.le_refl _)
  have ox1 := ox1.below bw9 (Nat.le_refl _)
  have og0 := og0.below bw9 (Nat.le_refl _)
  have og1 := og1.below bw9 (Nat.le_refl _)
  have B := B.trans (bw9.mono B.size)
  clear bw9
  go_wp2_with fail
  refine (eqI' _ _ _ _ _ w9 (by omega) ox0 oy0).mono ?_
  rintro e w10 ⟨rfl, bw10⟩
  have ow0 := ow0.below bw10 (Nat.le_refl _)
  have ow1 := ow1.below bw10 (Nat.le_refl _)
  have ox0 := ox0.below bw10 (Nat.le_refl _)
  have ox1 := ox1.below bw10 (Nat.le_refl _)
  have og0 := og0.below bw10 (Nat.le_refl _)
  have og1 := og1.below bw10 (Nat.le_refl _)
  have oy0 := oy0.below bw10 (Nat.le_refl _)
  have B := B.trans (bw10.mono B.size)
  clear bw10
  clear oy0
  go_wp2_with fail
  refine (T1 w10 (hr1.below B)).mono ?_
  rintro e w11 ⟨vy1, rfl, oy1, bw11⟩
  have ow0 := ow0.below bw11 (Nat.le_refl _)
  have ow1 := ow1.below bw11 (Nat.le_refl _)
  have ox0 := ox0.below bw11 (Nat.le_refl _)
  have ox1 := ox1.below bw11 (Nat.le_refl _)
  have og0 := og0.below bw11 (Nat.le_refl _)
  have og1 := og1.below bw11 (Nat.le_refl _)
  have B := B.trans (bw11.mono B.size)
  clear bw11
  go_wp2_with fail
  refine (eqI' _ _ _ _ _ w11 (by omega) ox1 oy1).mono ?_
  rintro e w12 ⟨rfl, bw12⟩
  have ow0 := ow0.below bw12 (Nat.le_refl _)
  have ow1 := ow1.below bw12 (Nat.le_refl _)
  have ox0 := ox0.below bw12 (Nat.le_refl _)
  have ox1 := ox1.below bw12 (Nat.le_refl _)
  have og0 := og0.below bw12 (Nat.le_refl _)
  have og1 := og1.below bw12 (Nat.le_refl _)
  have oy1 := oy1.below bw12 (Nat.le_refl _)
  have B := B.trans (bw12.mono B.size)
  clear bw12
  clear oy1
  -- marks in the copies do not reach the answer
  go_wp2_with fail
  refine (markN _ _ xs0 (1) w12 (by omega) (by omega) (by omega) ox0).mono ?_
  rintro e w13 ⟨rfl, oM, gw13⟩
  have ow0 := ow0.tn gw13 dw0_x0
  have ow1 := ow1.tn gw13 dw1_x0
  have ox1 := ox1.tn gw13 dx0_x1.symm
  have og0 := og0.tn gw13 dx0_g0.symm
  have og1 := og1.tn gw13 dx0_g1.symm
  have B := gw13.below B B.size mx0
  clear gw13
  clear ox0 oM
  go_wp2_with fail
  refine (markN _ _ xs1 (1 + xs0.length) w13 (by omega) (by omega) (by omega) ox1).mono ?_
  rintro e w14 ⟨rfl, oM, gw14⟩
  have ow0 := ow0.tn gw14 dw0_x1
  have ow1 := ow1.tn gw14 dw1_x1
  have og0 := og0.tn gw14 dx1_g0.symm
  have og1 := og1.tn gw14 dx1_g1.symm
  have B := gw14.below B B.size mx1
  clear gw14
  clear ox1 oM
  have hkn : ¬ (((1 : Int) + xs0.length + xs1.length) < 0) := by omega
  go_wp2_with fail
  refine (eqI' _ _ _ _ _ w14 (by omega) og0 ow0).mono ?_
  rintro e w15 ⟨rfl, bw15⟩
  have ow0 := ow0.below bw15 (Nat.le_refl _)
  have ow1 := ow1.below bw15 (Nat.le_refl _)
  have og0 := og0.below bw15 (Nat.le_refl _)
  have og1 := og1.below bw15 (Nat.le_refl _)
  have B := B.trans (bw15.mono B.size)
  clear bw15
  go_wp2_with fail
  refine (eqI' _ _ _ _ _ w15 (by omega) og1 ow1).mono ?_
  rintro e w16 ⟨rfl, bw16⟩
  have ow0 := ow0.below bw16 (Nat.le_refl _)
  have ow1 := ow1.below bw16 (Nat.le_refl _)
  have og0 := og0.below bw16 (Nat.le_refl _)
  have og1 := og1.below bw16 (Nat.le_refl _)
  have B := B.trans (bw16.mono B.size)
  clear bw16
  -- the answer's own memory
  go_wp2_with fail
  refine (markN _ _ r0 (1) w16 (by omega) (by omega) (by omega) og0).mono ?_
  rintro e w17 ⟨rfl, oM, gw17⟩
  have ow0 := ow0.tn gw17 dw0_g0
  have ow1 := ow1.tn gw17 dw1_g0
  have og1 := og1.tn gw17 dg0_g1.symm
  have B := gw17.below B B.size mg0
  clear gw17
  have og0 := oM
  clear oM
  go_wp2_with fail
  refine (markN _ _ r1 (1 + r0.length) w17 (by omega) (by omega) (by omega) og1).mono ?_
  rintro e w18 ⟨rfl, oM, gw18⟩
  have ow0 := ow0.tn gw18 dw0_g1
  have ow1 := ow1.tn gw18 dw1_g1
  have og0 := og0.tn gw18 dg0_g1
  have B := gw18.below B B.size mg1
  clear gw18
  have og1 := oM
  clear oM
  go_wp2_with fail
  refine (heldN _ _ (1) r0.length w18 (by omega) (by omega) (by omega) og0).mono ?_
  rintro e w19 ⟨rfl, bw19⟩
  have ow0 := ow0.below bw19 (Nat.le_refl _)
  have ow1 := ow1.below bw19 (Nat.le_refl _)
  have og0 := og0.below bw19 (Nat.le_refl _)
  have og1 := og1.below bw19 (Nat.le_refl _)
  have B := B.trans (bw19.mono B.size)
  clear bw19
  go_wp2_with fail
  refine (heldN _ _ (1 + r0.length) r1.length w19 (by omega) (by omega) (by omega) og1).mono ?_
  rintro e w20 ⟨rfl, bw20⟩
  have ow0 := ow0.below bw20 (Nat.le_refl _)
  have ow1 := ow1.below bw20 (Nat.le_refl _)
  have og0 := og0.below bw20 (Nat.le_refl _)
  have og1 := og1.below bw20 (Nat.le_refl _)
  have B := B.trans (bw20.mono B.size)
  clear bw20
  go_wp2_with fail
  refine (T0 w20 (hr0.below B)).mono ?_
  rintro e w21 ⟨vz0, rfl, oz0, bw21⟩
  have ow0 := ow0.below bw21 (Nat.le_refl _)
  have ow1 := ow1.below bw21 (Nat.le_refl _)
  have og0 := og0.below bw21 (Nat.le_refl _)
  have og1 := og1.below bw21 (Nat.le_refl _)
  have B := B.trans (bw21.mono B.size)
  clear bw21
  go_wp2_with fail
  refine (T1 w21 (hr1.below B)).mono ?_
  rintro e w22 ⟨vz1, rfl, oz1, bw22⟩
  have ow0 := ow0.below bw22 (Nat.le_refl _)
  have ow1 := ow1.below bw22 (Nat.le_refl _)
  have og0 := og0.below bw22 (Nat.le_refl _)
  have og1 := og1.below bw22 (Nat.le_refl _)
  have oz0 := oz0.below bw22 (Nat.le_refl _)
  have B := B.trans (bw22.mono B.size)
  clear bw22
  go_wp2_with fail
  refine (I _ _ w22 oz0.row oz1.row).mono ?_
  rintro e w23 ⟨vh0, vh1, rfl, oh0, oh1, dh0_h1, bw23⟩
  have ow0 := ow0.below bw23 (Nat.le_refl _)
  have ow1 := ow1.below bw23 (Nat.le_refl _)
  have og0 := og0.below bw23 (Nat.le_refl _)
  have og1 := og1.below bw23 (Nat.le_refl _)
  have oz0 := oz0.below bw23 (Nat.le_refl _)
  have oz1 := oz1.below bw23 (Nat.le_refl _)
  have B := B.trans (bw23.mono B.size)
  clear bw23
  clear oz0 oz1
  go_wp2_with fail
  refine (eqI' _ _ _ _ _ w23 (by omega) oh0 ow0).mono ?_
  rintro e w24 ⟨rfl, bw24⟩
  have ow0 := ow0.below bw24 (Nat.le_refl _)
  have ow1 := ow1.below bw24 (Nat.le_refl _)
  have og0 := og0.below bw24 (Nat.le_refl _)
  have og1 := og1.below bw24 (Nat.le_refl _)
  have oh0 := oh0.below bw24 (Nat.le_refl _)
  have oh1 := oh1.below bw24 (Nat.le_refl _)
  have B := B.trans (bw24.mono B.size)
  clear bw24
  go_wp2_with fail
  refine (eqI' _ _ _ _ _ w24 (by omega) oh1 ow1).mono ?_
  rintro e w25 ⟨rfl, bw25⟩
  have ow0 := ow0.below bw25 (Nat.le_refl _)
  have ow1 := ow1.below bw25 (Nat.le_refl _)
  have og0 := og0.below bw25 (Nat.le_refl _)
  have og1 := og1.below bw25 (Nat.le_refl _)
  have oh0 := oh0.below bw25 (Nat.le_refl _)
  have oh1 := oh1.below bw25 (Nat.le_refl _)
  have B := B.trans (bw25.mono B.size)
  clear bw25
  go_wp2_with fail
  refine (heldN _ _ (1) r0.length w25 (by omega) (by omega) (by omega) og0).mono ?_
  rintro e w26 ⟨rfl, bw26⟩
  have ow0 := ow0.below bw26 (Nat.le_refl _)
  have ow1 := ow1.below bw26 (Nat.le_refl _)
  have og0 := og0.below bw26 (Nat.le_refl _)
  have og1 := og1.below bw26 (Nat.le_refl _)
  have oh0 := oh0.below bw26 (Nat.le_refl _)
  have oh1 := oh1.below bw26 (Nat.le_refl _)
  have B := B.trans (bw26.mono B.size)
  clear bw26
  go_wp2_with fail
  refine (heldN _ _ (1 + r0.length) r1.length w26 (by omega) (by omega) (by omega) og1).mono ?_
  rintro e w27 ⟨rfl, bw27⟩
  have ow0 := ow0.below bw27 (Nat.le_refl _)
  have ow1 := ow1.below bw27 (Nat.le_refl _)
  have og0 := og0.below bw27 (Nat.le_refl _)
  have og1 := og1.below bw27 (Nat.le_refl _)
  have oh0 := oh0.below bw27 (Nat.le_refl _)
  have oh1 := oh1.below bw27 (Nat.le_refl _)
  have B := B.trans (bw27.mono B.size)
  clear bw27
  go_wp2
  go_ret
  exact ⟨rfl, B⟩

set_option maxHeartbeats 1600000 in
theorem walkNatDiv (a0 : Option Addr) (n0 c0 : Nat) (zs0 : List Int) (a1 : Option Addr) (n1 c1 : Nat) (zs1 : List Int) (w : World) (hr0 : IsRow .i64 w a0 n0 c0 zs0) (hr1 : IsRow .i64 w a1 n1 c1 zs1) (hR : (divR (zs0.take n0) (zs1.take n1)).1.length ≤ 1048576 ∧ (divR (zs0.take n0) (zs1.take n1)).2.1.length ≤ 1048576)
    (hS : ∀ (va0 : Value) (xs0 : List Int) (va1 : Value) (xs1 : List Int) (W : World), rowI W va0 xs0 → xs0.length ≤ 1048576 → rowI W va1 xs1 → xs1.length ≤ 1048576 → Calls Try.prog 28 #[va0, va1] W (fun e w' => ∃ v0 v1, e = .returned (.tuple #[v0, v1, .bool (divR xs0 xs1).2.2]) ∧ ownsI w' W.heap.size v0 (divR xs0 xs1).1 ∧ ownsI w' W.heap.size v1 (divR xs0 xs1).2.1 ∧ Apart (blkI v0) (blkI v1) ∧ Below W.heap.size W w'))
    (hI : ∀ (va0 : Value) (xs0 : List Int) (va1 : Value) (xs1 : List Int) (W : World), rowI W va0 xs0 → xs0.length ≤ 1048576 → rowI W va1 xs1 → xs1.length ≤ 1048576 → Calls Try.prog 29 #[va0, va1] W (fun e w' => ∃ v0 v1, e = .returned (.tuple #[v0, v1, .bool (divR xs0 xs1).2.2]) ∧ ownsI w' W.heap.size v0 (divR xs0 xs1).1 ∧ ownsI w' W.heap.size v1 (divR xs0 xs1).2.1 ∧ Apart (blkI v0) (blkI v1) ∧ Below W.heap.size W w')) :
    Calls Try.prog 9 #[.slice a0 n0 c0, .slice a1 n1 c1] w fun e w' => e = .returned (.bool true) ∧ Below w.heap.size w w' := by
  by_cases h0 : n0 ≤ 1048576
  · skip
    by_cases h1 : n1 ≤ 1048576
    · skip
      exact walkNatDiv_in a0 n0 c0 zs0 a1 n1 c1 zs1 w h0 h1 hr0 hr1 hR hS hI
    · have h1' : (1048576 : Int) < (n1 : Int) := by omega
      have h0' : ¬ (1048576 : Int) < (n0 : Int) := by omega
      clear hS hI
      go_enter Try.func9, Try.ntmps9
      go_wp2
      go_ret
      exact ⟨rfl, Below.refl _ _⟩
  · have h0' : (1048576 : Int) < (n0 : Int) := by omega
    clear hS hI
    go_enter Try.func9, Try.ntmps9
    go_wp2
    go_ret
    exact ⟨rfl, Below.refl _ _⟩

end Go.Proofs.Ythgjpccimiddfaa
