/- The law FnExactRungs: its walk, out of the two contracts (written by genlaw.py from the signature I>N). -/
import Derived.Test.YtbfaeieddbaclaaTn
import Derived.Test.YtbfaeieddbaclaaFun1
namespace Go.Proofs.Ytbfaeieddbaclaa
open Go.RowKit

set_option maxHeartbeats 3200000 in
theorem walkRungs_in (k0 : Int) (w : World)  (hk0 : -9223372036854775808 ≤ k0 ∧ k0 ≤ 9223372036854775807) (hR : (rungsR k0).length ≤ 1048576)
    (hS : ∀ (k0 : Int) (W : World), -9223372036854775808 ≤ k0 → k0 ≤ 9223372036854775807 → Calls Try.prog 17 #[.int .i64 k0] W (fun e w' => ∃ v0, e = .returned (v0) ∧ ownsI w' W.heap.size v0 (rungsR k0) ∧ Below W.heap.size W w'))
    (hI : ∀ (k0 : Int) (W : World), -9223372036854775808 ≤ k0 → k0 ≤ 9223372036854775807 → Calls Try.prog 18 #[.int .i64 k0] W (fun e w' => ∃ v0, e = .returned (v0) ∧ ownsI w' W.heap.size v0 (rungsR k0) ∧ Below W.heap.size W w')) :
    Calls Try.prog 6 #[.int .i64 k0] w fun e w' => e = .returned (.bool true) ∧ Below w.heap.size w w' := by
  have S := fun W => hS k0 W hk0.1 hk0.2
  have I := fun W => hI k0 W hk0.1 hk0.2
  obtain ⟨r0, hr⟩ : ∃ r0, rungsR k0 = r0 := ⟨_, rfl⟩
  simp only [hr] at S I hR
  clear hS hI hr
  have B := Below.refl w.heap.size w
  go_enter Try.func6, Try.ntmps6
  -- the specification's answer
  go_wp2_with fail
  refine (S w).mono ?_
  rintro e w1 ⟨vw0, rfl, ow0, bw1⟩
  have mw0 : ∀ k ∈ blkI vw0, w.heap.size ≤ k := fun k hk => Nat.le_trans B.size (ow0.ltb k hk).1
  have B := B.trans (bw1.mono B.size)
  clear bw1
  -- the arguments, copied; the program's answer
  go_wp2_with fail
  refine (I w1).mono ?_
  rintro e w2 ⟨vg0, rfl, og0, bw2⟩
  have dw0_g0 := apart_of (fun k hk => (ow0.ltb k hk).2) (fun k hk => (og0.ltb k hk).1)
  have mg0 : ∀ k ∈ blkI vg0, w.heap.size ≤ k := fun k hk => Nat.le_trans B.size (og0.ltb k hk).1
  have ow0 := ow0.below bw2 (Nat.le_refl _)
  have B := B.trans (bw2.mono B.size)
  clear bw2
  go_wp2_with fail
  refine (eqI' _ _ _ _ _ w2 (by omega) og0 ow0).mono ?_
  rintro e w3 ⟨rfl, bw3⟩
  have ow0 := ow0.below bw3 (Nat.le_refl _)
  have og0 := og0.below bw3 (Nat.le_refl _)
  have B := B.trans (bw3.mono B.size)
  clear bw3
  -- the copies are as they were
  -- the answer's own memory
  go_wp2_with fail
  refine (markN _ _ r0 (1) w3 (by omega) (by omega) (by omega) og0).mono ?_
  rintro e w4 ⟨rfl, oM, gw4⟩
  have ow0 := ow0.tn gw4 dw0_g0
  have B := gw4.below B B.size mg0
  clear gw4
  have og0 := oM
  clear oM
  go_wp2_with fail
  refine (heldN _ _ (1) r0.length w4 (by omega) (by omega) (by omega) og0).mono ?_
  rintro e w5 ⟨rfl, bw5⟩
  have ow0 := ow0.below bw5 (Nat.le_refl _)
  have og0 := og0.below bw5 (Nat.le_refl _)
  have B := B.trans (bw5.mono B.size)
  clear bw5
  go_wp2_with fail
  refine (I w5).mono ?_
  rintro e w6 ⟨vh0, rfl, oh0, bw6⟩
  have ow0 := ow0.below bw6 (Nat.le_refl _)
  have og0 := og0.below bw6 (Nat.le_refl _)
  have B := B.trans (bw6.mono B.size)
  clear bw6
  go_wp2_with fail
  refine (eqI' _ _ _ _ _ w6 (by omega) oh0 ow0).mono ?_
  rintro e w7 ⟨rfl, bw7⟩
  have ow0 := ow0.below bw7 (Nat.le_refl _)
  have og0 := og0.below bw7 (Nat.le_refl _)
  have oh0 := oh0.below bw7 (Nat.le_refl _)
  have B := B.trans (bw7.mono B.size)
  clear bw7
  go_wp2_with fail
  refine (heldN _ _ (1) r0.length w7 (by omega) (by omega) (by omega) og0).mono ?_
  rintro e w8 ⟨rfl, bw8⟩
  have ow0 := ow0.below bw8 (Nat.le_refl _)
  have og0 := og0.below bw8 (Nat.le_refl _)
  have oh0 := oh0.below bw8 (Nat.le_refl _)
  have B := B.trans (bw8.mono B.size)
  clear bw8
  go_wp2
  go_ret
  exact ⟨rfl, B⟩

set_option maxHeartbeats 1600000 in
theorem walkRungs (k0 : Int) (w : World) (hk0 : -9223372036854775808 ≤ k0 ∧ k0 ≤ 9223372036854775807) (hR : (rungsR k0).length ≤ 1048576)
    (hS : ∀ (k0 : Int) (W : World), -9223372036854775808 ≤ k0 → k0 ≤ 9223372036854775807 → Calls Try.prog 17 #[.int .i64 k0] W (fun e w' => ∃ v0, e = .returned (v0) ∧ ownsI w' W.heap.size v0 (rungsR k0) ∧ Below W.heap.size W w'))
    (hI : ∀ (k0 : Int) (W : World), -9223372036854775808 ≤ k0 → k0 ≤ 9223372036854775807 → Calls Try.prog 18 #[.int .i64 k0] W (fun e w' => ∃ v0, e = .returned (v0) ∧ ownsI w' W.heap.size v0 (rungsR k0) ∧ Below W.heap.size W w')) :
    Calls Try.prog 6 #[.int .i64 k0] w fun e w' => e = .returned (.bool true) ∧ Below w.heap.size w w' := by
  exact walkRungs_in k0 w  hk0 hR hS hI

end Go.Proofs.Ytbfaeieddbaclaa
