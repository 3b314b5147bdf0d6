/- The law FnExactStepsFor: its walk, out of the two contracts (written by genlaw.py from the signature I>I). -/
import Derived.Test.YtbfaeieddbaclaaFun1
namespace Go.Proofs.Ytbfaeieddbaclaa
open Go.RowKit

set_option maxHeartbeats 3200000 in
theorem walkStepsFor_in (k0 : Int) (w : World)  (hk0 : -9223372036854775808 ≤ k0 ∧ k0 ≤ 9223372036854775807)
    (hS : ∀ (k0 : Int) (W : World), -9223372036854775808 ≤ k0 → k0 ≤ 9223372036854775807 → Calls Try.prog 11 #[.int .i64 k0] W (fun e w' => e = .returned (.int .i64 (stepsR k0)) ∧ Below W.heap.size W w'))
    (hI : ∀ (k0 : Int) (W : World), -9223372036854775808 ≤ k0 → k0 ≤ 9223372036854775807 → Calls Try.prog 12 #[.int .i64 k0] W (fun e w' => e = .returned (.int .i64 (stepsR k0)) ∧ Below W.heap.size W w')) :
    Calls Try.prog 3 #[.int .i64 k0] w fun e w' => e = .returned (.bool true) ∧ Below w.heap.size w w' := by
  have S := fun W => hS k0 W hk0.1 hk0.2
  have I := fun W => hI k0 W hk0.1 hk0.2
  obtain ⟨r0, hr⟩ : ∃ r0, stepsR k0 = r0 := ⟨_, rfl⟩
  simp only [hr] at S I
  clear hS hI hr
  have B := Below.refl w.heap.size w
  go_enter Try.func3, Try.ntmps3
  -- the specification's answer
  go_wp2_with fail
  refine (S w).mono ?_
  rintro e w1 ⟨rfl, bw1⟩
  have B := B.trans (bw1.mono B.size)
  clear bw1
  -- the arguments, copied; the program's answer
  go_wp2_with fail
  refine (I w1).mono ?_
  rintro e w2 ⟨rfl, bw2⟩
  have B := B.trans (bw2.mono B.size)
  clear bw2
  -- the copies are as they were
  go_wp2
  go_ret
  exact ⟨rfl, B⟩

set_option maxHeartbeats 1600000 in
theorem walkStepsFor (k0 : Int) (w : World) (hk0 : -9223372036854775808 ≤ k0 ∧ k0 ≤ 9223372036854775807)
    (hS : ∀ (k0 : Int) (W : World), -9223372036854775808 ≤ k0 → k0 ≤ 9223372036854775807 → Calls Try.prog 11 #[.int .i64 k0] W (fun e w' => e = .returned (.int .i64 (stepsR k0)) ∧ Below W.heap.size W w'))
    (hI : ∀ (k0 : Int) (W : World), -9223372036854775808 ≤ k0 → k0 ≤ 9223372036854775807 → Calls Try.prog 12 #[.int .i64 k0] W (fun e w' => e = .returned (.int .i64 (stepsR k0)) ∧ Below W.heap.size W w')) :
    Calls Try.prog 3 #[.int .i64 k0] w fun e w' => e = .returned (.bool true) ∧ Below w.heap.size w w' := by
  exact walkStepsFor_in k0 w  hk0 hS hI

end Go.Proofs.Ytbfaeieddbaclaa
