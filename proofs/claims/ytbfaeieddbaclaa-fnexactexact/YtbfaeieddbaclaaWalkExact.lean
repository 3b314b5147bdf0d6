/- The law FnExactExact: its walk, out of the two contracts (written by genlaw.py from the signature IBIII>IIB). -/
import Derived.Test.YtbfaeieddbaclaaFun8
import Derived.Test.YtbfaeieddbaclaaFun9
namespace Go.Proofs.Ytbfaeieddbaclaa
open Go.RowKit

set_option maxHeartbeats 3200000 in
theorem walkExact_in (k0 : Int) (t1 : Bool) (k2 : Int) (k3 : Int) (k4 : Int) (w : World)  (hk0 : -9223372036854775808 ≤ k0 ∧ k0 ≤ 9223372036854775807) (hk2 : -9223372036854775808 ≤ k2 ∧ k2 ≤ 9223372036854775807) (hk3 : -9223372036854775808 ≤ k3 ∧ k3 ≤ 9223372036854775807) (hk4 : -9223372036854775808 ≤ k4 ∧ k4 ≤ 9223372036854775807)
    (hS : ∀ (k0 : Int) (t1 : Bool) (k2 : Int) (k3 : Int) (k4 : Int) (W : World), -9223372036854775808 ≤ k0 → k0 ≤ 9223372036854775807 → -9223372036854775808 ≤ k2 → k2 ≤ 9223372036854775807 → -9223372036854775808 ≤ k3 → k3 ≤ 9223372036854775807 → -9223372036854775808 ≤ k4 → k4 ≤ 9223372036854775807 → Calls Try.prog 15 #[.int .i64 k0, .bool t1, .int .i64 k2, .int .i64 k3, .int .i64 k4] W (fun e w' => e = .returned (.tuple #[.int .i64 (exactR k0 t1 k2 k3 k4).1, .int .i64 (exactR k0 t1 k2 k3 k4).2.1, .bool (exactR k0 t1 k2 k3 k4).2.2]) ∧ Below W.heap.size W w'))
    (hI : ∀ (k0 : Int) (t1 : Bool) (k2 : Int) (k3 : Int) (k4 : Int) (W : World), -9223372036854775808 ≤ k0 → k0 ≤ 9223372036854775807 → -9223372036854775808 ≤ k2 → k2 ≤ 9223372036854775807 → -9223372036854775808 ≤ k3 → k3 ≤ 9223372036854775807 → -9223372036854775808 ≤ k4 → k4 ≤ 9223372036854775807 → Calls Try.prog 16 #[.int .i64 k0, .bool t1, .int .i64 k2, .int .i64 k3, .int .i64 k4] W (fun e w' => e = .returned (.tuple #[.int .i64 (exactR k0 t1 k2 k3 k4).1, .int .i64 (exactR k0 t1 k2 k3 k4).2.1, .bool (exactR k0 t1 k2 k3 k4).2.2]) ∧ Below W.heap.size W w')) :
    Calls Try.prog 5 #[.int .i64 k0, .bool t1, .int .i64 k2, .int .i64 k3, .int .i64 k4] w fun e w' => e = .returned (.bool true) ∧ Below w.heap.size w w' := by
  have S := fun W => hS k0 t1 k2 k3 k4 W hk0.1 hk0.2 hk2.1 hk2.2 hk3.1 hk3.2 hk4.1 hk4.2
  have I := fun W => hI k0 t1 k2 k3 k4 W hk0.1 hk0.2 hk2.1 hk2.2 hk3.1 hk3.2 hk4.1 hk4.2
  obtain ⟨r0, r1, r2, hr⟩ : ∃ r0 r1 r2, exactR k0 t1 k2 k3 k4 = (r0, r1, r2) := ⟨_, _, _, rfl⟩
  simp only [hr] at S I
  clear hS hI hr
  have eb2 : (r2 != r2) = false := by simp
  have B := Below.refl w.heap.size w
  go_enter Try.func5, Try.ntmps5
  -- the specification's answer
  go_wp2_with fail
  refine (S w).mono ?_
  rintro e w1 ⟨rfl, bw1⟩
  have B := B.trans (bw1.mono B.size)
  clear bw1
  -- the arguments, copied; the program's answer
  go_wp2_with fail
  refine (I w1).mono ?_
  rintro e w2 ⟨rfl, bw2⟩
  have B := B.trans (bw2.mono B.size)
  clear bw2
  -- the copies are as they were
  go_wp2
  go_ret
  exact ⟨rfl, B⟩

set_option maxHeartbeats 1600000 in
theorem walkExact (k0 : Int) (t1 : Bool) (k2 : Int) (k3 : Int) (k4 : Int) (w : World) (hk0 : -9223372036854775808 ≤ k0 ∧ k0 ≤ 9223372036854775807) (hk2 : -9223372036854775808 ≤ k2 ∧ k2 ≤ 9223372036854775807) (hk3 : -9223372036854775808 ≤ k3 ∧ k3 ≤ 9223372036854775807) (hk4 : -9223372036854775808 ≤ k4 ∧ k4 ≤ 9223372036854775807)
    (hS : ∀ (k0 : Int) (t1 : Bool) (k2 : Int) (k3 : Int) (k4 : Int) (W : World), -9223372036854775808 ≤ k0 → k0 ≤ 9223372036854775807 → -9223372036854775808 ≤ k2 → k2 ≤ 9223372036854775807 → -9223372036854775808 ≤ k3 → k3 ≤ 9223372036854775807 → -9223372036854775808 ≤ k4 → k4 ≤ 9223372036854775807 → Calls Try.prog 15 #[.int .i64 k0, .bool t1, .int .i64 k2, .int .i64 k3, .int .i64 k4] W (fun e w' => e = .returned (.tuple #[.int .i64 (exactR k0 t1 k2 k3 k4).1, .int .i64 (exactR k0 t1 k2 k3 k4).2.1, .bool (exactR k0 t1 k2 k3 k4).2.2]) ∧ Below W.heap.size W w'))
    (hI : ∀ (k0 : Int) (t1 : Bool) (k2 : Int) (k3 : Int) (k4 : Int) (W : World), -9223372036854775808 ≤ k0 → k0 ≤ 9223372036854775807 → -9223372036854775808 ≤ k2 → k2 ≤ 9223372036854775807 → -9223372036854775808 ≤ k3 → k3 ≤ 9223372036854775807 → -9223372036854775808 ≤ k4 → k4 ≤ 9223372036854775807 → Calls Try.prog 16 #[.int .i64 k0, .bool t1, .int .i64 k2, .int .i64 k3, .int .i64 k4] W (fun e w' => e = .returned (.tuple #[.int .i64 (exactR k0 t1 k2 k3 k4).1, .int .i64 (exactR k0 t1 k2 k3 k4).2.1, .bool (exactR k0 t1 k2 k3 k4).2.2]) ∧ Below W.heap.size W w')) :
    Calls Try.prog 5 #[.int .i64 k0, .bool t1, .int .i64 k2, .int .i64 k3, .int .i64 k4] w fun e w' => e = .returned (.bool true) ∧ Below w.heap.size w w' := by
  exact walkExact_in k0 t1 k2 k3 k4 w  hk0 hk2 hk3 hk4 hS hI

end Go.Proofs.Ytbfaeieddbaclaa
