/- Turned, of the specification and of the program, by one contract. -/
import Derived.Test.YtlnpfjnpnjiepaaRows
import Derived.WalkKit
import Derived.WalkSmall
import Derived.Laws.OwnMore
import Derived.Below
namespace Go.Proofs.Ytlnpfjnpnjiepaa
open Go.RowKit

def turnedR (m : Int) : Int := if m = 0 then 1 else if m = 1 then 0 else if 2 ≤ m ∧ m ≤ 4 then m else -1

theorem modeOk_c (m : Int) (w : World) : Calls Try.prog 61 #[.int .i64 m] w fun e w' => e = .returned (.bool (decide (0 ≤ m ∧ m ≤ 4))) ∧ w' = w := by
  by_cases h1 : 0 ≤ m
  · by_cases h2 : m ≤ 4
    · have HB : Hid (decide (0 ≤ m ∧ m ≤ 4) = true) := by show _ = _; simp [h1, h2]
      go_enter Try.func61, Try.ntmps61
      go_wp2
      go_ret
      first | exact ⟨by rw [HB.out]; rfl, rfl⟩ | exact ⟨rfl, rfl⟩
    · have HB : Hid (decide (0 ≤ m ∧ m ≤ 4) = false) := by show _ = _; simp; omega
      have q : decide (m ≤ 4) = false := by simp; omega
      go_enter Try.func61, Try.ntmps61
      go_wp2
      go_ret
      first | exact ⟨by rw [HB.out]; rfl, rfl⟩ | exact ⟨rfl, rfl⟩
  · have HB : Hid (decide (0 ≤ m ∧ m ≤ 4) = false) := by show _ = _; simp; omega
    have q : decide (0 ≤ m) = false := by simp; omega
    go_enter Try.func61, Try.ntmps61
    go_wp2
    go_ret
    first | exact ⟨by rw [HB.out]; rfl, rfl⟩ | exact ⟨rfl, rfl⟩

set_option maxHeartbeats 1600000 in
theorem iTurned (m : Int) (w : World) : Calls Try.prog 27 #[.int .i64 m] w fun e w' => e = .returned (.int .i64 (turnedR m)) ∧ Below w.heap.size w w' := by
  by_cases h0 : m = 0
  · subst h0
    go_enter Try.func27, Try.ntmps27
    go_wp2
    go_ret
    exact ⟨rfl, Below.refl _ _⟩
  by_cases h1 : m = 1
  · subst h1
    go_enter Try.func27, Try.ntmps27
    go_wp2
    go_ret
    exact ⟨rfl, Below.refl _ _⟩
  have q0 : (m == 0) = false := by simpa using h0
  have q1 : (m == 1) = false := by simpa using h1
  have C := modeOk_c m w
  by_cases h : 0 ≤ m ∧ m ≤ 4
  · have HB : Hid (turnedR m = m) := by
      show _ = _
      unfold turnedR
      rw [if_neg h0, if_neg h1, if_pos (by omega)]
    rw [decide_eq_true h] at C
    clear h h0 h1
    go_enter Try.func27, Try.ntmps27
    go_wp2_with fail
    refine C.mono ?_
    rintro e w ⟨rfl, rfl⟩
    clear C
    go_wp2
    go_ret
    exact ⟨by rw [HB.out]; rfl, Below.refl _ _⟩
  · have HB : Hid (turnedR m = -1) := by
      show _ = _
      unfold turnedR
      rw [if_neg h0, if_neg h1, if_neg (by omega)]
    rw [decide_eq_false h] at C
    clear h h0 h1
    go_enter Try.func27, Try.ntmps27
    go_wp2_with fail
    refine C.mono ?_
    rintro e w ⟨rfl, rfl⟩
    clear C
    go_wp2
    go_ret
    exact ⟨by rw [HB.out]; rfl, Below.refl _ _⟩

end Go.Proofs.Ytlnpfjnpnjiepaa
