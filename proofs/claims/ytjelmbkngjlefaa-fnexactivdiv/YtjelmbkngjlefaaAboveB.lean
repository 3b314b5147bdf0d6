/- Above nought, on both sides. -/
import Derived.Test.YtjelmbkngjlefaaFrS
import Derived.Test.YtjelmbkngjlefaaSIvOk
namespace Go.Proofs.Ytjelmbkngjlefaa
open Go.RowKit
set_option linter.unusedSimpArgs false

theorem aboveG (g : Bool) (ad : Option Addr) (n c : Nat) (w : World) :
    Calls Try.prog 27 #[.agg #[.bool g, .slice ad n c]] w fun e w' => e = .returned (.bool (!g && decide (0 < n))) ∧ Below w.heap.size w w' := by
  cases g
  · by_cases h : 0 < n
    · have h1 : (0 : Int) < (n : Int) := by omega
      rw [decide_eq_true h]
      go_enter Try.func27, Try.ntmps27
      go_wp2
      go_ret
      exact ⟨rfl, below1 _ _⟩
    · obtain rfl : n = 0 := by omega
      go_enter Try.func27, Try.ntmps27
      go_wp2
      go_ret
      exact ⟨rfl, below1 _ _⟩
  · go_enter Try.func27, Try.ntmps27
    go_wp2
    go_ret
    exact ⟨rfl, below1 _ _⟩
theorem limbs_above (z : Int) (h : 0 ≤ z) : decide (0 < (limbs z.natAbs).length) = decide (0 < z) := by
  by_cases h1 : 0 < z
  · rw [decide_eq_true h1, decide_eq_true]
    rw [limbs_pos z.natAbs (by omega)]
    simp
  · obtain rfl : z = 0 := by omega
    rw [show (0 : Int).natAbs = 0 from rfl, limbs_zero]
    rfl
theorem aboveS (va : Value) (z : Int) (w : World) (ha : rowW w va (mkW z)) :
    Calls Try.prog 27 #[va] w fun e w' => e = .returned (.bool (decide (0 < z))) ∧ Below w.heap.size w w' := by
  obtain ⟨s, rfl, hs⟩ := ha
  obtain ⟨ad, c, rfl, -⟩ := hs
  refine (aboveG _ _ _ _ w).mono ?_
  rintro e w' ⟨rfl, hb⟩
  refine ⟨?_, hb⟩
  unfold mkW
  by_cases h : z < 0
  · rw [decide_eq_true h, decide_eq_false (by omega : ¬ 0 < z)]
    rfl
  · rw [decide_eq_false h, limbs_above z (by omega)]
    rfl
theorem aboveI (p : Nat) (z : Int) (w : World) (h : SG w p z) :
    Calls Try.prog 29 #[.pointer (some ⟨p, 0, none⟩)] w fun e w' => e = .returned (.bool (decide (0 < z))) ∧ Below w.heap.size w w' := by
  have c0 := h.sign
  have c1 := h.mag.size
  by_cases hz : z < 0
  · rw [decide_eq_true hz] at c0
    rw [decide_eq_false (by omega)]
    clear hz
    go_enter Try.func29, Try.ntmps29
    go_wp2
    go_ret
    exact ⟨rfl, Below.refl _ _⟩
  · rw [decide_eq_false hz] at c0
    rw [← limbs_above z (by omega)]
    generalize (limbs z.natAbs).length = n at *
    clear hz
    by_cases hn : 0 < n
    · have h1 : (0 : Int) < (n : Int) := by omega
      rw [decide_eq_true hn]
      go_enter Try.func29, Try.ntmps29
      go_wp2
      go_ret
      exact ⟨rfl, Below.refl _ _⟩
    · obtain rfl : n = 0 := by omega
      go_enter Try.func29, Try.ntmps29
      go_wp2
      go_ret
      exact ⟨rfl, Below.refl _ _⟩

end Go.Proofs.Ytjelmbkngjlefaa
