/- The specification's l5Mode and RoundFrac, each by its contract. -/
import Derived.Test.YtnplnekfeabneaaSFrac
import Derived.Test.YtnplnekfeabneaaWB
import Derived.Test.YtnplnekfeabneaaBase
namespace Go.Proofs.Ytnplnekfeabneaa
open Go.RowKit
set_option linter.unusedSimpArgs false

theorem sMode_yes (m : Int) (w : World) (h0 : 0 ≤ m) (h4 : m ≤ 4) : Calls Try.prog 16 #[.int .i64 m] w fun e w' => e = .returned (.bool true) ∧ w' = w := by
  have k := fun W => in_yes m 0 4 W h0 h4
  go_enter Try.func16, Try.ntmps16
  go_wp2_with (go_at_call 36; refine (k _).mono ?_; rintro e w ⟨rfl, rfl⟩)
  go_ret
  exact ⟨rfl, rfl⟩
theorem sMode_no (m : Int) (w : World) (h : ¬ (0 ≤ m ∧ m ≤ 4)) : Calls Try.prog 16 #[.int .i64 m] w fun e w' => e = .returned (.bool false) ∧ w' = w := by
  have k := fun W => in_no m 0 4 W h
  clear h
  go_enter Try.func16, Try.ntmps16
  go_wp2_with (go_at_call 36; refine (k _).mono ?_; rintro e w ⟨rfl, rfl⟩)
  go_ret
  exact ⟨rfl, rfl⟩
theorem okW_val {a : Wh} (h : okW a = true) : a.1 = decide (valW a < 0) ∧ a.2 = limbs (valW a).natAbs := by
  have e := mkW_of h
  constructor
  · rw [e]; simp only [mkW_val]; rfl
  · rw [e]; simp only [mkW_val]; rfl
theorem valW_lenS {a : Wh} (h : okW a = true) : (limbs (valW a).natAbs).length ≤ 48 := by
  rw [← (okW_val h).2]
  exact ((okW_iff a).1 h).1.1

end Go.Proofs.Ytnplnekfeabneaa
