/- FnMeet: the walk, of codes of whichever length. -/
import Derived.Test.YtddakeohamefiaaLawMeet
namespace Go.Proofs.Ytddakeohamefiaa
open Go.RowKit

set_option maxRecDepth 20000 in
set_option maxHeartbeats 1600000 in
theorem walkMeet (a0 : Option Addr) (len0 cap0 : Nat) (z0 : List Int) (w : World) (h : IsRow .u8 w a0 len0 cap0 z0) :
    Calls Try.prog 4 #[.slice a0 len0 cap0] w fun e w' => e = .returned (.bool true) ∧ Below w.heap.size w w' := by
  refine law_big _ (fun a len cap w hs => ?_) meet_in a0 len0 cap0 z0 w h
  go_enter Try.func4, Try.ntmps4
  go_wp2_with (go_at_call 6; refine (big_yes a len cap w hs).mono ?_; rintro e w ⟨rfl, rfl⟩)
  go_ret
  exact ⟨rfl, Below.refl _ _⟩

end Go.Proofs.Ytddakeohamefiaa
