/- The law's marks on lists, in the frame of blocks. -/
import Derived.Test.YtplgohjmfihpaaaTn0
import Derived.Test.YtplgohjmfihpaaaMarkI
namespace Go.Proofs.Ytplgohjmfihpaaa
open Go.RowKit

theorem markN (b : Nat) (va : Value) (xs : List Int) (k : Int) (w : World) (hm : xs.length ≤ 1048576) (hk0 : 0 ≤ k) (hk1 : k ≤ 1099511627776) (h1 : ownsI w b va xs) :
    Calls Try.prog 23 #[va, .int .i64 k] w fun e w' => e = .returned (.int .i64 (k + xs.length)) ∧ ownsI w' b va (marksI k xs.length) ∧ Tn (blkI va) w w' := by
  refine (markI b va xs k w (by omega) hk0 hk1 h1).mono ?_
  rintro e w' ⟨rfl, o, g⟩
  exact ⟨rfl, o, Tn.of_grown g⟩
theorem heldN (b : Nat) (va : Value) (k : Int) (n : Nat) (w : World) (hm : n ≤ 1048576) (hk0 : 0 ≤ k) (hk1 : k ≤ 1099511627776) (h1 : ownsI w b va (marksI k n)) :
    Calls Try.prog 73 #[va, .int .i64 k] w fun e w' => e = .returned (.int .i64 (k + n)) ∧ Below w.heap.size w w' := by
  refine (heldI b va k n w (by omega) hk0 hk1 h1).mono ?_
  rintro e w' ⟨rfl, rfl⟩
  exact ⟨rfl, Below.refl _ _⟩

end Go.Proofs.Ytplgohjmfihpaaa
