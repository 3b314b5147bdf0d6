/- The law's marks on numbers with a sign. -/
import Derived.Test.YtplgohjmfihpaaaToW0
import Derived.Test.YtplgohjmfihpaaaTn
namespace Go.Proofs.Ytplgohjmfihpaaa
open Go.RowKit

set_option maxHeartbeats 1600000 in
theorem markW (b : Nat) (va : Value) (a : Wh) (k : Int) (w : World) (hm : a.2.length ≤ 1048576) (hk0 : 0 ≤ k) (hk1 : k ≤ 1099511627776) (h1 : ownsW w b va a) :
    Calls Try.prog 47 #[va, .int .i64 k] w fun e w' => e = .returned (.int .i64 (k + a.2.length)) ∧ ownsW w' b va (a.1, marksI k a.2.length) ∧ Tn (blkW va) w w' := by
  obtain ⟨s1, rfl, o1⟩ := h1
  obtain ⟨n, xs⟩ := a
  have K := fun W (h : Below w.heap.size w W) => markI b s1 xs k W (by show xs.length ≤ _; have : xs.length ≤ 1048576 := hm; omega) hk0 hk1 (o1.below h (Nat.le_refl _))
  clear o1
  go_enter Try.func47, Try.ntmps47
  go_wp2_with fail
  refine (K _ (below1 w _)).mono ?_
  rintro e w3 ⟨rfl, o3, g3⟩
  have G3 := grown_trans (grown_alloc1 w (.cells #[.bool n, s1] 29) s1.ownBlock) g3
  go_wp2
  go_ret
  exact ⟨rfl, ⟨s1, rfl, o3⟩, Tn.of_grown G3⟩

set_option maxHeartbeats 1600000 in
theorem heldW (b : Nat) (va : Value) (n : Bool) (k : Int) (m : Nat) (w : World) (hm : m ≤ 1048576) (hk0 : 0 ≤ k) (hk1 : k ≤ 1099511627776) (h1 : ownsW w b va (n, marksI k m)) :
    Calls Try.prog 48 #[va, .int .i64 k] w fun e w' => e = .returned (.int .i64 (k + m)) ∧ Below w.heap.size w w' := by
  obtain ⟨s1, rfl, o1⟩ := h1
  have K := fun W (h : Below w.heap.size w W) => heldI b s1 k m W (by omega) hk0 hk1 (o1.below h (Nat.le_refl _))
  have h' : ¬ (k + (m : Int) < 0) := by omega
  clear o1
  go_enter Try.func48, Try.ntmps48
  go_wp2_with fail
  refine (K _ (below1 w _)).mono ?_
  rintro e w3 ⟨rfl, rfl⟩
  go_wp2
  go_ret
  exact ⟨rfl, below1 _ _⟩

end Go.Proofs.Ytplgohjmfihpaaa
