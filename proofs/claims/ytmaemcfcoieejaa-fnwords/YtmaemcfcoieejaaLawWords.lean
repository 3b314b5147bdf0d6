/- FnWords: the law. -/
import Derived.Test.YtmaemcfcoieejaaWordsW
import Derived.Test.YtmaemcfcoieejaaDrF2
namespace Go.Proofs.Ytmaemcfcoieejaa
open Go.RowKit

theorem words_in (a : Option Addr) (len cap : Nat) (zs : List Int) (w : World) (hlen : len ≤ 1048576) (h : CodeIs w a len cap zs) :
    Calls Try.prog 4 #[.slice a len cap] w fun e w' => e = .returned (.bool true) ∧ Below w.heap.size w w' :=
  words_with a len cap zs w hlen h (fun W hh => drFWordOf a len cap zs W hlen hh)

set_option maxHeartbeats 800000 in
theorem words_big (a : Option Addr) (len cap : Nat) (w : World) (h : ¬ len ≤ 1048576) :
    Calls Try.prog 4 #[.slice a len cap] w fun e w' => e = .returned (.bool true) ∧ Below w.heap.size w w' := by
  go_enter Try.func4, Try.ntmps4
  go_wp2_with fail
  refine (big_yes a len cap _ h).mono ?_
  rintro e w1 ⟨rfl, rfl⟩
  go_wp2
  go_ret
  exact ⟨rfl, Below.refl _ _⟩

theorem walkWords (a0 : Option Addr) (len0 cap0 : Nat) (z0 : List Int) (w : World) (h : IsRow .u8 w a0 len0 cap0 z0) :
    Calls Try.prog 4 #[.slice a0 len0 cap0] w fun e w' => e = .returned (.bool true) ∧ Below w.heap.size w w' :=
  law_big 4 words_big words_in a0 len0 cap0 z0 w h

end Go.Proofs.Ytmaemcfcoieejaa
