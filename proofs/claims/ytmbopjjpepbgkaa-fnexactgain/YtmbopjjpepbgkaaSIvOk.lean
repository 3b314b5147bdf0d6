/- The specification's IvOk, by its contract. -/
import Derived.Test.YtmbopjjpepbgkaaSTB
import Derived.Test.YtmbopjjpepbgkaaWB
namespace Go.Proofs.Ytmbopjjpepbgkaa
open Go.RowKit
set_option linter.unusedSimpArgs false

theorem okW_lenV {a : Wh} (h : okW a = true) : (limbs (valW a).natAbs).length ≤ 48 := by
  have h3 := ((okW_iff a).1 h).1.1
  have : (mkW (valW a)).2.length ≤ 48 := by rw [← mkW_of h]; exact h3
  exact this

end Go.Proofs.Ytmbopjjpepbgkaa
