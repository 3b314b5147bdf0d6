/- The program's whole and negated, each by its contract. -/
import Derived.Test.YtmafljcolniddaaSFrom
import Derived.Test.YtmafljcolniddaaGB
import Derived.Deep.RegionHeld
namespace Go.Proofs.Ytmafljcolniddaa
open Go.RowKit
set_option linter.unusedSimpArgs false

theorem nilW (w : World) (base : Nat) : ownsW w base (.agg #[.bool false, .slice none 0 0]) (false, []) := ⟨_, rfl, nil_own w base⟩

end Go.Proofs.Ytmafljcolniddaa
