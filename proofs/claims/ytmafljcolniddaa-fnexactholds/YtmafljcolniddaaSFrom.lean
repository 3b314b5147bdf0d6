/- The program's signedFrom, signed.small, signed.order, each by its contract. -/
import Derived.Test.YtmafljcolniddaaSG
import Derived.Test.YtmafljcolniddaaGB
import Derived.Test.YtmafljcolniddaaIWholeOk
import Derived.Test.YtmafljcolniddaaBase
namespace Go.Proofs.Ytmafljcolniddaa
open Go.RowKit

theorem okW_ok {a : Wh} (h : okW a = true) : okB a.2 = true := by
  unfold okW at h
  simp at h
  exact h.1

end Go.Proofs.Ytmafljcolniddaa
