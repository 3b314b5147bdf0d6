/- The specification's l2Cmp, by its contract. -/
import Derived.Test.YtppeabnipnokhaaSLimb
import Derived.Test.YtppeabnipnokhaaSMax
namespace Go.Proofs.Ytppeabnipnokhaa
open Go.RowKit

end Go.Proofs.Ytppeabnipnokhaa
