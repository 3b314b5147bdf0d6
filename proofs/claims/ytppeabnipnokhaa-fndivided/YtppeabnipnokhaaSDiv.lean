/- The specification's l3Div, by its contract. -/
import Derived.Test.YtppeabnipnokhaaDivR
import Derived.Test.YtppeabnipnokhaaOne
import Derived.Test.YtppeabnipnokhaaSBits
import Derived.Test.YtppeabnipnokhaaSUp
import Derived.Test.YtppeabnipnokhaaSPlus
import Derived.Test.YtppeabnipnokhaaSCmp
import Derived.Test.YtppeabnipnokhaaSLess
import Derived.Test.YtppeabnipnokhaaSTimes
import Derived.Deep.RegionLaw
namespace Go.Proofs.Ytppeabnipnokhaa
open Go.RowKit

end Go.Proofs.Ytppeabnipnokhaa
