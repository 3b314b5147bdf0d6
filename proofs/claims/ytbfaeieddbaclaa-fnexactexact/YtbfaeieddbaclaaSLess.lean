/- The specification's l2Less, by its contract. -/
import Derived.Test.YtbfaeieddbaclaaSLimb
import Derived.Test.YtbfaeieddbaclaaSTrim
import Derived.Deep.QuietTactic
import Derived.BigQuiet
namespace Go.Proofs.Ytbfaeieddbaclaa
open Go.RowKit

end Go.Proofs.Ytbfaeieddbaclaa
