/- The law's marks on numbers with a sign. -/
import Derived.Test.YtbfaeieddbaclaaToW0
import Derived.Test.YtbfaeieddbaclaaTn
namespace Go.Proofs.Ytbfaeieddbaclaa
open Go.RowKit

end Go.Proofs.Ytbfaeieddbaclaa
