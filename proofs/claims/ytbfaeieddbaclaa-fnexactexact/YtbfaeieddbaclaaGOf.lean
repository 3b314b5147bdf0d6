/- The program's greatOf, by its contract. -/
import Derived.Test.YtbfaeieddbaclaaG
namespace Go.Proofs.Ytbfaeieddbaclaa
open Go.RowKit

theorem limbs_len3 {n : Nat} (h : n < 18446744073709551616) : (limbs n).length ≤ 3 := limbs_len_le n 3 (by omega)
end Go.Proofs.Ytbfaeieddbaclaa
