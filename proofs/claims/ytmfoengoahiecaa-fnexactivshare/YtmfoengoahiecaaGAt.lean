/- The program's betweenAt, by its contract. -/
import Derived.Test.YtmfoengoahiecaaGRest
import Derived.Test.YtmfoengoahiecaaSgShift
namespace Go.Proofs.Ytmfoengoahiecaa
open Go.RowKit
set_option linter.unusedSimpArgs false

theorem pow_len (k L : Nat) (h : k < 24 * L) : (limbs (2 ^ k)).length ≤ L := limbs_len_le _ L (by rw [basePowG]; exact Nat.pow_lt_pow_right (by omega) h)

end Go.Proofs.Ytmfoengoahiecaa
