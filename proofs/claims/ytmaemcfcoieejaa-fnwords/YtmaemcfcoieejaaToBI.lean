/- The law's own toByteS: a copy in new memory, by its contract. -/
import Derived.Test.YtmaemcfcoieejaaEqB
import Derived.Test.YtmaemcfcoieejaaToI
import Derived.Laws.MakeOwn
namespace Go.Proofs.Ytmaemcfcoieejaa
open Go.RowKit

theorem toB_step (zs : List Int) (cur : List Value) (k len : Nat) (hk : k < len) (hz : len ≤ zs.length) (hc : cur.length = len) :
    ((zs.take k).map (Value.int .u8) ++ cur.drop k).set k (.int .u8 (zs[k]?.getD 0)) = (zs.take (k + 1)).map (Value.int .u8) ++ cur.drop (k + 1) := by
  rw [set_next _ _ _ _ (by rw [List.length_map, List.length_take]; omega) (by omega), take_next zs k (by omega), List.map_append]
  rfl

end Go.Proofs.Ytmaemcfcoieejaa
