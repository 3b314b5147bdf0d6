/- The law's own toIntS: a copy in new memory, by its contract. -/
import Derived.Test.YtmaemcfcoieejaaEqI
import Derived.Laws.MakeOwn
namespace Go.Proofs.Ytmaemcfcoieejaa
open Go.RowKit

theorem set_next {α : Type} (ys rest : List α) (y : α) (j : Nat) (hy : ys.length = j) (hj : j < rest.length) : (ys ++ rest.drop j).set j y = (ys ++ [y]) ++ rest.drop (j + 1) := by
  rw [List.set_append_right _ _ (by omega), hy, Nat.sub_self, List.drop_eq_getElem_cons hj, List.set_cons_zero]
  simp

theorem take_next (zs : List Int) (k : Nat) (h : k < zs.length) : zs.take (k + 1) = zs.take k ++ [zs[k]?.getD 0] := by
  rw [List.take_add_one, List.getElem?_eq_getElem h]; rfl

theorem toI_step (zs : List Int) (cur : List Value) (k len : Nat) (hk : k < len) (hz : len ≤ zs.length) (hc : cur.length = len) :
    ((zs.take k).map (Value.int .i64) ++ cur.drop k).set k (.int .i64 (zs[k]?.getD 0)) = (zs.take (k + 1)).map (Value.int .i64) ++ cur.drop (k + 1) := by
  rw [set_next _ _ _ _ (by rw [List.length_map, List.length_take]; omega) (by omega), take_next zs k (by omega), List.map_append]
  rfl

end Go.Proofs.Ytmaemcfcoieejaa
