/- The draws of FnNatText: DrawNatPow and DrawNatText, each by its contract. -/
import Derived.Test.YtnojigofojjopaaDoorPickA
import Derived.Test.YtnojigofojjopaaDoorDrD
namespace Go.Proofs.YtnojigofojjopaaDoor
open Go.RowKit

set_option maxHeartbeats 1600000 in
theorem drPow (a : Option Addr) (len cap : Nat) (zs : List Int) (w : World) (hlen : len ≤ 1048576) (h : CodeIs w a len cap zs) :
    Calls Tryd.prog 20 #[.slice a len cap] w fun e w' => ∃ n k : Int, e = .returned (.tuple #[.int .i64 n, .int .i64 k]) ∧ Below w.heap.size w w' := by
  go_enter Tryd.func20, Tryd.ntmps20
  go_wp2_with fail
  refine (curNew a len cap zs w hlen h).mono ?_
  rintro e w1 ⟨rfl, cu, b1⟩
  have hlt := cu.lt
  clear h
  go_wp2_with fail
  refine (pickAny w.heap.size _ 8 8 _ _ _ (cu.alloc _) (by omega) (heap_alloc_new _ _) rfl (by rfl) (by omega) (by omega)).mono ?_
  rintro e w2 ⟨n, rfl, c2, g2⟩
  have B2 := below_cur (b1.alloc b1.size (.cells #[.int .i64 0, .int .i64 1, .int .i64 2, .int .i64 5, .int .i64 10, .int .i64 16777215, .int .i64 16777216, .int .i64 (-1)] 3)) g2 (by omega) (by simp; omega)
  have hlt2 := c2.lt
  clear cu g2 b1
  go_wp2_with fail
  refine (pickAny w.heap.size _ 10 10 _ _ _ (c2.alloc _) (by omega) (heap_alloc_new _ _) rfl (by rfl) (by omega) (by omega)).mono ?_
  rintro e w3 ⟨k, rfl, c3, g3⟩
  have B3 := below_cur (B2.alloc B2.size _) g3 (by omega) (by simp; omega)
  clear c2 g3
  go_wp2
  go_ret2
  exact ⟨n, k, rfl, B3⟩

set_option maxHeartbeats 1600000 in
theorem drText (a : Option Addr) (len cap : Nat) (zs : List Int) (w : World) (hlen : len ≤ 1048576) (h : CodeIs w a len cap zs) :
    Calls Tryd.prog 16 #[.slice a len cap] w fun e w' => ∃ va xs, e = .returned va ∧ rowI w' va xs ∧ xs.length ≤ 49 ∧ Below w.heap.size w w' := by
  go_enter Tryd.func16, Tryd.ntmps16
  go_wp2_with fail
  refine (curNew a len cap zs w hlen h).mono ?_
  rintro e w1 ⟨rfl, cu, b1⟩
  clear h
  go_wp2_with fail
  refine (drDraw w.heap.size w1 cu).mono ?_
  rintro e w2 ⟨v, xs, rfl, o2, l2, c2, g2⟩
  have B2 := below_cur b1 g2 (Nat.le_refl _) b1.size
  go_wp2
  go_ret
  exact ⟨v, xs, rfl, o2.row, l2, B2⟩

end Go.Proofs.YtnojigofojjopaaDoor
