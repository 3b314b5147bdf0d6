/- The program's NatOf, by its contract. -/
import Derived.Test.YtnojigofojjopaaDoorGList
namespace Go.Proofs.YtnojigofojjopaaDoor
open Go.RowKit

set_option maxHeartbeats 1600000 in
theorem iNatOf (n : Int) (w : World) (h0 : -9223372036854775808 ≤ n) (h1 : n ≤ 9223372036854775807) :
    Calls Tryd.prog 23 #[.int .i64 n] w (ansI w (ofR n)) := by
  by_cases hn : n < 0
  · have HR : Hid (ofR n = ([], false)) := by show _ = _; unfold ofR; rw [if_pos hn]
    go_enter Tryd.func23, Tryd.ntmps23
    go_wp2
    go_ret2
    exact ⟨_, by rw [HR.out]; rfl, by rw [HR.out]; exact nil_own _ _, Below.refl _ _⟩
  · obtain ⟨m, rfl⟩ : ∃ m : Nat, n = (m : Int) := ⟨n.toNat, by omega⟩
    have hm : m < 18446744073709551616 := by omega
    have h3 := limbs_len3 hm
    have HR : Hid (ofR (m : Int) = fitR m) := by
      show _ = _
      unfold ofR fitR
      rw [if_neg hn, if_pos (by omega)]
      rfl
    go_enter Tryd.func23, Tryd.ntmps23
    go_wp2_with fail
    refine (gOf m _ hm).mono ?_
    rintro e w1 ⟨rfl, b1⟩
    go_wp2_with fail
    refine (gList m _ (by omega)).mono ?_
    rintro e w2 ⟨v2, rfl, o2, b2⟩
    go_wp2
    go_ret2
    exact ⟨_, by rw [HR.out]; rfl, by rw [HR.out]; exact ownsI_mono o2 b1.size, b1.trans (b2.mono b1.size)⟩

end Go.Proofs.YtnojigofojjopaaDoor
