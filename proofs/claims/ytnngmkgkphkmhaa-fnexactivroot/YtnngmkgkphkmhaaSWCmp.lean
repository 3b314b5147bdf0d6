/- The specification's l4Cmp, by its contract. -/
import Derived.Test.YtnngmkgkphkmhaaBase
import Derived.Test.YtnngmkgkphkmhaaSB
namespace Go.Proofs.Ytnngmkgkphkmhaa
open Go.RowKit

def cmpZ (x y : Int) : Int := if x < y then -1 else if y < x then 1 else 0

set_option maxHeartbeats 1600000 in
theorem sWCmp (va vb : Value) (x y : Int) (w : World) (ha : rowW w va (mkW x)) (hb : rowW w vb (mkW y)) (hlx : (limbs x.natAbs).length ≤ 1048576) (hly : (limbs y.natAbs).length ≤ 1048576) :
    Calls Try.prog 39 #[va, vb] w fun e w' => e = .returned (.int .i64 (cmpZ x y)) ∧ Below w.heap.size w w' := by
  obtain ⟨s, rfl, hs⟩ := ha
  obtain ⟨t, rfl, ht⟩ := hb
  have hs' : rowI w s (limbs x.natAbs) := hs
  have ht' : rowI w t (limbs y.natAbs) := ht
  have K := fun W (h : Below w.heap.size w W) => sCmp s t (limbs x.natAbs) (limbs y.natAbs) W (hs'.below h (Nat.le_refl _)) (ht'.below h (Nat.le_refl _)) (limbs_inR _) (limbs_inR _) hlx hly
  have K' := fun W (h : Below w.heap.size w W) => sCmp t s (limbs y.natAbs) (limbs x.natAbs) W (ht'.below h (Nat.le_refl _)) (hs'.below h (Nat.le_refl _)) (limbs_inR _) (limbs_inR _) hly hlx
  simp only [num_limbs] at K K'
  obtain ⟨a1, c1, rfl, -⟩ := id hs'
  obtain ⟨a2, c2, rfl, -⟩ := id ht'
  clear hs ht hs' ht'
  by_cases hx : x < 0
  · rw [mkW_neg x hx]
    by_cases hy : y < 0
    · rw [mkW_neg y hy]
      have HE : Hid (cmpZ x y = cmpI y.natAbs x.natAbs) := by
        show _ = _
        unfold cmpZ cmpI
        repeat' split
        all_goals omega
      clear K
      go_enter Try.func39, Try.ntmps39
      go_wp2_with fail
      refine (K' _ (below2 w _ _)).mono ?_
      rintro e w1 ⟨rfl, rfl⟩
      go_wp2
      go_ret
      exact ⟨by rw [HE.out]; rfl, below2 _ _ _⟩
    · rw [mkW_pos y (by omega)]
      have HE : Hid (cmpZ x y = -1) := by show _ = _; unfold cmpZ; rw [if_pos (by omega)]
      clear K K'
      go_enter Try.func39, Try.ntmps39
      go_wp2
      go_ret
      exact ⟨by rw [HE.out]; rfl, below2 _ _ _⟩
  · rw [mkW_pos x (by omega)]
    by_cases hy : y < 0
    · rw [mkW_neg y hy]
      have HE : Hid (cmpZ x y = 1) := by show _ = _; unfold cmpZ; rw [if_neg (by omega), if_pos (by omega)]
      clear K K'
      go_enter Try.func39, Try.ntmps39
      go_wp2
      go_ret
      exact ⟨by rw [HE.out]; rfl, below2 _ _ _⟩
    · rw [mkW_pos y (by omega)]
      have HE : Hid (cmpZ x y = cmpI x.natAbs y.natAbs) := by
        show _ = _
        unfold cmpZ cmpI
        repeat' split
        all_goals omega
      clear K'
      go_enter Try.func39, Try.ntmps39
      go_wp2_with fail
      refine (K _ (below2 w _ _)).mono ?_
      rintro e w1 ⟨rfl, rfl⟩
      go_wp2
      go_ret
      exact ⟨by rw [HE.out]; rfl, below2 _ _ _⟩

end Go.Proofs.Ytnngmkgkphkmhaa
