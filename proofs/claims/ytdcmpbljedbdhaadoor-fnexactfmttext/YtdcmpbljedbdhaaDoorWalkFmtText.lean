/- The law FnExactFmtText: its walk, out of the two contracts. -/
import Derived.Test.YtdcmpbljedbdhaaDoorFmtTextB
namespace Go.Proofs.YtdcmpbljedbdhaaDoor
open Go.RowKit

set_option maxHeartbeats 1600000 in
theorem walkFmtText (g : Bool) (m n : Int) (w : World) (htab : Lib.TabIs Tryd.prog w "internal/strconv.uint64pow10" .u64 Lib.pow10Tab) :
    Calls Tryd.prog 3 #[vF g m n] w fun e w' => e = .returned (.bool true) ∧ Below w.heap.size w w' := by
  have B0 := BoxF.made w g m n 23
  have hS := fun W => sFmtText g m n W
  have hI := fun W h => iFmtText g m n W (tab_below (w := w) (w' := W) h htab gPow)
  clear htab
  go_enter Tryd.func3, Tryd.ntmps3
  go_wp2_with fail
  refine (toF g m n _).mono ?_
  rintro e w1 ⟨rfl, b1⟩
  have B1 := B0.below b1
  clear B0 b1
  obtain ⟨d0, d1, d2, -, -⟩ := id B1
  go_wp2_with fail
  refine (hS _).mono ?_
  rintro e w2 ⟨t2, rfl, l2, b2⟩
  have B2 := B1.below b2
  clear B1 b2 d0 d1 d2
  obtain ⟨d0, d1, d2, -, -⟩ := id B2
  go_wp2_with fail
  refine (toF g m n _).mono ?_
  rintro e w3 ⟨rfl, b3⟩
  have B3 := B2.below b3
  clear B2 b3 d0 d1 d2
  obtain ⟨d0, d1, d2, -, -⟩ := id B3
  go_wp2_with fail
  refine (hI _ B3.2.2.2.2).mono ?_
  rintro e w4 ⟨t4, rfl, l4, b4⟩
  have B4 := B3.below b4
  obtain rfl : t4 = t2 := ByteArray.ext (Array.toList_inj.1 (l4.trans l2.symm))
  clear B3 b4 d0 d1 d2 l2 l4
  go_wp2
  go_ret
  exact ⟨rfl, B4.2.2.2.2⟩

end Go.Proofs.YtdcmpbljedbdhaaDoor
