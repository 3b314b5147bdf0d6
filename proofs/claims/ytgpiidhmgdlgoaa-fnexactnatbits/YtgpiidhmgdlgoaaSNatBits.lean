/- The specification's NatBits, by its contract. -/
import Derived.Test.YtgpiidhmgdlgoaaSBits
namespace Go.Proofs.Ytgpiidhmgdlgoaa
open Go.RowKit

set_option maxHeartbeats 800000 in
theorem sNatBits (v : Value) (xs : List Int) (w : World) (h : rowI w v xs) (hl : xs.length ≤ 1048576) :
    Calls Try.prog 31 #[v] w fun e w' => e = .returned (.int .i64 (bitsR xs)) ∧ w' = w := by
  have ka := sNatOk v xs w h (by omega)
  cases hox : okB xs
  · have HE : Hid (bitsR xs = -1) := by show _ = _; rw [bitsR, if_neg (by rw [hox]; simp)]
    rw [hox] at ka
    clear hox h
    go_enter Try.func31, Try.ntmps31
    go_wp2_with (go_at_call 45; refine ka.mono ?_; rintro e w ⟨rfl, rfl⟩)
    go_ret
    exact ⟨by rw [HE.out]; rfl, rfl⟩
  · have HE : Hid (bitsR xs = (nbits (num xs) : Int)) := by show _ = _; rw [bitsR, if_pos hox]
    have kb := sBits v xs w h ((okB_iff xs).1 hox).2 hl
    rw [hox] at ka
    clear hox h
    go_enter Try.func31, Try.ntmps31
    go_wp2_with fail
    refine ka.mono ?_
    rintro e w ⟨rfl, rfl⟩
    go_wp2_with fail
    refine kb.mono ?_
    rintro e w ⟨rfl, rfl⟩
    go_wp2
    go_ret
    exact ⟨by rw [HE.out]; rfl, rfl⟩

end Go.Proofs.Ytgpiidhmgdlgoaa
