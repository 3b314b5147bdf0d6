/- The program's NatRoot, by its contract. -/
import Derived.Test.YtppeabnipnokhaaGRoot
import Derived.Test.YtppeabnipnokhaaGFrom
import Derived.Test.YtppeabnipnokhaaGList
namespace Go.Proofs.Ytppeabnipnokhaa
open Go.RowKit

theorem fromN_whole {xs : List Int} (h : okB xs = true) : fromN xs = num xs := by unfold fromN; rw [if_pos h]

set_option maxHeartbeats 1600000 in
theorem iNatRoot (va : Value) (xs : List Int) (w : World) (h : rowI w va xs) (hl : xs.length ≤ 1048576) :
    Calls Try.prog 27 #[va] w (ansI w (rootR xs)) := by
  have kt := gFrom va xs w h hl
  have l1 := fromN_len xs
  have hl1 : (limbs (fromN xs)).length ≤ 98 := by omega
  by_cases hok : okB xs = true
  · have hN48 : (limbs (isqrt (fromN xs))).length ≤ 48 := Nat.le_trans (limbs_mono (isqrt_le (fromN xs))) l1
    have HR : Hid (rootR xs = fitR (isqrt (fromN xs))) := by
      show _ = _
      rw [rootR, if_pos hok]
      unfold fitR
      rw [if_pos hN48, fromN_whole hok]
    rw [hok] at kt
    clear hok
    generalize fromN xs = m at *
    have kR := fun b W h => gRoot b 0 m W (by omega) h
    obtain ⟨N, hN⟩ : ∃ N, isqrt m = N := ⟨_, rfl⟩
    simp only [hN] at kR
    rw [hN] at HR hN48
    clear hN
    go_enter Try.func27, Try.ntmps27
    go_wp2_with fail
    refine kt.mono ?_
    rintro e w1 ⟨rfl, b1⟩
    have X0 := GB.made0 w1
    have B0 := b1.alloc b1.size (.cells Try.zeroCells45 45)
    have hbs := b1.size
    clear kt b1
    go_wp2_with (first | (refine wpN_store rfl (.tmp 4) (.tmp 9) rfl w1.heap.size _ _ m rfl rfl X0 hl1 ?_; intro w2 X2 t2 s2; have B2 := t2.below B0 B0.size (by simp; omega); have A2 := GN.ga X2 hl1) | (go_at_call 51; refine (kR w1.heap.size w2 A2).mono ?_; rintro e w4 ⟨rfl, b4⟩) | (go_at_call 32; refine (gList N w4 (by omega)).mono ?_; rintro e w5 ⟨v5, rfl, o5, b5⟩))
    go_ret2
    have B4 := B2.trans (b4.mono B2.size)
    exact ⟨_, by rw [HR.out]; rfl, by rw [HR.out]; exact ownsI_mono o5 B4.size, B4.trans (b5.mono B4.size)⟩
  · have HR : Hid (rootR xs = ([], false)) := by show _ = _; rw [rootR, if_neg hok]
    have hf : okB xs = false := by simpa using hok
    rw [hf] at kt
    clear hok hf
    generalize fromN xs = m at *
    go_enter Try.func27, Try.ntmps27
    go_wp2_with fail
    refine kt.mono ?_
    rintro e w1 ⟨rfl, b1⟩
    have X0 := GB.made0 w1
    have B0 := b1.alloc b1.size (.cells Try.zeroCells45 45)
    have hbs := b1.size
    clear kt b1
    go_wp2_with (first | (refine wpN_store rfl (.tmp 4) (.tmp 9) rfl w1.heap.size _ _ m rfl rfl X0 hl1 ?_; intro w2 X2 t2 s2; have B2 := t2.below B0 B0.size (by simp; omega); have A2 := GN.ga X2 hl1))
    go_ret2
    exact ⟨_, by rw [HR.out]; rfl, by rw [HR.out]; exact nil_own _ _, B2⟩

end Go.Proofs.Ytppeabnipnokhaa
