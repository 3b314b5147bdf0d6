/- The program's NatInt and NatBits, each by its contract. -/
import Derived.Test.YtlnpfjnpnjiepaaGSmall
import Derived.Test.YtlnpfjnpnjiepaaSNatInt
namespace Go.Proofs.Ytlnpfjnpnjiepaa
open Go.RowKit

theorem fromN_yes {xs : List Int} (h : okB xs = true) : fromN xs = num xs := by unfold fromN; rw [if_pos h]

set_option maxHeartbeats 1600000 in
theorem iNatBits (v : Value) (xs : List Int) (w : World) (h : rowI w v xs) (hl : xs.length ≤ 1048576) :
    Calls Try.prog 22 #[v] w fun e w' => e = .returned (.int .i64 (bitsR xs)) ∧ Below w.heap.size w w' := by
  have kt := gFrom v xs w h hl
  have l1 := fromN_len xs
  have hl1 : (limbs (fromN xs)).length ≤ 98 := by omega
  by_cases hok : okB xs = true
  · have HR : Hid (bitsR xs = (nbits (fromN xs) : Int)) := by show _ = _; unfold bitsR; rw [if_pos hok, fromN_yes hok]
    rw [hok] at kt
    clear hok
    generalize fromN xs = m at *
    go_enter Try.func22, Try.ntmps22
    go_wp2_with fail
    refine kt.mono ?_
    rintro e w1 ⟨rfl, b1⟩
    have X0 := GB.made0 w1
    have B0 := b1.alloc b1.size (.cells Try.zeroCells72 72)
    have hbs := b1.size
    clear kt b1
    go_wp2_with (first | (refine wpN_store rfl (.tmp 3) (.tmp 8) rfl w1.heap.size _ _ m rfl rfl X0 hl1 ?_; intro w2 X2 t2 s2; have B2 := t2.below B0 B0.size (by simp; omega); have A2 := GN.ga X2 hl1) | (go_at_call 56; refine (gBits w1.heap.size 0 m w2 A2).mono ?_; rintro e w3 ⟨rfl, b3⟩))
    go_ret
    exact ⟨by rw [HR.out]; rfl, B2.trans (b3.mono B2.size)⟩
  · have HR : Hid (bitsR xs = -1) := by show _ = _; unfold bitsR; rw [if_neg hok]
    have hf : okB xs = false := by simpa using hok
    rw [hf] at kt
    clear hok hf
    generalize fromN xs = m at *
    go_enter Try.func22, Try.ntmps22
    go_wp2_with fail
    refine kt.mono ?_
    rintro e w1 ⟨rfl, b1⟩
    have X0 := GB.made0 w1
    have B0 := b1.alloc b1.size (.cells Try.zeroCells72 72)
    have hbs := b1.size
    clear kt b1
    go_wp2_with (first | (refine wpN_store rfl (.tmp 3) (.tmp 8) rfl w1.heap.size _ _ m rfl rfl X0 hl1 ?_; intro w2 X2 t2 s2; have B2 := t2.below B0 B0.size (by simp; omega); have A2 := GN.ga X2 hl1))
    go_ret
    exact ⟨by rw [HR.out]; rfl, B2⟩

end Go.Proofs.Ytlnpfjnpnjiepaa
