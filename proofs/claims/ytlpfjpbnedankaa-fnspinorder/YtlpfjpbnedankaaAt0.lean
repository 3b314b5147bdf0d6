/- The laws' at0, at whichever place, and big, with what they leave (no draws). -/
import Derived.Test.YtlpfjpbnedankaaLawH
import Derived.OpenShut
namespace Go.Proofs.Ytlpfjpbnedankaa
open Go.RowKit
set_option linter.unusedSimpArgs false

theorem big_b (a : Option Addr) (len cap : Nat) (w : World) (h : len ≤ 1048576) : Calls Try.prog 6 #[.slice a len cap] w fun e w' => e = .returned (.bool false) ∧ Below w.heap.size w w' :=
  (big_no a len cap w h).mono fun _ _ ⟨h1, h2⟩ => ⟨h1, h2 ▸ Below.refl _ _⟩
set_option maxHeartbeats 1600000 in
theorem at0_b (a : Option Addr) (len cap : Nat) (zs : List Int) (i : Nat) (w : World) (hlen : len ≤ 1048576) (hi : i ≤ 1000) (h : CodeIs w a len cap zs) :
    Calls Try.prog 7 #[.slice a len cap, .int .i64 (i : Int)] w fun e w' => ∃ x, e = .returned (.int .i64 x) ∧ 0 ≤ x ∧ x ≤ 255 ∧ Below w.heap.size w w' := by
  obtain ⟨hrow, -⟩ := h
  by_cases hil : i < len
  · rcases hrow with ⟨_, h0, _, _⟩ | ⟨⟨b, off, spot⟩, rfl, g2, g3, g4, g5, g6⟩
    · omega
    · have hc := g5 i (by omega)
      have hspot : spot = none := by simpa [Addr.add] using World.cell?_spot (g5 0 (by omega))
      subst hspot
      obtain ⟨z, hz⟩ : ∃ z, zs.getD i 0 = z := ⟨_, rfl⟩
      have hzm : z ∈ zs := by rw [← hz, List.getD_eq_getElem?_getD, List.getElem?_eq_getElem (by omega : i < zs.length)]; exact List.getElem_mem _
      have hzb := Go.bounds_u8 (g6 z hzm)
      have hz0 : 0 ≤ z := hzb.1
      have hz1 : z ≤ 255 := hzb.2
      rw [hz] at hc
      have hca : w.cell? ⟨b, off + i, none⟩ = some (.int .u8 z) := by
        unfold Addr.add at hc
        by_cases e0 : i = 0
        · subst e0; simpa using hc
        · simpa [e0] using hc
      have hil' : (i : Int) < (len : Int) := by omega
      have hi0 : ¬ (i : Int) < 0 := by omega
      have hB := Below.refl w.heap.size w
      clear hc hz g5 g6 hzb hzm
      go_enter Try.func7, Try.ntmps7
      go_wp2
      go_ret
      exact ⟨_, rfl, hz0, hz1, hB⟩
  · have hil' : ¬ (i : Int) < (len : Int) := by omega
    have hB := Below.refl w.heap.size w
    go_enter Try.func7, Try.ntmps7
    go_wp2
    go_ret
    exact ⟨_, rfl, by omega, by omega, hB⟩

end Go.Proofs.Ytlpfjpbnedankaa
