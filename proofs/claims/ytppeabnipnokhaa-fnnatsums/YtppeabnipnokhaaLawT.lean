/- tail of a code, by its contract. -/
import Derived.Test.YtppeabnipnokhaaLawH
namespace Go.Proofs.Ytppeabnipnokhaa
open Go.RowKit

set_option maxHeartbeats 1600000 in
theorem tail_is (a : Option Addr) (len cap : Nat) (zs : List Int) (w : World) (hlen : len ≤ 1048576) (h : CodeIs w a len cap zs) :
    ∃ (a' : Option Addr) (len' cap' : Nat) (zs' : List Int), Calls Try.prog 9 #[.slice a len cap] w (fun e w' => e = .returned (.slice a' len' cap') ∧ w' = w) ∧ len' ≤ 1048576 ∧ CodeIs w a' len' cap' zs' := by
  by_cases h0 : len = 0
  · subst h0
    refine ⟨a, 0, cap, zs, ?_, by omega, h⟩
    clear h
    go_enter Try.func9, Try.ntmps9
    go_wp2
    go_ret
    exact ⟨rfl, rfl⟩
  · obtain ⟨x, rfl, hc⟩ : ∃ x, a = some x ∧ len ≤ cap ∧ cap ≤ maxLen := by
      rcases h.1 with ⟨_, h1, _⟩ | ⟨x, h1, h2, h3, -⟩
      · exact absurd h1 h0
      · exact ⟨x, h1, h2, h3⟩
    have hpos : 0 < len := by omega
    obtain ⟨hc1, hc2⟩ := hc
    have e0 : ((len : Int) == 0) = false := by rw [beq_eq_false_iff_ne]; omega
    have e1 : (1 : Int) ≤ (len : Int) := by omega
    have e2 : (len : Int) ≤ (cap : Int) := by omega
    by_cases hcap : cap = 1
    · subst hcap
      obtain rfl : len = 1 := by omega
      refine ⟨some x, 0, 0, [], ?_, by omega, ⟨.inr ⟨x, rfl, by omega, by omega, rfl, fun i hi => absurd hi (by simp), fun n hn => by cases hn⟩, fun y hy hl => absurd hl (by simp)⟩⟩
      clear h h0 hc2
      go_enter Try.func9, Try.ntmps9
      go_wp2
      go_ret
      exact ⟨rfl, rfl⟩
    · have h2 : x.spot = none := by
        rcases h.1 with ⟨h1, _⟩ | ⟨y, h1, h2, h3, h4, h5, -⟩
        · cases h1
        · cases h1
          simpa [Addr.add] using World.cell?_spot (h5 0 (by omega))
      refine ⟨some (x.add 1), len - 1, cap - 1, zs.drop 1, ?_, by omega, h.tail (by omega)⟩
      obtain ⟨b, o, s⟩ := x
      simp only at h2
      subst h2
      have e3 : ¬ (cap = 1) := hcap
      clear h h0
      go_enter Try.func9, Try.ntmps9
      go_wp2
      go_ret
      exact ⟨rfl, rfl⟩

end Go.Proofs.Ytppeabnipnokhaa
