/- WordOf, of the specification and of the program, by one contract. -/
import Derived.Test.YtmafljcolniddaaRawOk
namespace Go.Proofs.Ytmafljcolniddaa
open Go.RowKit
set_option linter.unusedSimpArgs false

def wordR (g : Bool) (m n v : Int) : Int := if rawR g m n v = true then (if v < 0 then v + (2 : Int) ^ m.toNat else v) else -1
theorem raw_facts {g : Bool} {m n v : Int} (h : rawR g m n v = true) : (2 ≤ m ∧ m ≤ 60) ∧ -1152921504606846976 ≤ v ∧ v ≤ 1152921504606846976 := by
  unfold rawR at h
  simp only [Bool.and_eq_true, decide_eq_true_eq] at h
  obtain ⟨⟨h1, h2⟩, h3⟩ := h
  have hm := of_decide_eq_true h1
  have p1 := two_pow_le (show m.toNat ≤ 60 by omega)
  have p2 := two_pow_le (show (m - 1).toNat ≤ 60 by omega)
  have p3 := two_pow_pos m.toNat
  have p4 := two_pow_pos (m - 1).toNat
  refine ⟨⟨hm.1, hm.2.1⟩, ?_, ?_⟩
  · unfold leastR at h2
    split at h2 <;> omega
  · unfold mostR at h3
    rw [if_pos h1] at h3
    split at h3 <;> omega

end Go.Proofs.Ytmafljcolniddaa
