/- The specification's NatDiv, by its contract. -/
import Derived.Test.YtppeabnipnokhaaSDiv
namespace Go.Proofs.Ytppeabnipnokhaa
open Go.RowKit

/-- Two lists and a flag are answered, each list in memory of its own. -/
def ansII (w : World) (r : List Int × List Int × Bool) (e : Ending) (w' : World) : Prop := ∃ v0 v1, e = .returned (.tuple #[v0, v1, .bool r.2.2]) ∧ ownsI w' w.heap.size v0 r.1 ∧ ownsI w' w.heap.size v1 r.2.1 ∧ (v0.ownBlock = none ∨ v0.ownBlock ≠ v1.ownBlock) ∧ Below w.heap.size w w'

theorem made_two (w : World) : ∃ v0 v1, v0 = Value.slice (some ⟨w.heap.size, 0, none⟩) 0 0 ∧ v1 = Value.slice (some ⟨w.heap.size + 1, 0, none⟩) 0 0 ∧ ownsI ((w.alloc (.cells #[] 3)).alloc (.cells #[] 3)) w.heap.size v0 [] ∧ ownsI ((w.alloc (.cells #[] 3)).alloc (.cells #[] 3)) w.heap.size v1 [] ∧ (v0.ownBlock = none ∨ v0.ownBlock ≠ v1.ownBlock) ∧ Below w.heap.size w ((w.alloc (.cells #[] 3)).alloc (.cells #[] 3)) := by
  have h0 := made_own w
  have h1 := made_own (w.alloc (.cells #[] 3))
  have e : (w.alloc (.cells #[] 3)).heap.size = w.heap.size + 1 := by simp
  rw [e] at h1
  have b1 : Below w.heap.size w (w.alloc (.cells #[] 3)) := (Below.refl _ _).alloc (Nat.le_refl _) _
  refine ⟨_, _, rfl, rfl, World.ownsRow.alloc h0 _, ownsI_mono h1 (by omega), .inr (by simp [Value.ownBlock]), b1.alloc b1.size _⟩

end Go.Proofs.Ytppeabnipnokhaa
