/- Draws beside boxes of whichever number of cells (no walk). -/
import Derived.Test.YtlpfjpbnedankaaFB
import Derived.Test.YtlpfjpbnedankaaDB
namespace Go.Proofs.Ytlpfjpbnedankaa
open Go.RowKit
set_option linter.unusedSimpArgs false

theorem grown_tn {a w w' : World} {row : Option Nat} {S : List Nat} (h : a.grownBy w row) (ht : Tn S w w') (hS : ∀ k ∈ S, a.heap.size ≤ k) : a.grownBy w' row :=
  ⟨ht.os.trans h.os, ht.tape.trans h.tape, ht.output.trans h.output, Nat.le_trans h.size ht.size, fun i hi hr => (ht.block i (Nat.lt_of_lt_of_le hi h.size) (fun hm => by have := hS i hm; omega)).trans (h.block i hi hr)⟩
theorem grown_one {w w' : World} {b : Nat} (ht : Tn [b] w w') : w.grownBy w' (some b) :=
  ⟨ht.os, ht.tape, ht.output, ht.size, fun i hi hr => ht.block i hi (fun hm => by simp at hm; subst hm; exact hr rfl)⟩
theorem CurAt.tn {w w' : World} {B b : Nat} (h : CurAt w B) (ht : Tn [b] w w') (hb : B < b) : CurAt w' B := h.kept (grown_one ht) (fun k e => by cases e; exact hb)

end Go.Proofs.Ytlpfjpbnedankaa
