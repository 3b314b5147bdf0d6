/- The box of a variable of one cell; a store into a box of two (no walk). -/
import Derived.Test.YtmbopjjpepbgkaaVB
namespace Go.Proofs.Ytmbopjjpepbgkaa
open Go.RowKit

/-- The box of a variable of 1 cells. -/
structure Bx1 (w : World) (base b : Nat) (x0 : Value) : Prop where
  lo : base ≤ b
  hi : b < w.heap.size
  c0 : w.cell? ⟨b, 0, none⟩ = some x0
  f0 : w.frozen? ⟨b, 0, none⟩ = false
theorem Bx1.made (w : World) (x0 : Value) (t : TypeId) : Bx1 (w.alloc (.cells #[x0] t)) w.heap.size w.heap.size x0 :=
  ⟨Nat.le_refl _, by simp, by simp, by simp⟩
theorem Bx1.below {w w' : World} {base b B : Nat} {x0 : Value} (h : Bx1 w base b x0) (hb : Below B w w') (hB : w.heap.size ≤ B) : Bx1 w' base b x0 :=
  have hlt : b < B := Nat.lt_of_lt_of_le h.hi hB
  ⟨h.lo, Nat.lt_of_lt_of_le h.hi hb.size, (hb.cell (p := ⟨b, 0, none⟩) hlt).trans h.c0, (hb.frozen (p := ⟨b, 0, none⟩) hlt).trans h.f0⟩
theorem Bx1.mono {w : World} {base base' b : Nat} {x0 : Value} (h : Bx1 w base b x0) (hb : base' ≤ base) : Bx1 w base' b x0 :=
  ⟨Nat.le_trans hb h.lo, h.hi, h.c0, h.f0⟩
theorem Bx1.ltb {w : World} {base b : Nat} {x0 : Value} (h : Bx1 w base b x0) : ∀ k ∈ [b], base ≤ k ∧ k < w.heap.size := fun k hk => by
  simp at hk
  subst hk
  exact ⟨h.lo, h.hi⟩
theorem Bx1.tn {w w' : World} {base b : Nat} {x0 : Value} {S : List Nat} (h : Bx1 w base b x0) (ht : Tn S w w') (ha : Apart [b] S) : Bx1 w' base b x0 := by
  have hk := ht.block b h.hi (ha b (by simp))
  have hc := fun i => World.cell?_of_block (w := w) (w' := w') (a := ⟨b, i, none⟩) hk
  have hf := fun i => World.frozen?_of_block (w := w) (w' := w') (a := ⟨b, i, none⟩) hk
  exact ⟨h.lo, Nat.lt_of_lt_of_le h.hi ht.size, (hc 0).trans h.c0, (hf 0).trans h.f0⟩
theorem Bx1.set0 {w : World} {base b : Nat} {x0 : Value} (h : Bx1 w base b x0) (x : Value) : Bx1 (w.setCell ⟨b, 0, none⟩ x) base b x :=
  have c0 := h.c0; have f0 := h.f0
  ⟨h.lo, by have := h.hi; simpa [World.setCell] using this, World.cell?_setCell_same _ _ _ c0, by simp [*]⟩
theorem Bx1.other {w : World} {base b : Nat} {x0 : Value} (h : Bx1 w base b x0) (b' i : Nat) (hb : b ≠ b') (x : Value) : Bx1 (w.setCell ⟨b', i, none⟩ x) base b x0 :=
  h.tn (tnC w b' i x) (fun k hk hs => by simp at hk hs; omega)
theorem BoxW.set0 {w : World} {base b : Nat} {x0 x1 : Value} (h : BoxW w base b x0 x1) (x : Value) : BoxW (w.setCell ⟨b, 0, none⟩ x) base b x x1 :=
  have c0 := h.c0; have c1 := h.c1; have f0 := h.f0; have f1 := h.f1
  ⟨h.lo, by have := h.hi; simpa [World.setCell] using this, World.cell?_setCell_same _ _ _ c0, (World.cell?_setCell_other _ _ _ _ (by simp)).trans c1, by simp [*], by simp [*]⟩
theorem BoxW.set1 {w : World} {base b : Nat} {x0 x1 : Value} (h : BoxW w base b x0 x1) (x : Value) : BoxW (w.setCell ⟨b, 1, none⟩ x) base b x0 x :=
  have c0 := h.c0; have c1 := h.c1; have f0 := h.f0; have f1 := h.f1
  ⟨h.lo, by have := h.hi; simpa [World.setCell] using this, (World.cell?_setCell_other _ _ _ _ (by simp)).trans c0, World.cell?_setCell_same _ _ _ c1, by simp [*], by simp [*]⟩
theorem BoxW.other {w : World} {base b : Nat} {x0 x1 : Value} (h : BoxW w base b x0 x1) (b' i : Nat) (hb : b ≠ b') (x : Value) : BoxW (w.setCell ⟨b', i, none⟩ x) base b x0 x1 :=
  h.tn (tnC w b' i x) (fun k hk hs => by simp at hk hs; omega)

end Go.Proofs.Ytmbopjjpepbgkaa
