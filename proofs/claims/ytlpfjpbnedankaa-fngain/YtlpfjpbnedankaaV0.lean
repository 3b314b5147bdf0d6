/- What is held between two numbers, as the law has it: two numbers with a sign in one struct (no walk). -/
import Derived.Test.YtlpfjpbnedankaaBase
namespace Go.Proofs.Ytlpfjpbnedankaa
open Go.RowKit

abbrev Vh := Wh × Wh
/-- 'v' is a struct of two numbers that can be read. -/
def rowV (w : World) (v : Value) (a : Vh) : Prop := ∃ s t, v = .agg #[.bool a.1.1, s, .bool a.2.1, t] ∧ rowI w s a.1.2 ∧ rowI w t a.2.2
/-- 'v' is a struct of two numbers, each in memory of its own from block 'base' on. -/
def ownsV (w : World) (base : Nat) (v : Value) (a : Vh) : Prop := ∃ s t, v = .agg #[.bool a.1.1, s, .bool a.2.1, t] ∧ ownsI w base s a.1.2 ∧ ownsI w base t a.2.2 ∧ Apart (blkI s) (blkI t)
/-- The blocks in which the limbs lie. -/
def blkV : Value → List Nat
  | .agg #[_, s, _, t] => blkI s ++ blkI t
  | _ => []
theorem ownsV.row {w : World} {base : Nat} {v : Value} {a : Vh} (h : ownsV w base v a) : rowV w v a := by
  obtain ⟨s, t, rfl, h1, h2, -⟩ := h
  exact ⟨s, t, rfl, h1.row, h2.row⟩
theorem rowV.below {w w' : World} {v : Value} {a : Vh} {B : Nat} (h : rowV w v a) (hb : Below B w w') (hB : w.heap.size ≤ B) : rowV w' v a := by
  obtain ⟨s, t, rfl, h1, h2⟩ := h
  exact ⟨s, t, rfl, h1.below hb hB, h2.below hb hB⟩
theorem ownsV.below {w w' : World} {base B : Nat} {v : Value} {a : Vh} (h : ownsV w base v a) (hb : Below B w w') (hB : w.heap.size ≤ B) : ownsV w' base v a := by
  obtain ⟨s, t, rfl, h1, h2, h3⟩ := h
  exact ⟨s, t, rfl, ownsI.below h1 hb hB, ownsI.below h2 hb hB, h3⟩
theorem ownsV_mono {w : World} {base base' : Nat} {v : Value} {a : Vh} (h : ownsV w base v a) (hb : base' ≤ base) : ownsV w base' v a := by
  obtain ⟨s, t, rfl, h1, h2, h3⟩ := h
  exact ⟨s, t, rfl, ownsI_mono h1 hb, ownsI_mono h2 hb, h3⟩
theorem ownsV.ltb {w : World} {base : Nat} {v : Value} {a : Vh} (h : ownsV w base v a) : ∀ k ∈ blkV v, base ≤ k ∧ k < w.heap.size := by
  obtain ⟨s, t, rfl, h1, h2, -⟩ := h
  intro k hk
  rcases List.mem_append.1 hk with hk | hk
  · exact h1.ltb k hk
  · exact h2.ltb k hk
theorem ownsV.tn {w w' : World} {base : Nat} {v : Value} {a : Vh} {S : List Nat} (h : ownsV w base v a) (ht : Tn S w w') (ha : Apart (blkV v) S) : ownsV w' base v a := by
  obtain ⟨s, t, rfl, h1, h2, h3⟩ := h
  exact ⟨s, t, rfl, h1.tn ht ha.left, h2.tn ht ha.right, h3⟩
theorem nilV (w : World) (base : Nat) : ownsV w base (.agg #[.bool false, .slice none 0 0, .bool false, .slice none 0 0]) ((false, []), (false, [])) :=
  ⟨_, _, rfl, ⟨rfl, .inl ⟨rfl, rfl⟩⟩, ⟨rfl, .inl ⟨rfl, rfl⟩⟩, fun k hk => by simp [blkI, Value.ownBlock] at hk⟩

/-- The box of a variable of four cells. -/
structure BoxV (w : World) (base b : Nat) (x0 x1 x2 x3 : Value) : Prop where
  lo : base ≤ b
  hi : b < w.heap.size
  c0 : w.cell? ⟨b, 0, none⟩ = some x0
  c1 : w.cell? ⟨b, 1, none⟩ = some x1
  c2 : w.cell? ⟨b, 2, none⟩ = some x2
  c3 : w.cell? ⟨b, 3, none⟩ = some x3
  f0 : w.frozen? ⟨b, 0, none⟩ = false
  f1 : w.frozen? ⟨b, 1, none⟩ = false
  f2 : w.frozen? ⟨b, 2, none⟩ = false
  f3 : w.frozen? ⟨b, 3, none⟩ = false
theorem BoxV.made (w : World) (x0 x1 x2 x3 : Value) (t : TypeId) : BoxV (w.alloc (.cells #[x0, x1, x2, x3] t)) w.heap.size w.heap.size x0 x1 x2 x3 :=
  ⟨Nat.le_refl _, by simp, by simp, by simp, by simp, by simp, by simp, by simp, by simp, by simp⟩
theorem BoxV.below {w w' : World} {base b B : Nat} {x0 x1 x2 x3 : Value} (h : BoxV w base b x0 x1 x2 x3) (hb : Below B w w') (hB : w.heap.size ≤ B) : BoxV w' base b x0 x1 x2 x3 :=
  have hlt : b < B := Nat.lt_of_lt_of_le h.hi hB
  ⟨h.lo, Nat.lt_of_lt_of_le h.hi hb.size, (hb.cell (p := ⟨b, 0, none⟩) hlt).trans h.c0, (hb.cell (p := ⟨b, 1, none⟩) hlt).trans h.c1, (hb.cell (p := ⟨b, 2, none⟩) hlt).trans h.c2, (hb.cell (p := ⟨b, 3, none⟩) hlt).trans h.c3,
    (hb.frozen (p := ⟨b, 0, none⟩) hlt).trans h.f0, (hb.frozen (p := ⟨b, 1, none⟩) hlt).trans h.f1, (hb.frozen (p := ⟨b, 2, none⟩) hlt).trans h.f2, (hb.frozen (p := ⟨b, 3, none⟩) hlt).trans h.f3⟩
theorem BoxV.mono {w : World} {base base' b : Nat} {x0 x1 x2 x3 : Value} (h : BoxV w base b x0 x1 x2 x3) (hb : base' ≤ base) : BoxV w base' b x0 x1 x2 x3 :=
  ⟨Nat.le_trans hb h.lo, h.hi, h.c0, h.c1, h.c2, h.c3, h.f0, h.f1, h.f2, h.f3⟩
theorem BoxV.ltb {w : World} {base b : Nat} {x0 x1 x2 x3 : Value} (h : BoxV w base b x0 x1 x2 x3) : ∀ k ∈ [b], base ≤ k ∧ k < w.heap.size := fun k hk => by
  simp at hk
  subst hk
  exact ⟨h.lo, h.hi⟩
theorem BoxV.tn {w w' : World} {base b : Nat} {x0 x1 x2 x3 : Value} {S : List Nat} (h : BoxV w base b x0 x1 x2 x3) (ht : Tn S w w') (ha : Apart [b] S) : BoxV w' base b x0 x1 x2 x3 := by
  have hk := ht.block b h.hi (ha b (by simp))
  have hc := fun i => World.cell?_of_block (w := w) (w' := w') (a := ⟨b, i, none⟩) hk
  have hf := fun i => World.frozen?_of_block (w := w) (w' := w') (a := ⟨b, i, none⟩) hk
  exact ⟨h.lo, Nat.lt_of_lt_of_le h.hi ht.size, (hc 0).trans h.c0, (hc 1).trans h.c1, (hc 2).trans h.c2, (hc 3).trans h.c3, (hf 0).trans h.f0, (hf 1).trans h.f1, (hf 2).trans h.f2, (hf 3).trans h.f3⟩
theorem tnC (w : World) (b i : Nat) (x : Value) : Tn [b] w (w.setCell ⟨b, i, none⟩ x) :=
  ⟨rfl, rfl, rfl, by simp [World.setCell], fun k _ hn => Below.heap_setCell _ _ _ _ (fun e => hn (by simp [e]))⟩
theorem BoxV.set0 {w : World} {base b : Nat} {x0 x1 x2 x3 : Value} (h : BoxV w base b x0 x1 x2 x3) (x : Value) : BoxV (w.setCell ⟨b, 0, none⟩ x) base b x x1 x2 x3 :=
  have c0 := h.c0; have c1 := h.c1; have c2 := h.c2; have c3 := h.c3; have f0 := h.f0; have f1 := h.f1; have f2 := h.f2; have f3 := h.f3
  ⟨h.lo, by have := h.hi; simpa [World.setCell] using this, World.cell?_setCell_same _ _ _ c0, (World.cell?_setCell_other _ _ _ _ (by simp)).trans c1, (World.cell?_setCell_other _ _ _ _ (by simp)).trans c2, (World.cell?_setCell_other _ _ _ _ (by simp)).trans c3, by simp [*], by simp [*], by simp [*], by simp [*]⟩
theorem BoxV.set1 {w : World} {base b : Nat} {x0 x1 x2 x3 : Value} (h : BoxV w base b x0 x1 x2 x3) (x : Value) : BoxV (w.setCell ⟨b, 1, none⟩ x) base b x0 x x2 x3 :=
  have c0 := h.c0; have c1 := h.c1; have c2 := h.c2; have c3 := h.c3; have f0 := h.f0; have f1 := h.f1; have f2 := h.f2; have f3 := h.f3
  ⟨h.lo, by have := h.hi; simpa [World.setCell] using this, (World.cell?_setCell_other _ _ _ _ (by simp)).trans c0, World.cell?_setCell_same _ _ _ c1, (World.cell?_setCell_other _ _ _ _ (by simp)).trans c2, (World.cell?_setCell_other _ _ _ _ (by simp)).trans c3, by simp [*], by simp [*], by simp [*], by simp [*]⟩
theorem BoxV.set2 {w : World} {base b : Nat} {x0 x1 x2 x3 : Value} (h : BoxV w base b x0 x1 x2 x3) (x : Value) : BoxV (w.setCell ⟨b, 2, none⟩ x) base b x0 x1 x x3 :=
  have c0 := h.c0; have c1 := h.c1; have c2 := h.c2; have c3 := h.c3; have f0 := h.f0; have f1 := h.f1; have f2 := h.f2; have f3 := h.f3
  ⟨h.lo, by have := h.hi; simpa [World.setCell] using this, (World.cell?_setCell_other _ _ _ _ (by simp)).trans c0, (World.cell?_setCell_other _ _ _ _ (by simp)).trans c1, World.cell?_setCell_same _ _ _ c2, (World.cell?_setCell_other _ _ _ _ (by simp)).trans c3, by simp [*], by simp [*], by simp [*], by simp [*]⟩
theorem BoxV.set3 {w : World} {base b : Nat} {x0 x1 x2 x3 : Value} (h : BoxV w base b x0 x1 x2 x3) (x : Value) : BoxV (w.setCell ⟨b, 3, none⟩ x) base b x0 x1 x2 x :=
  have c0 := h.c0; have c1 := h.c1; have c2 := h.c2; have c3 := h.c3; have f0 := h.f0; have f1 := h.f1; have f2 := h.f2; have f3 := h.f3
  ⟨h.lo, by have := h.hi; simpa [World.setCell] using this, (World.cell?_setCell_other _ _ _ _ (by simp)).trans c0, (World.cell?_setCell_other _ _ _ _ (by simp)).trans c1, (World.cell?_setCell_other _ _ _ _ (by simp)).trans c2, World.cell?_setCell_same _ _ _ c3, by simp [*], by simp [*], by simp [*], by simp [*]⟩
/-- A variable of another block is left as it was. -/
theorem BoxV.other {w : World} {base b : Nat} {x0 x1 x2 x3 : Value} (h : BoxV w base b x0 x1 x2 x3) (b' i : Nat) (hb : b ≠ b') (x : Value) : BoxV (w.setCell ⟨b', i, none⟩ x) base b x0 x1 x2 x3 :=
  h.tn (tnC w b' i x) (fun k hk hs => by simp at hk hs; omega)
theorem ownsI.other {w : World} {base : Nat} {v : Value} {xs : List Int} (h : ownsI w base v xs) (b i : Nat) (hb : b < base) (x : Value) : ownsI (w.setCell ⟨b, i, none⟩ x) base v xs :=
  h.tn (tnC w b i x) (fun k hk hs => by have := (h.ltb k hk).1; simp at hs; omega)

end Go.Proofs.Ytlpfjpbnedankaa
