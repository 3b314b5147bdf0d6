/- Several small texts in one: P0, ToP, ToP2. -/
import Derived.Test.YtlpfjpbnedankaaBase
/- A Spin, as the law has it: two numbers with a sign and an int in one struct (no walk). -/
namespace Go.Proofs.Ytlpfjpbnedankaa
open Go.RowKit
set_option linter.unusedSimpArgs false

abbrev Ph := (Wh × Wh) × Int
def rowP (w : World) (v : Value) (a : Ph) : Prop := ∃ s t, v = .agg #[.bool a.1.1.1, s, .bool a.1.2.1, t, .int .i64 a.2] ∧ rowI w s a.1.1.2 ∧ rowI w t a.1.2.2
def ownsP (w : World) (base : Nat) (v : Value) (a : Ph) : Prop := ∃ s t, v = .agg #[.bool a.1.1.1, s, .bool a.1.2.1, t, .int .i64 a.2] ∧ ownsI w base s a.1.1.2 ∧ ownsI w base t a.1.2.2 ∧ Apart (blkI s) (blkI t)
def blkP : Value → List Nat
  | .agg #[_, s, _, t, _] => blkI s ++ blkI t
  | _ => []
theorem ownsP.row {w : World} {base : Nat} {v : Value} {a : Ph} (h : ownsP w base v a) : rowP w v a := by
  obtain ⟨s, t, rfl, h1, h2, -⟩ := h
  exact ⟨s, t, rfl, h1.row, h2.row⟩
theorem rowP.below {w w' : World} {v : Value} {a : Ph} {B : Nat} (h : rowP w v a) (hb : Below B w w') (hB : w.heap.size ≤ B) : rowP w' v a := by
  obtain ⟨s, t, rfl, h1, h2⟩ := h
  exact ⟨s, t, rfl, h1.below hb hB, h2.below hb hB⟩
theorem ownsP.below {w w' : World} {base B : Nat} {v : Value} {a : Ph} (h : ownsP w base v a) (hb : Below B w w') (hB : w.heap.size ≤ B) : ownsP w' base v a := by
  obtain ⟨s, t, rfl, h1, h2, h3⟩ := h
  exact ⟨s, t, rfl, ownsI.below h1 hb hB, ownsI.below h2 hb hB, h3⟩
theorem ownsP.ltb {w : World} {base : Nat} {v : Value} {a : Ph} (h : ownsP w base v a) : ∀ k ∈ blkP v, base ≤ k ∧ k < w.heap.size := by
  obtain ⟨s, t, rfl, h1, h2, -⟩ := h
  intro k hk
  rcases List.mem_append.1 hk with hk | hk
  · exact h1.ltb k hk
  · exact h2.ltb k hk
theorem ownsP.tn {w w' : World} {base : Nat} {v : Value} {a : Ph} {S : List Nat} (h : ownsP w base v a) (ht : Tn S w w') (ha : Apart (blkP v) S) : ownsP w' base v a := by
  obtain ⟨s, t, rfl, h1, h2, h3⟩ := h
  exact ⟨s, t, rfl, h1.tn ht ha.left, h2.tn ht ha.right, h3⟩
theorem tnC (w : World) (b i : Nat) (x : Value) : Tn [b] w (w.setCell ⟨b, i, none⟩ x) :=
  ⟨rfl, rfl, rfl, by simp [World.setCell], fun k _ hn => Below.heap_setCell _ _ _ _ (fun e => hn (by simp [e]))⟩
/-- The box of a variable of 3 cells. -/
structure Bx3 (w : World) (base b : Nat) (x0 x1 x2 : Value) : Prop where
  lo : base ≤ b
  hi : b < w.heap.size
  c0 : w.cell? ⟨b, 0, none⟩ = some x0
  c1 : w.cell? ⟨b, 1, none⟩ = some x1
  c2 : w.cell? ⟨b, 2, none⟩ = some x2
  f0 : w.frozen? ⟨b, 0, none⟩ = false
  f1 : w.frozen? ⟨b, 1, none⟩ = false
  f2 : w.frozen? ⟨b, 2, none⟩ = false
theorem Bx3.made (w : World) (x0 x1 x2 : Value) (t : TypeId) : Bx3 (w.alloc (.cells #[x0, x1, x2] t)) w.heap.size w.heap.size x0 x1 x2 :=
  ⟨Nat.le_refl _, by simp, by simp, by simp, by simp, by simp, by simp, by simp⟩
theorem Bx3.below {w w' : World} {base b B : Nat} {x0 x1 x2 : Value} (h : Bx3 w base b x0 x1 x2) (hb : Below B w w') (hB : w.heap.size ≤ B) : Bx3 w' base b x0 x1 x2 :=
  have hlt : b < B := Nat.lt_of_lt_of_le h.hi hB
  ⟨h.lo, Nat.lt_of_lt_of_le h.hi hb.size, (hb.cell (p := ⟨b, 0, none⟩) hlt).trans h.c0, (hb.cell (p := ⟨b, 1, none⟩) hlt).trans h.c1, (hb.cell (p := ⟨b, 2, none⟩) hlt).trans h.c2, (hb.frozen (p := ⟨b, 0, none⟩) hlt).trans h.f0, (hb.frozen (p := ⟨b, 1, none⟩) hlt).trans h.f1, (hb.frozen (p := ⟨b, 2, none⟩) hlt).trans h.f2⟩
theorem Bx3.mono {w : World} {base base' b : Nat} {x0 x1 x2 : Value} (h : Bx3 w base b x0 x1 x2) (hb : base' ≤ base) : Bx3 w base' b x0 x1 x2 :=
  ⟨Nat.le_trans hb h.lo, h.hi, h.c0, h.c1, h.c2, h.f0, h.f1, h.f2⟩
theorem Bx3.ltb {w : World} {base b : Nat} {x0 x1 x2 : Value} (h : Bx3 w base b x0 x1 x2) : ∀ k ∈ [b], base ≤ k ∧ k < w.heap.size := fun k hk => by
  simp at hk
  subst hk
  exact ⟨h.lo, h.hi⟩
theorem Bx3.tn {w w' : World} {base b : Nat} {x0 x1 x2 : Value} {S : List Nat} (h : Bx3 w base b x0 x1 x2) (ht : Tn S w w') (ha : Apart [b] S) : Bx3 w' base b x0 x1 x2 := by
  have hk := ht.block b h.hi (ha b (by simp))
  have hc := fun i => World.cell?_of_block (w := w) (w' := w') (a := ⟨b, i, none⟩) hk
  have hf := fun i => World.frozen?_of_block (w := w) (w' := w') (a := ⟨b, i, none⟩) hk
  exact ⟨h.lo, Nat.lt_of_lt_of_le h.hi ht.size, (hc 0).trans h.c0, (hc 1).trans h.c1, (hc 2).trans h.c2, (hf 0).trans h.f0, (hf 1).trans h.f1, (hf 2).trans h.f2⟩
theorem Bx3.set0 {w : World} {base b : Nat} {x0 x1 x2 : Value} (h : Bx3 w base b x0 x1 x2) (x : Value) : Bx3 (w.setCell ⟨b, 0, none⟩ x) base b x x1 x2 :=
  have c0 := h.c0; have c1 := h.c1; have c2 := h.c2; have f0 := h.f0; have f1 := h.f1; have f2 := h.f2
  ⟨h.lo, by have := h.hi; simpa [World.setCell] using this, World.cell?_setCell_same _ _ _ c0, (World.cell?_setCell_other _ _ _ _ (by simp)).trans c1, (World.cell?_setCell_other _ _ _ _ (by simp)).trans c2, by simp [*], by simp [*], by simp [*]⟩
theorem Bx3.set1 {w : World} {base b : Nat} {x0 x1 x2 : Value} (h : Bx3 w base b x0 x1 x2) (x : Value) : Bx3 (w.setCell ⟨b, 1, none⟩ x) base b x0 x x2 :=
  have c0 := h.c0; have c1 := h.c1; have c2 := h.c2; have f0 := h.f0; have f1 := h.f1; have f2 := h.f2
  ⟨h.lo, by have := h.hi; simpa [World.setCell] using this, (World.cell?_setCell_other _ _ _ _ (by simp)).trans c0, World.cell?_setCell_same _ _ _ c1, (World.cell?_setCell_other _ _ _ _ (by simp)).trans c2, by simp [*], by simp [*], by simp [*]⟩
theorem Bx3.set2 {w : World} {base b : Nat} {x0 x1 x2 : Value} (h : Bx3 w base b x0 x1 x2) (x : Value) : Bx3 (w.setCell ⟨b, 2, none⟩ x) base b x0 x1 x :=
  have c0 := h.c0; have c1 := h.c1; have c2 := h.c2; have f0 := h.f0; have f1 := h.f1; have f2 := h.f2
  ⟨h.lo, by have := h.hi; simpa [World.setCell] using this, (World.cell?_setCell_other _ _ _ _ (by simp)).trans c0, (World.cell?_setCell_other _ _ _ _ (by simp)).trans c1, World.cell?_setCell_same _ _ _ c2, by simp [*], by simp [*], by simp [*]⟩
theorem Bx3.other {w : World} {base b : Nat} {x0 x1 x2 : Value} (h : Bx3 w base b x0 x1 x2) (b' i : Nat) (hb : b ≠ b') (x : Value) : Bx3 (w.setCell ⟨b', i, none⟩ x) base b x0 x1 x2 :=
  h.tn (tnC w b' i x) (fun k hk hs => by simp at hk hs; omega)
/-- The box of a variable of 5 cells. -/
structure Bx5 (w : World) (base b : Nat) (x0 x1 x2 x3 x4 : Value) : Prop where
  lo : base ≤ b
  hi : b < w.heap.size
  c0 : w.cell? ⟨b, 0, none⟩ = some x0
  c1 : w.cell? ⟨b, 1, none⟩ = some x1
  c2 : w.cell? ⟨b, 2, none⟩ = some x2
  c3 : w.cell? ⟨b, 3, none⟩ = some x3
  c4 : w.cell? ⟨b, 4, none⟩ = some x4
  f0 : w.frozen? ⟨b, 0, none⟩ = false
  f1 : w.frozen? ⟨b, 1, none⟩ = false
  f2 : w.frozen? ⟨b, 2, none⟩ = false
  f3 : w.frozen? ⟨b, 3, none⟩ = false
  f4 : w.frozen? ⟨b, 4, none⟩ = false
theorem Bx5.made (w : World) (x0 x1 x2 x3 x4 : Value) (t : TypeId) : Bx5 (w.alloc (.cells #[x0, x1, x2, x3, x4] t)) w.heap.size w.heap.size x0 x1 x2 x3 x4 :=
  ⟨Nat.le_refl _, by simp, by simp, by simp, by simp, by simp, by simp, by simp, by simp, by simp, by simp, by simp⟩
theorem Bx5.below {w w' : World} {base b B : Nat} {x0 x1 x2 x3 x4 : Value} (h : Bx5 w base b x0 x1 x2 x3 x4) (hb : Below B w w') (hB : w.heap.size ≤ B) : Bx5 w' base b x0 x1 x2 x3 x4 :=
  have hlt : b < B := Nat.lt_of_lt_of_le h.hi hB
  ⟨h.lo, Nat.lt_of_lt_of_le h.hi hb.size, (hb.cell (p := ⟨b, 0, none⟩) hlt).trans h.c0, (hb.cell (p := ⟨b, 1, none⟩) hlt).trans h.c1, (hb.cell (p := ⟨b, 2, none⟩) hlt).trans h.c2, (hb.cell (p := ⟨b, 3, none⟩) hlt).trans h.c3, (hb.cell (p := ⟨b, 4, none⟩) hlt).trans h.c4, (hb.frozen (p := ⟨b, 0, none⟩) hlt).trans h.f0, (hb.frozen (p := ⟨b, 1, none⟩) hlt).trans h.f1, (hb.frozen (p := ⟨b, 2, none⟩) hlt).trans h.f2, (hb.frozen (p := ⟨b, 3, none⟩) hlt).trans h.f3, (hb.frozen (p := ⟨b, 4, none⟩) hlt).trans h.f4⟩
theorem Bx5.mono {w : World} {base base' b : Nat} {x0 x1 x2 x3 x4 : Value} (h : Bx5 w base b x0 x1 x2 x3 x4) (hb : base' ≤ base) : Bx5 w base' b x0 x1 x2 x3 x4 :=
  ⟨Nat.le_trans hb h.lo, h.hi, h.c0, h.c1, h.c2, h.c3, h.c4, h.f0, h.f1, h.f2, h.f3, h.f4⟩
theorem Bx5.ltb {w : World} {base b : Nat} {x0 x1 x2 x3 x4 : Value} (h : Bx5 w base b x0 x1 x2 x3 x4) : ∀ k ∈ [b], base ≤ k ∧ k < w.heap.size := fun k hk => by
  simp at hk
  subst hk
  exact ⟨h.lo, h.hi⟩
theorem Bx5.tn {w w' : World} {base b : Nat} {x0 x1 x2 x3 x4 : Value} {S : List Nat} (h : Bx5 w base b x0 x1 x2 x3 x4) (ht : Tn S w w') (ha : Apart [b] S) : Bx5 w' base b x0 x1 x2 x3 x4 := by
  have hk := ht.block b h.hi (ha b (by simp))
  have hc := fun i => World.cell?_of_block (w := w) (w' := w') (a := ⟨b, i, none⟩) hk
  have hf := fun i => World.frozen?_of_block (w := w) (w' := w') (a := ⟨b, i, none⟩) hk
  exact ⟨h.lo, Nat.lt_of_lt_of_le h.hi ht.size, (hc 0).trans h.c0, (hc 1).trans h.c1, (hc 2).trans h.c2, (hc 3).trans h.c3, (hc 4).trans h.c4, (hf 0).trans h.f0, (hf 1).trans h.f1, (hf 2).trans h.f2, (hf 3).trans h.f3, (hf 4).trans h.f4⟩
theorem Bx5.set0 {w : World} {base b : Nat} {x0 x1 x2 x3 x4 : Value} (h : Bx5 w base b x0 x1 x2 x3 x4) (x : Value) : Bx5 (w.setCell ⟨b, 0, none⟩ x) base b x x1 x2 x3 x4 :=
  have c0 := h.c0; have c1 := h.c1; have c2 := h.c2; have c3 := h.c3; have c4 := h.c4; have f0 := h.f0; have f1 := h.f1; have f2 := h.f2; have f3 := h.f3; have f4 := h.f4
  ⟨h.lo, by have := h.hi; simpa [World.setCell] using this, World.cell?_setCell_same _ _ _ c0, (World.cell?_setCell_other _ _ _ _ (by simp)).trans c1, (World.cell?_setCell_other _ _ _ _ (by simp)).trans c2, (World.cell?_setCell_other _ _ _ _ (by simp)).trans c3, (World.cell?_setCell_other _ _ _ _ (by simp)).trans c4, by simp [*], by simp [*], by simp [*], by simp [*], by simp [*]⟩
theorem Bx5.set1 {w : World} {base b : Nat} {x0 x1 x2 x3 x4 : Value} (h : Bx5 w base b x0 x1 x2 x3 x4) (x : Value) : Bx5 (w.setCell ⟨b, 1, none⟩ x) base b x0 x x2 x3 x4 :=
  have c0 := h.c0; have c1 := h.c1; have c2 := h.c2; have c3 := h.c3; have c4 := h.c4; have f0 := h.f0; have f1 := h.f1; have f2 := h.f2; have f3 := h.f3; have f4 := h.f4
  ⟨h.lo, by have := h.hi; simpa [World.setCell] using this, (World.cell?_setCell_other _ _ _ _ (by simp)).trans c0, World.cell?_setCell_same _ _ _ c1, (World.cell?_setCell_other _ _ _ _ (by simp)).trans c2, (World.cell?_setCell_other _ _ _ _ (by simp)).trans c3, (World.cell?_setCell_other _ _ _ _ (by simp)).trans c4, by simp [*], by simp [*], by simp [*], by simp [*], by simp [*]⟩
theorem Bx5.set2 {w : World} {base b : Nat} {x0 x1 x2 x3 x4 : Value} (h : Bx5 w base b x0 x1 x2 x3 x4) (x : Value) : Bx5 (w.setCell ⟨b, 2, none⟩ x) base b x0 x1 x x3 x4 :=
  have c0 := h.c0; have c1 := h.c1; have c2 := h.c2; have c3 := h.c3; have c4 := h.c4; have f0 := h.f0; have f1 := h.f1; have f2 := h.f2; have f3 := h.f3; have f4 := h.f4
  ⟨h.lo, by have := h.hi; simpa [World.setCell] using this, (World.cell?_setCell_other _ _ _ _ (by simp)).trans c0, (World.cell?_setCell_other _ _ _ _ (by simp)).trans c1, World.cell?_setCell_same _ _ _ c2, (World.cell?_setCell_other _ _ _ _ (by simp)).trans c3, (World.cell?_setCell_other _ _ _ _ (by simp)).trans c4, by simp [*], by simp [*], by simp [*], by simp [*], by simp [*]⟩
theorem Bx5.set3 {w : World} {base b : Nat} {x0 x1 x2 x3 x4 : Value} (h : Bx5 w base b x0 x1 x2 x3 x4) (x : Value) : Bx5 (w.setCell ⟨b, 3, none⟩ x) base b x0 x1 x2 x x4 :=
  have c0 := h.c0; have c1 := h.c1; have c2 := h.c2; have c3 := h.c3; have c4 := h.c4; have f0 := h.f0; have f1 := h.f1; have f2 := h.f2; have f3 := h.f3; have f4 := h.f4
  ⟨h.lo, by have := h.hi; simpa [World.setCell] using this, (World.cell?_setCell_other _ _ _ _ (by simp)).trans c0, (World.cell?_setCell_other _ _ _ _ (by simp)).trans c1, (World.cell?_setCell_other _ _ _ _ (by simp)).trans c2, World.cell?_setCell_same _ _ _ c3, (World.cell?_setCell_other _ _ _ _ (by simp)).trans c4, by simp [*], by simp [*], by simp [*], by simp [*], by simp [*]⟩
theorem Bx5.set4 {w : World} {base b : Nat} {x0 x1 x2 x3 x4 : Value} (h : Bx5 w base b x0 x1 x2 x3 x4) (x : Value) : Bx5 (w.setCell ⟨b, 4, none⟩ x) base b x0 x1 x2 x3 x :=
  have c0 := h.c0; have c1 := h.c1; have c2 := h.c2; have c3 := h.c3; have c4 := h.c4; have f0 := h.f0; have f1 := h.f1; have f2 := h.f2; have f3 := h.f3; have f4 := h.f4
  ⟨h.lo, by have := h.hi; simpa [World.setCell] using this, (World.cell?_setCell_other _ _ _ _ (by simp)).trans c0, (World.cell?_setCell_other _ _ _ _ (by simp)).trans c1, (World.cell?_setCell_other _ _ _ _ (by simp)).trans c2, (World.cell?_setCell_other _ _ _ _ (by simp)).trans c3, World.cell?_setCell_same _ _ _ c4, by simp [*], by simp [*], by simp [*], by simp [*], by simp [*]⟩
theorem Bx5.other {w : World} {base b : Nat} {x0 x1 x2 x3 x4 : Value} (h : Bx5 w base b x0 x1 x2 x3 x4) (b' i : Nat) (hb : b ≠ b') (x : Value) : Bx5 (w.setCell ⟨b', i, none⟩ x) base b x0 x1 x2 x3 x4 :=
  h.tn (tnC w b' i x) (fun k hk hs => by simp at hk hs; omega)
theorem ownsI.other {w : World} {base : Nat} {v : Value} {xs : List Int} (h : ownsI w base v xs) (b i : Nat) (hb : b < base) (x : Value) : ownsI (w.setCell ⟨b, i, none⟩ x) base v xs :=
  h.tn (tnC w b i x) (fun k hk hs => by have := (h.ltb k hk).1; simp at hs; omega)


end Go.Proofs.Ytlpfjpbnedankaa

/- The law's own toSpin, by its contract. -/
namespace Go.Proofs.Ytlpfjpbnedankaa
open Go.RowKit
set_option linter.unusedSimpArgs false

end Go.Proofs.Ytlpfjpbnedankaa

/- The law's own helpers on a Spin: sizes, likeness, marks. -/
namespace Go.Proofs.Ytlpfjpbnedankaa
open Go.RowKit
set_option linter.unusedSimpArgs false

end Go.Proofs.Ytlpfjpbnedankaa
