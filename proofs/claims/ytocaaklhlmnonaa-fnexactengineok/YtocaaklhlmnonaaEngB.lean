/- EngineOk of the specification and of the program, each by its contract, and the law's walk. -/
import Derived.Test.YtocaaklhlmnonaaConfB
namespace Go.Proofs.Ytocaaklhlmnonaa
open Go.RowKit
set_option linter.unusedSimpArgs false

/-- The box of a variable of 11 cells. -/
structure Bx11 (w : World) (base b : Nat) (x0 x1 x2 x3 x4 x5 x6 x7 x8 x9 x10 : Value) : Prop where
  lo : base ≤ b
  hi : b < w.heap.size
  c0 : w.cell? ⟨b, 0, none⟩ = some x0
  c1 : w.cell? ⟨b, 1, none⟩ = some x1
  c2 : w.cell? ⟨b, 2, none⟩ = some x2
  c3 : w.cell? ⟨b, 3, none⟩ = some x3
  c4 : w.cell? ⟨b, 4, none⟩ = some x4
  c5 : w.cell? ⟨b, 5, none⟩ = some x5
  c6 : w.cell? ⟨b, 6, none⟩ = some x6
  c7 : w.cell? ⟨b, 7, none⟩ = some x7
  c8 : w.cell? ⟨b, 8, none⟩ = some x8
  c9 : w.cell? ⟨b, 9, none⟩ = some x9
  c10 : w.cell? ⟨b, 10, none⟩ = some x10
  f0 : w.frozen? ⟨b, 0, none⟩ = false
  f1 : w.frozen? ⟨b, 1, none⟩ = false
  f2 : w.frozen? ⟨b, 2, none⟩ = false
  f3 : w.frozen? ⟨b, 3, none⟩ = false
  f4 : w.frozen? ⟨b, 4, none⟩ = false
  f5 : w.frozen? ⟨b, 5, none⟩ = false
  f6 : w.frozen? ⟨b, 6, none⟩ = false
  f7 : w.frozen? ⟨b, 7, none⟩ = false
  f8 : w.frozen? ⟨b, 8, none⟩ = false
  f9 : w.frozen? ⟨b, 9, none⟩ = false
  f10 : w.frozen? ⟨b, 10, none⟩ = false
theorem Bx11.made (w : World) (x0 x1 x2 x3 x4 x5 x6 x7 x8 x9 x10 : Value) (t : TypeId) : Bx11 (w.alloc (.cells #[x0, x1, x2, x3, x4, x5, x6, x7, x8, x9, x10] t)) w.heap.size w.heap.size x0 x1 x2 x3 x4 x5 x6 x7 x8 x9 x10 :=
  ⟨Nat.le_refl _, by simp, by simp, by simp, by simp, by simp, by simp, by simp, by simp, by simp, by simp, by simp, by simp, by simp, by simp, by simp, by simp, by simp, by simp, by simp, by simp, by simp, by simp, by simp⟩
theorem Bx11.below {w w' : World} {base b B : Nat} {x0 x1 x2 x3 x4 x5 x6 x7 x8 x9 x10 : Value} (h : Bx11 w base b x0 x1 x2 x3 x4 x5 x6 x7 x8 x9 x10) (hb : Below B w w') (hB : w.heap.size ≤ B) : Bx11 w' base b x0 x1 x2 x3 x4 x5 x6 x7 x8 x9 x10 :=
  have hlt : b < B := Nat.lt_of_lt_of_le h.hi hB
  ⟨h.lo, Nat.lt_of_lt_of_le h.hi hb.size, (hb.cell (p := ⟨b, 0, none⟩) hlt).trans h.c0, (hb.cell (p := ⟨b, 1, none⟩) hlt).trans h.c1, (hb.cell (p := ⟨b, 2, none⟩) hlt).trans h.c2, (hb.cell (p := ⟨b, 3, none⟩) hlt).trans h.c3, (hb.cell (p := ⟨b, 4, none⟩) hlt).trans h.c4, (hb.cell (p := ⟨b, 5, none⟩) hlt).trans h.c5, (hb.cell (p := ⟨b, 6, none⟩) hlt).trans h.c6, (hb.cell (p := ⟨b, 7, none⟩) hlt).trans h.c7, (hb.cell (p := ⟨b, 8, none⟩) hlt).trans h.c8, (hb.cell (p := ⟨b, 9, none⟩) hlt).trans h.c9, (hb.cell (p := ⟨b, 10, none⟩) hlt).trans h.c10, (hb.frozen (p := ⟨b, 0, none⟩) hlt).trans h.f0, (hb.frozen (p := ⟨b, 1, none⟩) hlt).trans h.f1, (hb.frozen (p := ⟨b, 2, none⟩) hlt).trans h.f2, (hb.frozen (p := ⟨b, 3, none⟩) hlt).trans h.f3, (hb.frozen (p := ⟨b, 4, none⟩) hlt).trans h.f4, (hb.frozen (p := ⟨b, 5, none⟩) hlt).trans h.f5, (hb.frozen (p := ⟨b, 6, none⟩) hlt).trans h.f6, (hb.frozen (p := ⟨b, 7, none⟩) hlt).trans h.f7, (hb.frozen (p := ⟨b, 8, none⟩) hlt).trans h.f8, (hb.frozen (p := ⟨b, 9, none⟩) hlt).trans h.f9, (hb.frozen (p := ⟨b, 10, none⟩) hlt).trans h.f10⟩
theorem Bx11.mono {w : World} {base base' b : Nat} {x0 x1 x2 x3 x4 x5 x6 x7 x8 x9 x10 : Value} (h : Bx11 w base b x0 x1 x2 x3 x4 x5 x6 x7 x8 x9 x10) (hb : base' ≤ base) : Bx11 w base' b x0 x1 x2 x3 x4 x5 x6 x7 x8 x9 x10 :=
  ⟨Nat.le_trans hb h.lo, h.hi, h.c0, h.c1, h.c2, h.c3, h.c4, h.c5, h.c6, h.c7, h.c8, h.c9, h.c10, h.f0, h.f1, h.f2, h.f3, h.f4, h.f5, h.f6, h.f7, h.f8, h.f9, h.f10⟩
theorem Bx11.ltb {w : World} {base b : Nat} {x0 x1 x2 x3 x4 x5 x6 x7 x8 x9 x10 : Value} (h : Bx11 w base b x0 x1 x2 x3 x4 x5 x6 x7 x8 x9 x10) : ∀ k ∈ [b], base ≤ k ∧ k < w.heap.size := fun k hk => by
  simp at hk
  subst hk
  exact ⟨h.lo, h.hi⟩
theorem Bx11.tn {w w' : World} {base b : Nat} {x0 x1 x2 x3 x4 x5 x6 x7 x8 x9 x10 : Value} {S : List Nat} (h : Bx11 w base b x0 x1 x2 x3 x4 x5 x6 x7 x8 x9 x10) (ht : Tn S w w') (ha : Apart [b] S) : Bx11 w' base b x0 x1 x2 x3 x4 x5 x6 x7 x8 x9 x10 := by
  have hk := ht.block b h.hi (ha b (by simp))
  have hc := fun i => World.cell?_of_block (w := w) (w' := w') (a := ⟨b, i, none⟩) hk
  have hf := fun i => World.frozen?_of_block (w := w) (w' := w') (a := ⟨b, i, none⟩) hk
  exact ⟨h.lo, Nat.lt_of_lt_of_le h.hi ht.size, (hc 0).trans h.c0, (hc 1).trans h.c1, (hc 2).trans h.c2, (hc 3).trans h.c3, (hc 4).trans h.c4, (hc 5).trans h.c5, (hc 6).trans h.c6, (hc 7).trans h.c7, (hc 8).trans h.c8, (hc 9).trans h.c9, (hc 10).trans h.c10, (hf 0).trans h.f0, (hf 1).trans h.f1, (hf 2).trans h.f2, (hf 3).trans h.f3, (hf 4).trans h.f4, (hf 5).trans h.f5, (hf 6).trans h.f6, (hf 7).trans h.f7, (hf 8).trans h.f8, (hf 9).trans h.f9, (hf 10).trans h.f10⟩
theorem Bx11.set0 {w : World} {base b : Nat} {x0 x1 x2 x3 x4 x5 x6 x7 x8 x9 x10 : Value} (h : Bx11 w base b x0 x1 x2 x3 x4 x5 x6 x7 x8 x9 x10) (x : Value) : Bx11 (w.setCell ⟨b, 0, none⟩ x) base b x x1 x2 x3 x4 x5 x6 x7 x8 x9 x10 :=
  have c0 := h.c0; have c1 := h.c1; have c2 := h.c2; have c3 := h.c3; have c4 := h.c4; have c5 := h.c5; have c6 := h.c6; have c7 := h.c7; have c8 := h.c8; have c9 := h.c9; have c10 := h.c10; have f0 := h.f0; have f1 := h.f1; have f2 := h.f2; have f3 := h.f3; have f4 := h.f4; have f5 := h.f5; have f6 := h.f6; have f7 := h.f7; have f8 := h.f8; have f9 := h.f9; have f10 := h.f10
  ⟨h.lo, by have := h.hi; simpa [World.setCell] using this, World.cell?_setCell_same _ _ _ c0, (World.cell?_setCell_other _ _ _ _ (by simp)).trans c1, (World.cell?_setCell_other _ _ _ _ (by simp)).trans c2, (World.cell?_setCell_other _ _ _ _ (by simp)).trans c3, (World.cell?_setCell_other _ _ _ _ (by simp)).trans c4, (World.cell?_setCell_other _ _ _ _ (by simp)).trans c5, (World.cell?_setCell_other _ _ _ _ (by simp)).trans c6, (World.cell?_setCell_other _ _ _ _ (by simp)).trans c7, (World.cell?_setCell_other _ _ _ _ (by simp)).trans c8, (World.cell?_setCell_other _ _ _ _ (by simp)).trans c9, (World.cell?_setCell_other _ _ _ _ (by simp)).trans c10, by simp [*], by simp [*], by simp [*], by simp [*], by simp [*], by simp [*], by simp [*], by simp [*], by simp [*], by simp [*], by simp [*]⟩
theorem Bx11.set1 {w : World} {base b : Nat} {x0 x1 x2 x3 x4 x5 x6 x7 x8 x9 x10 : Value} (h : Bx11 w base b x0 x1 x2 x3 x4 x5 x6 x7 x8 x9 x10) (x : Value) : Bx11 (w.setCell ⟨b, 1, none⟩ x) base b x0 x x2 x3 x4 x5 x6 x7 x8 x9 x10 :=
  have c0 := h.c0; have c1 := h.c1; have c2 := h.c2; have c3 := h.c3; have c4 := h.c4; have c5 := h.c5; have c6 := h.c6; have c7 := h.c7; have c8 := h.c8; have c9 := h.c9; have c10 := h.c10; have f0 := h.f0; have f1 := h.f1; have f2 := h.f2; have f3 := h.f3; have f4 := h.f4; have f5 := h.f5; have f6 := h.f6; have f7 := h.f7; have f8 := h.f8; have f9 := h.f9; have f10 := h.f10
  ⟨h.lo, by have := h.hi; simpa [World.setCell] using this, (World.cell?_setCell_other _ _ _ _ (by simp)).trans c0, World.cell?_setCell_same _ _ _ c1, (World.cell?_setCell_other _ _ _ _ (by simp)).trans c2, (World.cell?_setCell_other _ _ _ _ (by simp)).trans c3, (World.cell?_setCell_other _ _ _ _ (by simp)).trans c4, (World.cell?_setCell_other _ _ _ _ (by simp)).trans c5, (World.cell?_setCell_other _ _ _ _ (by simp)).trans c6, (World.cell?_setCell_other _ _ _ _ (by simp)).trans c7, (World.cell?_setCell_other _ _ _ _ (by simp)).trans c8, (World.cell?_setCell_other _ _ _ _ (by simp)).trans c9, (World.cell?_setCell_other _ _ _ _ (by simp)).trans c10, by simp [*], by simp [*], by simp [*], by simp [*], by simp [*], by simp [*], by simp [*], by simp [*], by simp [*], by simp [*], by simp [*]⟩
theorem Bx11.set2 {w : World} {base b : Nat} {x0 x1 x2 x3 x4 x5 x6 x7 x8 x9 x10 : Value} (h : Bx11 w base b x0 x1 x2 x3 x4 x5 x6 x7 x8 x9 x10) (x : Value) : Bx11 (w.setCell ⟨b, 2, none⟩ x) base b x0 x1 x x3 x4 x5 x6 x7 x8 x9 x10 :=
  have c0 := h.c0; have c1 := h.c1; have c2 := h.c2; have c3 := h.c3; have c4 := h.c4; have c5 := h.c5; have c6 := h.c6; have c7 := h.c7; have c8 := h.c8; have c9 := h.c9; have c10 := h.c10; have f0 := h.f0; have f1 := h.f1; have f2 := h.f2; have f3 := h.f3; have f4 := h.f4; have f5 := h.f5; have f6 := h.f6; have f7 := h.f7; have f8 := h.f8; have f9 := h.f9; have f10 := h.f10
  ⟨h.lo, by have := h.hi; simpa [World.setCell] using this, (World.cell?_setCell_other _ _ _ _ (by simp)).trans c0, (World.cell?_setCell_other _ _ _ _ (by simp)).trans c1, World.cell?_setCell_same _ _ _ c2, (World.cell?_setCell_other _ _ _ _ (by simp)).trans c3, (World.cell?_setCell_other _ _ _ _ (by simp)).trans c4, (World.cell?_setCell_other _ _ _ _ (by simp)).trans c5, (World.cell?_setCell_other _ _ _ _ (by simp)).trans c6, (World.cell?_setCell_other _ _ _ _ (by simp)).trans c7, (World.cell?_setCell_other _ _ _ _ (by simp)).trans c8, (World.cell?_setCell_other _ _ _ _ (by simp)).trans c9, (World.cell?_setCell_other _ _ _ _ (by simp)).trans c10, by simp [*], by simp [*], by simp [*], by simp [*], by simp [*], by simp [*], by simp [*], by simp [*], by simp [*], by simp [*], by simp [*]⟩
theorem Bx11.set3 {w : World} {base b : Nat} {x0 x1 x2 x3 x4 x5 x6 x7 x8 x9 x10 : Value} (h : Bx11 w base b x0 x1 x2 x3 x4 x5 x6 x7 x8 x9 x10) (x : Value) : Bx11 (w.setCell ⟨b, 3, none⟩ x) base b x0 x1 x2 x x4 x5 x6 x7 x8 x9 x10 :=
  have c0 := h.c0; have c1 := h.c1; have c2 := h.c2; have c3 := h.c3; have c4 := h.c4; have c5 := h.c5; have c6 := h.c6; have c7 := h.c7; have c8 := h.c8; have c9 := h.c9; have c10 := h.c10; have f0 := h.f0; have f1 := h.f1; have f2 := h.f2; have f3 := h.f3; have f4 := h.f4; have f5 := h.f5; have f6 := h.f6; have f7 := h.f7; have f8 := h.f8; have f9 := h.f9; have f10 := h.f10
  ⟨h.lo, by have := h.hi; simpa [World.setCell] using this, (World.cell?_setCell_other _ _ _ _ (by simp)).trans c0, (World.cell?_setCell_other _ _ _ _ (by simp)).trans c1, (World.cell?_setCell_other _ _ _ _ (by simp)).trans c2, World.cell?_setCell_same _ _ _ c3, (World.cell?_setCell_other _ _ _ _ (by simp)).trans c4, (World.cell?_setCell_other _ _ _ _ (by simp)).trans c5, (World.cell?_setCell_other _ _ _ _ (by simp)).trans c6, (World.cell?_setCell_other _ _ _ _ (by simp)).trans c7, (World.cell?_setCell_other _ _ _ _ (by simp)).trans c8, (World.cell?_setCell_other _ _ _ _ (by simp)).trans c9, (World.cell?_setCell_other _ _ _ _ (by simp)).trans c10, by simp [*], by simp [*], by simp [*], by simp [*], by simp [*], by simp [*], by simp [*], by simp [*], by simp [*], by simp [*], by simp [*]⟩
theorem Bx11.set4 {w : World} {base b : Nat} {x0 x1 x2 x3 x4 x5 x6 x7 x8 x9 x10 : Value} (h : Bx11 w base b x0 x1 x2 x3 x4 x5 x6 x7 x8 x9 x10) (x : Value) : Bx11 (w.setCell ⟨b, 4, none⟩ x) base b x0 x1 x2 x3 x x5 x6 x7 x8 x9 x10 :=
  have c0 := h.c0; have c1 := h.c1; have c2 := h.c2; have c3 := h.c3; have c4 := h.c4; have c5 := h.c5; have c6 := h.c6; have c7 := h.c7; have c8 := h.c8; have c9 := h.c9; have c10 := h.c10; have f0 := h.f0; have f1 := h.f1; have f2 := h.f2; have f3 := h.f3; have f4 := h.f4; have f5 := h.f5; have f6 := h.f6; have f7 := h.f7; have f8 := h.f8; have f9 := h.f9; have f10 := h.f10
  ⟨h.lo, by have := h.hi; simpa [World.setCell] using this, (World.cell?_setCell_other _ _ _ _ (by simp)).trans c0, (World.cell?_setCell_other _ _ _ _ (by simp)).trans c1, (World.cell?_setCell_other _ _ _ _ (by simp)).trans c2, (World.cell?_setCell_other _ _ _ _ (by simp)).trans c3, World.cell?_setCell_same _ _ _ c4, (World.cell?_setCell_other _ _ _ _ (by simp)).trans c5, (World.cell?_setCell_other _ _ _ _ (by simp)).trans c6, (World.cell?_setCell_other _ _ _ _ (by simp)).trans c7, (World.cell?_setCell_other _ _ _ _ (by simp)).trans c8, (World.cell?_setCell_other _ _ _ _ (by simp)).trans c9, (World.cell?_setCell_other _ _ _ _ (by simp)).trans c10, by simp [*], by simp [*], by simp [*], by simp [*], by simp [*], by simp [*], by simp [*], by simp [*], by simp [*], by simp [*], by simp [*]⟩
theorem Bx11.set5 {w : World} {base b : Nat} {x0 x1 x2 x3 x4 x5 x6 x7 x8 x9 x10 : Value} (h : Bx11 w base b x0 x1 x2 x3 x4 x5 x6 x7 x8 x9 x10) (x : Value) : Bx11 (w.setCell ⟨b, 5, none⟩ x) base b x0 x1 x2 x3 x4 x x6 x7 x8 x9 x10 :=
  have c0 := h.c0; have c1 := h.c1; have c2 := h.c2; have c3 := h.c3; have c4 := h.c4; have c5 := h.c5; have c6 := h.c6; have c7 := h.c7; have c8 := h.c8; have c9 := h.c9; have c10 := h.c10; have f0 := h.f0; have f1 := h.f1; have f2 := h.f2; have f3 := h.f3; have f4 := h.f4; have f5 := h.f5; have f6 := h.f6; have f7 := h.f7; have f8 := h.f8; have f9 := h.f9; have f10 := h.f10
  ⟨h.lo, by have := h.hi; simpa [World.setCell] using this, (World.cell?_setCell_other _ _ _ _ (by simp)).trans c0, (World.cell?_setCell_other _ _ _ _ (by simp)).trans c1, (World.cell?_setCell_other _ _ _ _ (by simp)).trans c2, (World.cell?_setCell_other _ _ _ _ (by simp)).trans c3, (World.cell?_setCell_other _ _ _ _ (by simp)).trans c4, World.cell?_setCell_same _ _ _ c5, (World.cell?_setCell_other _ _ _ _ (by simp)).trans c6, (World.cell?_setCell_other _ _ _ _ (by simp)).trans c7, (World.cell?_setCell_other _ _ _ _ (by simp)).trans c8, (World.cell?_setCell_other _ _ _ _ (by simp)).trans c9, (World.cell?_setCell_other _ _ _ _ (by simp)).trans c10, by simp [*], by simp [*], by simp [*], by simp [*], by simp [*], by simp [*], by simp [*], by simp [*], by simp [*], by simp [*], by simp [*]⟩
theorem Bx11.set6 {w : World} {base b : Nat} {x0 x1 x2 x3 x4 x5 x6 x7 x8 x9 x10 : Value} (h : Bx11 w base b x0 x1 x2 x3 x4 x5 x6 x7 x8 x9 x10) (x : Value) : Bx11 (w.setCell ⟨b, 6, none⟩ x) base b x0 x1 x2 x3 x4 x5 x x7 x8 x9 x10 :=
  have c0 := h.c0; have c1 := h.c1; have c2 := h.c2; have c3 := h.c3; have c4 := h.c4; have c5 := h.c5; have c6 := h.c6; have c7 := h.c7; have c8 := h.c8; have c9 := h.c9; have c10 := h.c10; have f0 := h.f0; have f1 := h.f1; have f2 := h.f2; have f3 := h.f3; have f4 := h.f4; have f5 := h.f5; have f6 := h.f6; have f7 := h.f7; have f8 := h.f8; have f9 := h.f9; have f10 := h.f10
  ⟨h.lo, by have := h.hi; simpa [World.setCell] using this, (World.cell?_setCell_other _ _ _ _ (by simp)).trans c0, (World.cell?_setCell_other _ _ _ _ (by simp)).trans c1, (World.cell?_setCell_other _ _ _ _ (by simp)).trans c2, (World.cell?_setCell_other _ _ _ _ (by simp)).trans c3, (World.cell?_setCell_other _ _ _ _ (by simp)).trans c4, (World.cell?_setCell_other _ _ _ _ (by simp)).trans c5, World.cell?_setCell_same _ _ _ c6, (World.cell?_setCell_other _ _ _ _ (by simp)).trans c7, (World.cell?_setCell_other _ _ _ _ (by simp)).trans c8, (World.cell?_setCell_other _ _ _ _ (by simp)).trans c9, (World.cell?_setCell_other _ _ _ _ (by simp)).trans c10, by simp [*], by simp [*], by simp [*], by simp [*], by simp [*], by simp [*], by simp [*], by simp [*], by simp [*], by simp [*], by simp [*]⟩
theorem Bx11.set7 {w : World} {base b : Nat} {x0 x1 x2 x3 x4 x5 x6 x7 x8 x9 x10 : Value} (h : Bx11 w base b x0 x1 x2 x3 x4 x5 x6 x7 x8 x9 x10) (x : Value) : Bx11 (w.setCell ⟨b, 7, none⟩ x) base b x0 x1 x2 x3 x4 x5 x6 x x8 x9 x10 :=
  have c0 := h.c0; have c1 := h.c1; have c2 := h.c2; have c3 := h.c3; have c4 := h.c4; have c5 := h.c5; have c6 := h.c6; have c7 := h.c7; have c8 := h.c8; have c9 := h.c9; have c10 := h.c10; have f0 := h.f0; have f1 := h.f1; have f2 := h.f2; have f3 := h.f3; have f4 := h.f4; have f5 := h.f5; have f6 := h.f6; have f7 := h.f7; have f8 := h.f8; have f9 := h.f9; have f10 := h.f10
  ⟨h.lo, by have := h.hi; simpa [World.setCell] using this, (World.cell?_setCell_other _ _ _ _ (by simp)).trans c0, (World.cell?_setCell_other _ _ _ _ (by simp)).trans c1, (World.cell?_setCell_other _ _ _ _ (by simp)).trans c2, (World.cell?_setCell_other _ _ _ _ (by simp)).trans c3, (World.cell?_setCell_other _ _ _ _ (by simp)).trans c4, (World.cell?_setCell_other _ _ _ _ (by simp)).trans c5, (World.cell?_setCell_other _ _ _ _ (by simp)).trans c6, World.cell?_setCell_same _ _ _ c7, (World.cell?_setCell_other _ _ _ _ (by simp)).trans c8, (World.cell?_setCell_other _ _ _ _ (by simp)).trans c9, (World.cell?_setCell_other _ _ _ _ (by simp)).trans c10, by simp [*], by simp [*], by simp [*], by simp [*], by simp [*], by simp [*], by simp [*], by simp [*], by simp [*], by simp [*], by simp [*]⟩
theorem Bx11.set8 {w : World} {base b : Nat} {x0 x1 x2 x3 x4 x5 x6 x7 x8 x9 x10 : Value} (h : Bx11 w base b x0 x1 x2 x3 x4 x5 x6 x7 x8 x9 x10) (x : Value) : Bx11 (w.setCell ⟨b, 8, none⟩ x) base b x0 x1 x2 x3 x4 x5 x6 x7 x x9 x10 :=
  have c0 := h.c0; have c1 := h.c1; have c2 := h.c2; have c3 := h.c3; have c4 := h.c4; have c5 := h.c5; have c6 := h.c6; have c7 := h.c7; have c8 := h.c8; have c9 := h.c9; have c10 := h.c10; have f0 := h.f0; have f1 := h.f1; have f2 := h.f2; have f3 := h.f3; have f4 := h.f4; have f5 := h.f5; have f6 := h.f6; have f7 := h.f7; have f8 := h.f8; have f9 := h.f9; have f10 := h.f10
  ⟨h.lo, by have := h.hi; simpa [World.setCell] using this, (World.cell?_setCell_other _ _ _ _ (by simp)).trans c0, (World.cell?_setCell_other _ _ _ _ (by simp)).trans c1, (World.cell?_setCell_other _ _ _ _ (by simp)).trans c2, (World.cell?_setCell_other _ _ _ _ (by simp)).trans c3, (World.cell?_setCell_other _ _ _ _ (by simp)).trans c4, (World.cell?_setCell_other _ _ _ _ (by simp)).trans c5, (World.cell?_setCell_other _ _ _ _ (by simp)).trans c6, (World.cell?_setCell_other _ _ _ _ (by simp)).trans c7, World.cell?_setCell_same _ _ _ c8, (World.cell?_setCell_other _ _ _ _ (by simp)).trans c9, (World.cell?_setCell_other _ _ _ _ (by simp)).trans c10, by simp [*], by simp [*], by simp [*], by simp [*], by simp [*], by simp [*], by simp [*], by simp [*], by simp [*], by simp [*], by simp [*]⟩
theorem Bx11.set9 {w : World} {base b : Nat} {x0 x1 x2 x3 x4 x5 x6 x7 x8 x9 x10 : Value} (h : Bx11 w base b x0 x1 x2 x3 x4 x5 x6 x7 x8 x9 x10) (x : Value) : Bx11 (w.setCell ⟨b, 9, none⟩ x) base b x0 x1 x2 x3 x4 x5 x6 x7 x8 x x10 :=
  have c0 := h.c0; have c1 := h.c1; have c2 := h.c2; have c3 := h.c3; have c4 := h.c4; have c5 := h.c5; have c6 := h.c6; have c7 := h.c7; have c8 := h.c8; have c9 := h.c9; have c10 := h.c10; have f0 := h.f0; have f1 := h.f1; have f2 := h.f2; have f3 := h.f3; have f4 := h.f4; have f5 := h.f5; have f6 := h.f6; have f7 := h.f7; have f8 := h.f8; have f9 := h.f9; have f10 := h.f10
  ⟨h.lo, by have := h.hi; simpa [World.setCell] using this, (World.cell?_setCell_other _ _ _ _ (by simp)).trans c0, (World.cell?_setCell_other _ _ _ _ (by simp)).trans c1, (World.cell?_setCell_other _ _ _ _ (by simp)).trans c2, (World.cell?_setCell_other _ _ _ _ (by simp)).trans c3, (World.cell?_setCell_other _ _ _ _ (by simp)).trans c4, (World.cell?_setCell_other _ _ _ _ (by simp)).trans c5, (World.cell?_setCell_other _ _ _ _ (by simp)).trans c6, (World.cell?_setCell_other _ _ _ _ (by simp)).trans c7, (World.cell?_setCell_other _ _ _ _ (by simp)).trans c8, World.cell?_setCell_same _ _ _ c9, (World.cell?_setCell_other _ _ _ _ (by simp)).trans c10, by simp [*], by simp [*], by simp [*], by simp [*], by simp [*], by simp [*], by simp [*], by simp [*], by simp [*], by simp [*], by simp [*]⟩
theorem Bx11.set10 {w : World} {base b : Nat} {x0 x1 x2 x3 x4 x5 x6 x7 x8 x9 x10 : Value} (h : Bx11 w base b x0 x1 x2 x3 x4 x5 x6 x7 x8 x9 x10) (x : Value) : Bx11 (w.setCell ⟨b, 10, none⟩ x) base b x0 x1 x2 x3 x4 x5 x6 x7 x8 x9 x :=
  have c0 := h.c0; have c1 := h.c1; have c2 := h.c2; have c3 := h.c3; have c4 := h.c4; have c5 := h.c5; have c6 := h.c6; have c7 := h.c7; have c8 := h.c8; have c9 := h.c9; have c10 := h.c10; have f0 := h.f0; have f1 := h.f1; have f2 := h.f2; have f3 := h.f3; have f4 := h.f4; have f5 := h.f5; have f6 := h.f6; have f7 := h.f7; have f8 := h.f8; have f9 := h.f9; have f10 := h.f10
  ⟨h.lo, by have := h.hi; simpa [World.setCell] using this, (World.cell?_setCell_other _ _ _ _ (by simp)).trans c0, (World.cell?_setCell_other _ _ _ _ (by simp)).trans c1, (World.cell?_setCell_other _ _ _ _ (by simp)).trans c2, (World.cell?_setCell_other _ _ _ _ (by simp)).trans c3, (World.cell?_setCell_other _ _ _ _ (by simp)).trans c4, (World.cell?_setCell_other _ _ _ _ (by simp)).trans c5, (World.cell?_setCell_other _ _ _ _ (by simp)).trans c6, (World.cell?_setCell_other _ _ _ _ (by simp)).trans c7, (World.cell?_setCell_other _ _ _ _ (by simp)).trans c8, (World.cell?_setCell_other _ _ _ _ (by simp)).trans c9, World.cell?_setCell_same _ _ _ c10, by simp [*], by simp [*], by simp [*], by simp [*], by simp [*], by simp [*], by simp [*], by simp [*], by simp [*], by simp [*], by simp [*]⟩
theorem Bx11.other {w : World} {base b : Nat} {x0 x1 x2 x3 x4 x5 x6 x7 x8 x9 x10 : Value} (h : Bx11 w base b x0 x1 x2 x3 x4 x5 x6 x7 x8 x9 x10) (b' i : Nat) (hb : b ≠ b') (x : Value) : Bx11 (w.setCell ⟨b', i, none⟩ x) base b x0 x1 x2 x3 x4 x5 x6 x7 x8 x9 x10 :=
  h.tn (tnC w b' i x) (fun k hk hs => by simp at hk hs; omega)

theorem hid_of {p : Prop} (h : p) : Hid p := h
abbrev vE (g : Bool) (m n : Int) (g' : Bool) (m' n' : Int) (md po : Int) (tn : Bool) (se : Bool) (dn : Int) : Value := .agg #[.bool g, .int .i64 m, .int .i64 n, .bool g', .int .i64 m', .int .i64 n', .int .i64 md, .int .i64 po, .bool tn, .bool se, .int .i64 dn]

set_option maxRecDepth 20000 in
set_option maxHeartbeats 6400000 in
theorem toE (g : Bool) (m n : Int) (g' : Bool) (m' n' : Int) (md po : Int) (tn : Bool) (se : Bool) (dn : Int) (w : World) :
    Calls Try.prog 30 #[.agg #[.bool g, .int .i64 m, .int .i64 n, .bool g', .int .i64 m', .int .i64 n', .int .i64 md, .int .i64 po, .bool tn, .bool se, .int .i64 dn]] w fun e w' => e = .returned (vE g m n g' m' n' md po tn se dn) ∧ Below w.heap.size w w' := by
  have s1 : (w.alloc (.cells #[.bool g, .int .i64 m, .int .i64 n, .bool g', .int .i64 m', .int .i64 n', .int .i64 md, .int .i64 po, .bool tn, .bool se, .int .i64 dn] 43)).heap.size = w.heap.size + 1 := by simp
  have s2 : ((w.alloc (.cells #[.bool g, .int .i64 m, .int .i64 n, .bool g', .int .i64 m', .int .i64 n', .int .i64 md, .int .i64 po, .bool tn, .bool se, .int .i64 dn] 43)).alloc (.cells #[.bool false, .int .i64 0, .int .i64 0, .bool false, .int .i64 0, .int .i64 0, .int .i64 0, .int .i64 0, .bool false, .bool false, .int .i64 0] 49)).heap.size = w.heap.size + 1 + 1 := by simp
  have X := ((Bx11.made w (.bool g) (.int .i64 m) (.int .i64 n) (.bool g') (.int .i64 m') (.int .i64 n') (.int .i64 md) (.int .i64 po) (.bool tn) (.bool se) (.int .i64 dn) 43).below (below1 _ (.cells #[.bool false, .int .i64 0, .int .i64 0, .bool false, .int .i64 0, .int .i64 0, .int .i64 0, .int .i64 0, .bool false, .bool false, .int .i64 0] 49)) (Nat.le_refl _)).below (below1 _ (.cells #[.bool false, .int .i64 0, .int .i64 0, .bool false, .int .i64 0, .int .i64 0, .int .i64 0, .int .i64 0, .bool false, .bool false, .int .i64 0] 49)) (Nat.le_refl _)
  have R := (Bx11.made (w.alloc (.cells #[.bool g, .int .i64 m, .int .i64 n, .bool g', .int .i64 m', .int .i64 n', .int .i64 md, .int .i64 po, .bool tn, .bool se, .int .i64 dn] 43)) (.bool false) (.int .i64 0) (.int .i64 0) (.bool false) (.int .i64 0) (.int .i64 0) (.int .i64 0) (.int .i64 0) (.bool false) (.bool false) (.int .i64 0) 49).below (below1 _ (.cells #[.bool false, .int .i64 0, .int .i64 0, .bool false, .int .i64 0, .int .i64 0, .int .i64 0, .int .i64 0, .bool false, .bool false, .int .i64 0] 49)) (Nat.le_refl _)
  have V := Bx11.made ((w.alloc (.cells #[.bool g, .int .i64 m, .int .i64 n, .bool g', .int .i64 m', .int .i64 n', .int .i64 md, .int .i64 po, .bool tn, .bool se, .int .i64 dn] 43)).alloc (.cells #[.bool false, .int .i64 0, .int .i64 0, .bool false, .int .i64 0, .int .i64 0, .int .i64 0, .int .i64 0, .bool false, .bool false, .int .i64 0] 49)) (.bool false) (.int .i64 0) (.int .i64 0) (.bool false) (.int .i64 0) (.int .i64 0) (.int .i64 0) (.int .i64 0) (.bool false) (.bool false) (.int .i64 0) 49
  have B := below3 w (.cells #[.bool g, .int .i64 m, .int .i64 n, .bool g', .int .i64 m', .int .i64 n', .int .i64 md, .int .i64 po, .bool tn, .bool se, .int .i64 dn] 43) (.cells #[.bool false, .int .i64 0, .int .i64 0, .bool false, .int .i64 0, .int .i64 0, .int .i64 0, .int .i64 0, .bool false, .bool false, .int .i64 0] 49) (.cells #[.bool false, .int .i64 0, .int .i64 0, .bool false, .int .i64 0, .int .i64 0, .int .i64 0, .int .i64 0, .bool false, .bool false, .int .i64 0] 49)
  rw [s1] at R
  rw [s2] at V
  clear s1 s2
  go_enter Try.func30, Try.ntmps30
  go_wp2_with fail
  refine (toQ g m n g' m' n' md po tn _).mono ?_
  generalize ((w.alloc (.cells #[.bool g, .int .i64 m, .int .i64 n, .bool g', .int .i64 m', .int .i64 n', .int .i64 md, .int .i64 po, .bool tn, .bool se, .int .i64 dn] 43)).alloc (.cells #[.bool false, .int .i64 0, .int .i64 0, .bool false, .int .i64 0, .int .i64 0, .int .i64 0, .int .i64 0, .bool false, .bool false, .int .i64 0] 49)).alloc (.cells #[.bool false, .int .i64 0, .int .i64 0, .bool false, .int .i64 0, .int .i64 0, .int .i64 0, .int .i64 0, .bool false, .bool false, .int .i64 0] 49) = u0 at *
  rintro e w1 ⟨rfl, b0⟩
  have hV0 := V.hi
  have X := X.below b0 (Nat.le_refl _)
  have R := R.below b0 (Nat.le_refl _)
  have V := V.below b0 (Nat.le_refl _)
  have hsz0 := B.size
  have B := B.trans (b0.mono B.size)
  have hx0 : ¬ (w.heap.size + 1 + 1 = w.heap.size) := by omega
  have hx1 : ¬ (w.heap.size = w.heap.size + 1 + 1) := by omega
  have hx2 : ¬ (w.heap.size + 1 + 1 = w.heap.size + 1) := by omega
  have hx3 : ¬ (w.heap.size + 1 = w.heap.size + 1 + 1) := by omega
  have hx4 : ¬ (w.heap.size + 1 = w.heap.size) := by omega
  have hx5 : ¬ (w.heap.size = w.heap.size + 1) := by omega
  have x9 := X.c9
  have x10 := X.c10
  have e0 := V.c0
  have d0 := V.f0
  have r0 := R.c0
  have t0 := R.f0
  have e1 := V.c1
  have d1 := V.f1
  have r1 := R.c1
  have t1 := R.f1
  have e2 := V.c2
  have d2 := V.f2
  have r2 := R.c2
  have t2 := R.f2
  have e3 := V.c3
  have d3 := V.f3
  have r3 := R.c3
  have t3 := R.f3
  have e4 := V.c4
  have d4 := V.f4
  have r4 := R.c4
  have t4 := R.f4
  have e5 := V.c5
  have d5 := V.f5
  have r5 := R.c5
  have t5 := R.f5
  have e6 := V.c6
  have d6 := V.f6
  have r6 := R.c6
  have t6 := R.f6
  have e7 := V.c7
  have d7 := V.f7
  have r7 := R.c7
  have t7 := R.f7
  have e8 := V.c8
  have d8 := V.f8
  have r8 := R.c8
  have t8 := R.f8
  have e9 := V.c9
  have d9 := V.f9
  have r9 := R.c9
  have t9 := R.f9
  have e10 := V.c10
  have d10 := V.f10
  have r10 := R.c10
  have t10 := R.f10
  have HB : Hid (Below w.heap.size w _) := ((((((((((((((((((((((B.setCell (p := ⟨w.heap.size + 1 + 1, 0, none⟩) (by show w.heap.size ≤ w.heap.size + 1 + 1; omega) (.bool g)).setCell (p := ⟨w.heap.size + 1 + 1, 1, none⟩) (by show w.heap.size ≤ w.heap.size + 1 + 1; omega) (.int .i64 m)).setCell (p := ⟨w.heap.size + 1 + 1, 2, none⟩) (by show w.heap.size ≤ w.heap.size + 1 + 1; omega) (.int .i64 n)).setCell (p := ⟨w.heap.size + 1 + 1, 3, none⟩) (by show w.heap.size ≤ w.heap.size + 1 + 1; omega) (.bool g')).setCell (p := ⟨w.heap.size + 1 + 1, 4, none⟩) (by show w.heap.size ≤ w.heap.size + 1 + 1; omega) (.int .i64 m')).setCell (p := ⟨w.heap.size + 1 + 1, 5, none⟩) (by show w.heap.size ≤ w.heap.size + 1 + 1; omega) (.int .i64 n')).setCell (p := ⟨w.heap.size + 1 + 1, 6, none⟩) (by show w.heap.size ≤ w.heap.size + 1 + 1; omega) (.int .i64 md)).setCell (p := ⟨w.heap.size + 1 + 1, 7, none⟩) (by show w.heap.size ≤ w.heap.size + 1 + 1; omega) (.int .i64 po)).setCell (p := ⟨w.heap.size + 1 + 1, 8, none⟩) (by show w.heap.size ≤ w.heap.size + 1 + 1; omega) (.bool tn)).setCell (p := ⟨w.heap.size + 1 + 1, 9, none⟩) (by show w.heap.size ≤ w.heap.size + 1 + 1; omega) (.bool se)).setCell (p := ⟨w.heap.size + 1 + 1, 10, none⟩) (by show w.heap.size ≤ w.heap.size + 1 + 1; omega) (.int .i64 dn)).setCell (p := ⟨w.heap.size + 1, 0, none⟩) (by show w.heap.size ≤ w.heap.size + 1; omega) (.bool g)).setCell (p := ⟨w.heap.size + 1, 1, none⟩) (by show w.heap.size ≤ w.heap.size + 1; omega) (.int .i64 m)).setCell (p := ⟨w.heap.size + 1, 2, none⟩) (by show w.heap.size ≤ w.heap.size + 1; omega) (.int .i64 n)).setCell (p := ⟨w.heap.size + 1, 3, none⟩) (by show w.heap.size ≤ w.heap.size + 1; omega) (.bool g')).setCell (p := ⟨w.heap.size + 1, 4, none⟩) (by show w.heap.size ≤ w.heap.size + 1; omega) (.int .i64 m')).setCell (p := ⟨w.heap.size + 1, 5, none⟩) (by show w.heap.size ≤ w.heap.size + 1; omega) (.int .i64 n')).setCell (p := ⟨w.heap.size + 1, 6, none⟩) (by show w.heap.size ≤ w.heap.size + 1; omega) (.int .i64 md)).setCell (p := ⟨w.heap.size + 1, 7, none⟩) (by show w.heap.size ≤ w.heap.size + 1; omega) (.int .i64 po)).setCell (p := ⟨w.heap.size + 1, 8, none⟩) (by show w.heap.size ≤ w.heap.size + 1; omega) (.bool tn)).setCell (p := ⟨w.heap.size + 1, 9, none⟩) (by show w.heap.size ≤ w.heap.size + 1; omega) (.bool se)).setCell (p := ⟨w.heap.size + 1, 10, none⟩) (by show w.heap.size ≤ w.heap.size + 1; omega) (.int .i64 dn))
  clear X R V B 
  go_wp2
  (try simp only [Exit.inBlock, Exit.then])
  refine bodyPost_ret (v := .agg #[.bool g, .int .i64 m, .int .i64 n, .bool g', .int .i64 m', .int .i64 n', .int .i64 md, .int .i64 po, .bool tn, .bool se, .int .i64 dn]) ?_ rfl ⟨rfl, HB.out⟩
  rw [results_cell1 rfl]
  go_simp

def engR (g : Bool) (m n : Int) (g' : Bool) (m' n' : Int) (md po : Int) (tn : Bool) (se : Bool) (dn : Int) : Bool := decide (0 ≤ dn ∧ dn ≤ 1000000) && (if se then confR g m n g' m' n' md po tn else (g == false && m == 0 && n == 0 && g' == false && m' == 0 && n' == 0 && md == 0 && po == 0 && tn == false))

set_option maxRecDepth 20000 in
set_option maxHeartbeats 3200000 in
theorem sEngineOk (g : Bool) (m n : Int) (g' : Bool) (m' n' : Int) (md po : Int) (tn : Bool) (se : Bool) (dn : Int) (w : World) :
    Calls Try.prog 29 #[vE g m n g' m' n' md po tn se dn] w fun e w' => e = .returned (.bool (engR g m n g' m' n' md po tn se dn)) ∧ Below w.heap.size w w' := by
  have kC := fun W => sConfOk g m n g' m' n' md po tn W
  have X := Bx11.made w (.bool g) (.int .i64 m) (.int .i64 n) (.bool g') (.int .i64 m') (.int .i64 n') (.int .i64 md) (.int .i64 po) (.bool tn) (.bool se) (.int .i64 dn) 49
  have B := below1 w (.cells #[.bool g, .int .i64 m, .int .i64 n, .bool g', .int .i64 m', .int .i64 n', .int .i64 md, .int .i64 po, .bool tn, .bool se, .int .i64 dn] 49)
  unfold engR
  have kI := fun W => inAt dn 0 1000000 W
  by_cases h : 0 ≤ dn ∧ dn ≤ 1000000
  · rw [decide_eq_true h] at *
    obtain ⟨h0, h1⟩ := h
    have h0' : ¬ dn < 0 := by omega
    have h1' : ¬ dn > 1000000 := by omega
    cases se
    · have hz : (Bool.and true (if (false : Bool) = true then confR g m n g' m' n' md po tn else (g == false && m == 0 && n == 0 && g' == false && m' == 0 && n' == 0 && md == 0 && po == 0 && tn == false))) = (g == false && m == 0 && n == 0 && g' == false && m' == 0 && n' == 0 && md == 0 && po == 0 && tn == false) := by simp
      show Calls _ _ _ _ fun e w' => e = .returned (.bool (Bool.and true (if (false : Bool) = true then confR g m n g' m' n' md po tn else (g == false && m == 0 && n == 0 && g' == false && m' == 0 && n' == 0 && md == 0 && po == 0 && tn == false)))) ∧ _
      rw [hz]
      clear hz kC
      go_enter Try.func29, Try.ntmps29
      go_wp2_with fail
      refine (kI _).mono ?_
      generalize w.alloc (.cells #[.bool g, .int .i64 m, .int .i64 n, .bool g', .int .i64 m', .int .i64 n', .int .i64 md, .int .i64 po, .bool tn, .bool false, .int .i64 dn] 49) = w0 at *
      rintro e w1 ⟨rfl, rfl⟩
      have c0 := X.c0
      have c1 := X.c1
      have c2 := X.c2
      have c3 := X.c3
      have c4 := X.c4
      have c5 := X.c5
      have c6 := X.c6
      have c7 := X.c7
      have c8 := X.c8
      have c9 := X.c9
      have c10 := X.c10
      clear X
      go_wp2
      all_goals (go_ret; refine ⟨?_, by first | exact B | exact below1 _ _⟩; clear B; simp_all)
    · have hz : (Bool.and true (if (true : Bool) = true then confR g m n g' m' n' md po tn else (g == false && m == 0 && n == 0 && g' == false && m' == 0 && n' == 0 && md == 0 && po == 0 && tn == false))) = confR g m n g' m' n' md po tn := by simp
      show Calls _ _ _ _ fun e w' => e = .returned (.bool (Bool.and true (if (true : Bool) = true then confR g m n g' m' n' md po tn else (g == false && m == 0 && n == 0 && g' == false && m' == 0 && n' == 0 && md == 0 && po == 0 && tn == false)))) ∧ _
      rw [hz]
      clear hz
      generalize confR g m n g' m' n' md po tn = r at *
      go_enter Try.func29, Try.ntmps29
      go_wp2_with fail
      refine (kI _).mono ?_
      generalize w.alloc (.cells #[.bool g, .int .i64 m, .int .i64 n, .bool g', .int .i64 m', .int .i64 n', .int .i64 md, .int .i64 po, .bool tn, .bool true, .int .i64 dn] 49) = w0 at *
      rintro e w1 ⟨rfl, rfl⟩
      have c0 := X.c0
      have c1 := X.c1
      have c2 := X.c2
      have c3 := X.c3
      have c4 := X.c4
      have c5 := X.c5
      have c6 := X.c6
      have c7 := X.c7
      have c8 := X.c8
      have c9 := X.c9
      have c10 := X.c10
      clear X
      go_wp2_with fail
      refine (kC _).mono ?_
      rintro e w2 ⟨rfl, b2⟩
      have B := B.trans (b2.mono B.size)
      go_wp2
      go_ret
      exact ⟨rfl, B⟩
  · rw [decide_eq_false h] at kI
    rw [decide_eq_false h, Bool.false_and]
    clear kC
    go_enter Try.func29, Try.ntmps29
    go_wp2_with fail
    refine (kI _).mono ?_
    rintro e w1 ⟨rfl, rfl⟩
    go_wp2
    go_ret
    exact ⟨rfl, B⟩

set_option maxRecDepth 20000 in
set_option maxHeartbeats 3200000 in
theorem iEngineOk (g : Bool) (m n : Int) (g' : Bool) (m' n' : Int) (md po : Int) (tn : Bool) (se : Bool) (dn : Int) (w : World) :
    Calls Try.prog 31 #[vE g m n g' m' n' md po tn se dn] w fun e w' => e = .returned (.bool (engR g m n g' m' n' md po tn se dn)) ∧ Below w.heap.size w w' := by
  have kC := fun W => iConfOk g m n g' m' n' md po tn W
  have X := Bx11.made w (.bool g) (.int .i64 m) (.int .i64 n) (.bool g') (.int .i64 m') (.int .i64 n') (.int .i64 md) (.int .i64 po) (.bool tn) (.bool se) (.int .i64 dn) 49
  have B := below1 w (.cells #[.bool g, .int .i64 m, .int .i64 n, .bool g', .int .i64 m', .int .i64 n', .int .i64 md, .int .i64 po, .bool tn, .bool se, .int .i64 dn] 49)
  unfold engR
  by_cases h : 0 ≤ dn ∧ dn ≤ 1000000
  · rw [decide_eq_true h] at *
    obtain ⟨h0, h1⟩ := h
    have h0' : ¬ dn < 0 := by omega
    have h1' : ¬ dn > 1000000 := by omega
    cases se
    · have hz : (Bool.and true (if (false : Bool) = true then confR g m n g' m' n' md po tn else (g == false && m == 0 && n == 0 && g' == false && m' == 0 && n' == 0 && md == 0 && po == 0 && tn == false))) = (g == false && m == 0 && n == 0 && g' == false && m' == 0 && n' == 0 && md == 0 && po == 0 && tn == false) := by simp
      show Calls _ _ _ _ fun e w' => e = .returned (.bool (Bool.and true (if (false : Bool) = true then confR g m n g' m' n' md po tn else (g == false && m == 0 && n == 0 && g' == false && m' == 0 && n' == 0 && md == 0 && po == 0 && tn == false)))) ∧ _
      rw [hz]
      clear hz kC
      go_enter Try.func31, Try.ntmps31
      go_wp2
      all_goals (go_ret; refine ⟨?_, by first | exact B | exact below1 _ _⟩; clear B; simp_all)
    · have hz : (Bool.and true (if (true : Bool) = true then confR g m n g' m' n' md po tn else (g == false && m == 0 && n == 0 && g' == false && m' == 0 && n' == 0 && md == 0 && po == 0 && tn == false))) = confR g m n g' m' n' md po tn := by simp
      show Calls _ _ _ _ fun e w' => e = .returned (.bool (Bool.and true (if (true : Bool) = true then confR g m n g' m' n' md po tn else (g == false && m == 0 && n == 0 && g' == false && m' == 0 && n' == 0 && md == 0 && po == 0 && tn == false)))) ∧ _
      rw [hz]
      clear hz
      generalize confR g m n g' m' n' md po tn = r at *
      go_enter Try.func31, Try.ntmps31
      go_wp2_with fail
      refine (kC _).mono ?_
      rintro e w2 ⟨rfl, b2⟩
      have B := B.trans (b2.mono B.size)
      go_wp2
      go_ret
      exact ⟨rfl, B⟩
  · rw [decide_eq_false h, Bool.false_and]
    clear kC
    by_cases h0 : dn < 0
    · go_enter Try.func31, Try.ntmps31
      go_wp2
      go_ret
      exact ⟨rfl, B⟩
    · have h1 : 1000000 < dn := by omega
      clear h
      go_enter Try.func31, Try.ntmps31
      go_wp2
      go_ret
      exact ⟨rfl, B⟩

set_option maxRecDepth 20000 in
set_option maxHeartbeats 3200000 in
theorem walkEngineOk (g : Bool) (m n : Int) (g' : Bool) (m' n' : Int) (md po : Int) (tn : Bool) (se : Bool) (dn : Int) (w : World) :
    Calls Try.prog 8 #[vE g m n g' m' n' md po tn se dn] w fun e w' => e = .returned (.bool true) ∧ Below w.heap.size w w' := by
  have kT := fun W => toE g m n g' m' n' md po tn se dn W
  have kS := fun W => sEngineOk g m n g' m' n' md po tn se dn W
  have kI := fun W => iEngineOk g m n g' m' n' md po tn se dn W
  generalize engR g m n g' m' n' md po tn se dn = r at *
  have er : (r != r) = false := by simp
  have X := Bx11.made w (.bool g) (.int .i64 m) (.int .i64 n) (.bool g') (.int .i64 m') (.int .i64 n') (.int .i64 md) (.int .i64 po) (.bool tn) (.bool se) (.int .i64 dn) 43
  have B := below1 w (.cells #[.bool g, .int .i64 m, .int .i64 n, .bool g', .int .i64 m', .int .i64 n', .int .i64 md, .int .i64 po, .bool tn, .bool se, .int .i64 dn] 43)
  go_enter Try.func8, Try.ntmps8
  go_wp2_with fail
  refine (kT _).mono ?_
  generalize w.alloc (.cells #[.bool g, .int .i64 m, .int .i64 n, .bool g', .int .i64 m', .int .i64 n', .int .i64 md, .int .i64 po, .bool tn, .bool se, .int .i64 dn] 43) = w0 at *
  rintro e w1 ⟨rfl, b1⟩
  have X := X.below b1 (Nat.le_refl _)
  have B := B.trans (b1.mono B.size)
  have c0 := X.c0
  have c1 := X.c1
  have c2 := X.c2
  have c3 := X.c3
  have c4 := X.c4
  have c5 := X.c5
  have c6 := X.c6
  have c7 := X.c7
  have c8 := X.c8
  have c9 := X.c9
  have c10 := X.c10
  go_wp2_with fail
  clear c0 c1 c2 c3 c4 c5 c6 c7 c8 c9 c10
  refine (kS _).mono ?_
  rintro e w2 ⟨rfl, b2⟩
  have X := X.below b2 (Nat.le_refl _)
  have B := B.trans (b2.mono B.size)
  have c0 := X.c0
  have c1 := X.c1
  have c2 := X.c2
  have c3 := X.c3
  have c4 := X.c4
  have c5 := X.c5
  have c6 := X.c6
  have c7 := X.c7
  have c8 := X.c8
  have c9 := X.c9
  have c10 := X.c10
  go_wp2_with fail
  clear c0 c1 c2 c3 c4 c5 c6 c7 c8 c9 c10
  refine (kT _).mono ?_
  rintro e w3 ⟨rfl, b3⟩
  have X := X.below b3 (Nat.le_refl _)
  have B := B.trans (b3.mono B.size)
  have c0 := X.c0
  have c1 := X.c1
  have c2 := X.c2
  have c3 := X.c3
  have c4 := X.c4
  have c5 := X.c5
  have c6 := X.c6
  have c7 := X.c7
  have c8 := X.c8
  have c9 := X.c9
  have c10 := X.c10
  go_wp2_with fail
  clear c0 c1 c2 c3 c4 c5 c6 c7 c8 c9 c10
  refine (kI _).mono ?_
  rintro e w4 ⟨rfl, b4⟩
  have B := B.trans (b4.mono B.size)
  clear X
  go_wp2
  go_ret
  exact ⟨rfl, B⟩

end Go.Proofs.Ytocaaklhlmnonaa
