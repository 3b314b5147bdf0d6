/- The box of a Conf, and the law's own toConf, by its contract. -/
import Derived.Test.YtocaaklhlmnonaaFmtR
import Derived.Test.YtocaaklhlmnonaaToW
namespace Go.Proofs.Ytocaaklhlmnonaa
open Go.RowKit
set_option linter.unusedSimpArgs false

theorem tnC (w : World) (b i : Nat) (x : Value) : Tn [b] w (w.setCell ⟨b, i, none⟩ x) :=
  ⟨rfl, rfl, rfl, by simp [World.setCell], fun k _ hn => Below.heap_setCell _ _ _ _ (fun e => hn (by simp [e]))⟩
/-- The box of a variable of 9 cells. -/
structure Bx9 (w : World) (base b : Nat) (x0 x1 x2 x3 x4 x5 x6 x7 x8 : Value) : Prop where
  lo : base ≤ b
  hi : b < w.heap.size
  c0 : w.cell? ⟨b, 0, none⟩ = some x0
  c1 : w.cell? ⟨b, 1, none⟩ = some x1
  c2 : w.cell? ⟨b, 2, none⟩ = some x2
  c3 : w.cell? ⟨b, 3, none⟩ = some x3
  c4 : w.cell? ⟨b, 4, none⟩ = some x4
  c5 : w.cell? ⟨b, 5, none⟩ = some x5
  c6 : w.cell? ⟨b, 6, none⟩ = some x6
  c7 : w.cell? ⟨b, 7, none⟩ = some x7
  c8 : w.cell? ⟨b, 8, none⟩ = some x8
  f0 : w.frozen? ⟨b, 0, none⟩ = false
  f1 : w.frozen? ⟨b, 1, none⟩ = false
  f2 : w.frozen? ⟨b, 2, none⟩ = false
  f3 : w.frozen? ⟨b, 3, none⟩ = false
  f4 : w.frozen? ⟨b, 4, none⟩ = false
  f5 : w.frozen? ⟨b, 5, none⟩ = false
  f6 : w.frozen? ⟨b, 6, none⟩ = false
  f7 : w.frozen? ⟨b, 7, none⟩ = false
  f8 : w.frozen? ⟨b, 8, none⟩ = false
theorem Bx9.made (w : World) (x0 x1 x2 x3 x4 x5 x6 x7 x8 : Value) (t : TypeId) : Bx9 (w.alloc (.cells #[x0, x1, x2, x3, x4, x5, x6, x7, x8] t)) w.heap.size w.heap.size x0 x1 x2 x3 x4 x5 x6 x7 x8 :=
  ⟨Nat.le_refl _, by simp, by simp, by simp, by simp, by simp, by simp, by simp, by simp, by simp, by simp, by simp, by simp, by simp, by simp, by simp, by simp, by simp, by simp, by simp⟩
theorem Bx9.below {w w' : World} {base b B : Nat} {x0 x1 x2 x3 x4 x5 x6 x7 x8 : Value} (h : Bx9 w base b x0 x1 x2 x3 x4 x5 x6 x7 x8) (hb : Below B w w') (hB : w.heap.size ≤ B) : Bx9 w' base b x0 x1 x2 x3 x4 x5 x6 x7 x8 :=
  have hlt : b < B := Nat.lt_of_lt_of_le h.hi hB
  ⟨h.lo, Nat.lt_of_lt_of_le h.hi hb.size, (hb.cell (p := ⟨b, 0, none⟩) hlt).trans h.c0, (hb.cell (p := ⟨b, 1, none⟩) hlt).trans h.c1, (hb.cell (p := ⟨b, 2, none⟩) hlt).trans h.c2, (hb.cell (p := ⟨b, 3, none⟩) hlt).trans h.c3, (hb.cell (p := ⟨b, 4, none⟩) hlt).trans h.c4, (hb.cell (p := ⟨b, 5, none⟩) hlt).trans h.c5, (hb.cell (p := ⟨b, 6, none⟩) hlt).trans h.c6, (hb.cell (p := ⟨b, 7, none⟩) hlt).trans h.c7, (hb.cell (p := ⟨b, 8, none⟩) hlt).trans h.c8, (hb.frozen (p := ⟨b, 0, none⟩) hlt).trans h.f0, (hb.frozen (p := ⟨b, 1, none⟩) hlt).trans h.f1, (hb.frozen (p := ⟨b, 2, none⟩) hlt).trans h.f2, (hb.frozen (p := ⟨b, 3, none⟩) hlt).trans h.f3, (hb.frozen (p := ⟨b, 4, none⟩) hlt).trans h.f4, (hb.frozen (p := ⟨b, 5, none⟩) hlt).trans h.f5, (hb.frozen (p := ⟨b, 6, none⟩) hlt).trans h.f6, (hb.frozen (p := ⟨b, 7, none⟩) hlt).trans h.f7, (hb.frozen (p := ⟨b, 8, none⟩) hlt).trans h.f8⟩
theorem Bx9.mono {w : World} {base base' b : Nat} {x0 x1 x2 x3 x4 x5 x6 x7 x8 : Value} (h : Bx9 w base b x0 x1 x2 x3 x4 x5 x6 x7 x8) (hb : base' ≤ base) : Bx9 w base' b x0 x1 x2 x3 x4 x5 x6 x7 x8 :=
  ⟨Nat.le_trans hb h.lo, h.hi, h.c0, h.c1, h.c2, h.c3, h.c4, h.c5, h.c6, h.c7, h.c8, h.f0, h.f1, h.f2, h.f3, h.f4, h.f5, h.f6, h.f7, h.f8⟩
theorem Bx9.ltb {w : World} {base b : Nat} {x0 x1 x2 x3 x4 x5 x6 x7 x8 : Value} (h : Bx9 w base b x0 x1 x2 x3 x4 x5 x6 x7 x8) : ∀ k ∈ [b], base ≤ k ∧ k < w.heap.size := fun k hk => by
  simp at hk
  subst hk
  exact ⟨h.lo, h.hi⟩
theorem Bx9.tn {w w' : World} {base b : Nat} {x0 x1 x2 x3 x4 x5 x6 x7 x8 : Value} {S : List Nat} (h : Bx9 w base b x0 x1 x2 x3 x4 x5 x6 x7 x8) (ht : Tn S w w') (ha : Apart [b] S) : Bx9 w' base b x0 x1 x2 x3 x4 x5 x6 x7 x8 := by
  have hk := ht.block b h.hi (ha b (by simp))
  have hc := fun i => World.cell?_of_block (w := w) (w' := w') (a := ⟨b, i, none⟩) hk
  have hf := fun i => World.frozen?_of_block (w := w) (w' := w') (a := ⟨b, i, none⟩) hk
  exact ⟨h.lo, Nat.lt_of_lt_of_le h.hi ht.size, (hc 0).trans h.c0, (hc 1).trans h.c1, (hc 2).trans h.c2, (hc 3).trans h.c3, (hc 4).trans h.c4, (hc 5).trans h.c5, (hc 6).trans h.c6, (hc 7).trans h.c7, (hc 8).trans h.c8, (hf 0).trans h.f0, (hf 1).trans h.f1, (hf 2).trans h.f2, (hf 3).trans h.f3, (hf 4).trans h.f4, (hf 5).trans h.f5, (hf 6).trans h.f6, (hf 7).trans h.f7, (hf 8).trans h.f8⟩
theorem Bx9.set0 {w : World} {base b : Nat} {x0 x1 x2 x3 x4 x5 x6 x7 x8 : Value} (h : Bx9 w base b x0 x1 x2 x3 x4 x5 x6 x7 x8) (x : Value) : Bx9 (w.setCell ⟨b, 0, none⟩ x) base b x x1 x2 x3 x4 x5 x6 x7 x8 :=
  have c0 := h.c0; have c1 := h.c1; have c2 := h.c2; have c3 := h.c3; have c4 := h.c4; have c5 := h.c5; have c6 := h.c6; have c7 := h.c7; have c8 := h.c8; have f0 := h.f0; have f1 := h.f1; have f2 := h.f2; have f3 := h.f3; have f4 := h.f4; have f5 := h.f5; have f6 := h.f6; have f7 := h.f7; have f8 := h.f8
  ⟨h.lo, by have := h.hi; simpa [World.setCell] using this, World.cell?_setCell_same _ _ _ c0, (World.cell?_setCell_other _ _ _ _ (by simp)).trans c1, (World.cell?_setCell_other _ _ _ _ (by simp)).trans c2, (World.cell?_setCell_other _ _ _ _ (by simp)).trans c3, (World.cell?_setCell_other _ _ _ _ (by simp)).trans c4, (World.cell?_setCell_other _ _ _ _ (by simp)).trans c5, (World.cell?_setCell_other _ _ _ _ (by simp)).trans c6, (World.cell?_setCell_other _ _ _ _ (by simp)).trans c7, (World.cell?_setCell_other _ _ _ _ (by simp)).trans c8, by simp [*], by simp [*], by simp [*], by simp [*], by simp [*], by simp [*], by simp [*], by simp [*], by simp [*]⟩
theorem Bx9.set1 {w : World} {base b : Nat} {x0 x1 x2 x3 x4 x5 x6 x7 x8 : Value} (h : Bx9 w base b x0 x1 x2 x3 x4 x5 x6 x7 x8) (x : Value) : Bx9 (w.setCell ⟨b, 1, none⟩ x) base b x0 x x2 x3 x4 x5 x6 x7 x8 :=
  have c0 := h.c0; have c1 := h.c1; have c2 := h.c2; have c3 := h.c3; have c4 := h.c4; have c5 := h.c5; have c6 := h.c6; have c7 := h.c7; have c8 := h.c8; have f0 := h.f0; have f1 := h.f1; have f2 := h.f2; have f3 := h.f3; have f4 := h.f4; have f5 := h.f5; have f6 := h.f6; have f7 := h.f7; have f8 := h.f8
  ⟨h.lo, by have := h.hi; simpa [World.setCell] using this, (World.cell?_setCell_other _ _ _ _ (by simp)).trans c0, World.cell?_setCell_same _ _ _ c1, (World.cell?_setCell_other _ _ _ _ (by simp)).trans c2, (World.cell?_setCell_other _ _ _ _ (by simp)).trans c3, (World.cell?_setCell_other _ _ _ _ (by simp)).trans c4, (World.cell?_setCell_other _ _ _ _ (by simp)).trans c5, (World.cell?_setCell_other _ _ _ _ (by simp)).trans c6, (World.cell?_setCell_other _ _ _ _ (by simp)).trans c7, (World.cell?_setCell_other _ _ _ _ (by simp)).trans c8, by simp [*], by simp [*], by simp [*], by simp [*], by simp [*], by simp [*], by simp [*], by simp [*], by simp [*]⟩
theorem Bx9.set2 {w : World} {base b : Nat} {x0 x1 x2 x3 x4 x5 x6 x7 x8 : Value} (h : Bx9 w base b x0 x1 x2 x3 x4 x5 x6 x7 x8) (x : Value) : Bx9 (w.setCell ⟨b, 2, none⟩ x) base b x0 x1 x x3 x4 x5 x6 x7 x8 :=
  have c0 := h.c0; have c1 := h.c1; have c2 := h.c2; have c3 := h.c3; have c4 := h.c4; have c5 := h.c5; have c6 := h.c6; have c7 := h.c7; have c8 := h.c8; have f0 := h.f0; have f1 := h.f1; have f2 := h.f2; have f3 := h.f3; have f4 := h.f4; have f5 := h.f5; have f6 := h.f6; have f7 := h.f7; have f8 := h.f8
  ⟨h.lo, by have := h.hi; simpa [World.setCell] using this, (World.cell?_setCell_other _ _ _ _ (by simp)).trans c0, (World.cell?_setCell_other _ _ _ _ (by simp)).trans c1, World.cell?_setCell_same _ _ _ c2, (World.cell?_setCell_other _ _ _ _ (by simp)).trans c3, (World.cell?_setCell_other _ _ _ _ (by simp)).trans c4, (World.cell?_setCell_other _ _ _ _ (by simp)).trans c5, (World.cell?_setCell_other _ _ _ _ (by simp)).trans c6, (World.cell?_setCell_other _ _ _ _ (by simp)).trans c7, (World.cell?_setCell_other _ _ _ _ (by simp)).trans c8, by simp [*], by simp [*], by simp [*], by simp [*], by simp [*], by simp [*], by simp [*], by simp [*], by simp [*]⟩
theorem Bx9.set3 {w : World} {base b : Nat} {x0 x1 x2 x3 x4 x5 x6 x7 x8 : Value} (h : Bx9 w base b x0 x1 x2 x3 x4 x5 x6 x7 x8) (x : Value) : Bx9 (w.setCell ⟨b, 3, none⟩ x) base b x0 x1 x2 x x4 x5 x6 x7 x8 :=
  have c0 := h.c0; have c1 := h.c1; have c2 := h.c2; have c3 := h.c3; have c4 := h.c4; have c5 := h.c5; have c6 := h.c6; have c7 := h.c7; have c8 := h.c8; have f0 := h.f0; have f1 := h.f1; have f2 := h.f2; have f3 := h.f3; have f4 := h.f4; have f5 := h.f5; have f6 := h.f6; have f7 := h.f7; have f8 := h.f8
  ⟨h.lo, by have := h.hi; simpa [World.setCell] using this, (World.cell?_setCell_other _ _ _ _ (by simp)).trans c0, (World.cell?_setCell_other _ _ _ _ (by simp)).trans c1, (World.cell?_setCell_other _ _ _ _ (by simp)).trans c2, World.cell?_setCell_same _ _ _ c3, (World.cell?_setCell_other _ _ _ _ (by simp)).trans c4, (World.cell?_setCell_other _ _ _ _ (by simp)).trans c5, (World.cell?_setCell_other _ _ _ _ (by simp)).trans c6, (World.cell?_setCell_other _ _ _ _ (by simp)).trans c7, (World.cell?_setCell_other _ _ _ _ (by simp)).trans c8, by simp [*], by simp [*], by simp [*], by simp [*], by simp [*], by simp [*], by simp [*], by simp [*], by simp [*]⟩
theorem Bx9.set4 {w : World} {base b : Nat} {x0 x1 x2 x3 x4 x5 x6 x7 x8 : Value} (h : Bx9 w base b x0 x1 x2 x3 x4 x5 x6 x7 x8) (x : Value) : Bx9 (w.setCell ⟨b, 4, none⟩ x) base b x0 x1 x2 x3 x x5 x6 x7 x8 :=
  have c0 := h.c0; have c1 := h.c1; have c2 := h.c2; have c3 := h.c3; have c4 := h.c4; have c5 := h.c5; have c6 := h.c6; have c7 := h.c7; have c8 := h.c8; have f0 := h.f0; have f1 := h.f1; have f2 := h.f2; have f3 := h.f3; have f4 := h.f4; have f5 := h.f5; have f6 := h.f6; have f7 := h.f7; have f8 := h.f8
  ⟨h.lo, by have := h.hi; simpa [World.setCell] using this, (World.cell?_setCell_other _ _ _ _ (by simp)).trans c0, (World.cell?_setCell_other _ _ _ _ (by simp)).trans c1, (World.cell?_setCell_other _ _ _ _ (by simp)).trans c2, (World.cell?_setCell_other _ _ _ _ (by simp)).trans c3, World.cell?_setCell_same _ _ _ c4, (World.cell?_setCell_other _ _ _ _ (by simp)).trans c5, (World.cell?_setCell_other _ _ _ _ (by simp)).trans c6, (World.cell?_setCell_other _ _ _ _ (by simp)).trans c7, (World.cell?_setCell_other _ _ _ _ (by simp)).trans c8, by simp [*], by simp [*], by simp [*], by simp [*], by simp [*], by simp [*], by simp [*], by simp [*], by simp [*]⟩
theorem Bx9.set5 {w : World} {base b : Nat} {x0 x1 x2 x3 x4 x5 x6 x7 x8 : Value} (h : Bx9 w base b x0 x1 x2 x3 x4 x5 x6 x7 x8) (x : Value) : Bx9 (w.setCell ⟨b, 5, none⟩ x) base b x0 x1 x2 x3 x4 x x6 x7 x8 :=
  have c0 := h.c0; have c1 := h.c1; have c2 := h.c2; have c3 := h.c3; have c4 := h.c4; have c5 := h.c5; have c6 := h.c6; have c7 := h.c7; have c8 := h.c8; have f0 := h.f0; have f1 := h.f1; have f2 := h.f2; have f3 := h.f3; have f4 := h.f4; have f5 := h.f5; have f6 := h.f6; have f7 := h.f7; have f8 := h.f8
  ⟨h.lo, by have := h.hi; simpa [World.setCell] using this, (World.cell?_setCell_other _ _ _ _ (by simp)).trans c0, (World.cell?_setCell_other _ _ _ _ (by simp)).trans c1, (World.cell?_setCell_other _ _ _ _ (by simp)).trans c2, (World.cell?_setCell_other _ _ _ _ (by simp)).trans c3, (World.cell?_setCell_other _ _ _ _ (by simp)).trans c4, World.cell?_setCell_same _ _ _ c5, (World.cell?_setCell_other _ _ _ _ (by simp)).trans c6, (World.cell?_setCell_other _ _ _ _ (by simp)).trans c7, (World.cell?_setCell_other _ _ _ _ (by simp)).trans c8, by simp [*], by simp [*], by simp [*], by simp [*], by simp [*], by simp [*], by simp [*], by simp [*], by simp [*]⟩
theorem Bx9.set6 {w : World} {base b : Nat} {x0 x1 x2 x3 x4 x5 x6 x7 x8 : Value} (h : Bx9 w base b x0 x1 x2 x3 x4 x5 x6 x7 x8) (x : Value) : Bx9 (w.setCell ⟨b, 6, none⟩ x) base b x0 x1 x2 x3 x4 x5 x x7 x8 :=
  have c0 := h.c0; have c1 := h.c1; have c2 := h.c2; have c3 := h.c3; have c4 := h.c4; have c5 := h.c5; have c6 := h.c6; have c7 := h.c7; have c8 := h.c8; have f0 := h.f0; have f1 := h.f1; have f2 := h.f2; have f3 := h.f3; have f4 := h.f4; have f5 := h.f5; have f6 := h.f6; have f7 := h.f7; have f8 := h.f8
  ⟨h.lo, by have := h.hi; simpa [World.setCell] using this, (World.cell?_setCell_other _ _ _ _ (by simp)).trans c0, (World.cell?_setCell_other _ _ _ _ (by simp)).trans c1, (World.cell?_setCell_other _ _ _ _ (by simp)).trans c2, (World.cell?_setCell_other _ _ _ _ (by simp)).trans c3, (World.cell?_setCell_other _ _ _ _ (by simp)).trans c4, (World.cell?_setCell_other _ _ _ _ (by simp)).trans c5, World.cell?_setCell_same _ _ _ c6, (World.cell?_setCell_other _ _ _ _ (by simp)).trans c7, (World.cell?_setCell_other _ _ _ _ (by simp)).trans c8, by simp [*], by simp [*], by simp [*], by simp [*], by simp [*], by simp [*], by simp [*], by simp [*], by simp [*]⟩
theorem Bx9.set7 {w : World} {base b : Nat} {x0 x1 x2 x3 x4 x5 x6 x7 x8 : Value} (h : Bx9 w base b x0 x1 x2 x3 x4 x5 x6 x7 x8) (x : Value) : Bx9 (w.setCell ⟨b, 7, none⟩ x) base b x0 x1 x2 x3 x4 x5 x6 x x8 :=
  have c0 := h.c0; have c1 := h.c1; have c2 := h.c2; have c3 := h.c3; have c4 := h.c4; have c5 := h.c5; have c6 := h.c6; have c7 := h.c7; have c8 := h.c8; have f0 := h.f0; have f1 := h.f1; have f2 := h.f2; have f3 := h.f3; have f4 := h.f4; have f5 := h.f5; have f6 := h.f6; have f7 := h.f7; have f8 := h.f8
  ⟨h.lo, by have := h.hi; simpa [World.setCell] using this, (World.cell?_setCell_other _ _ _ _ (by simp)).trans c0, (World.cell?_setCell_other _ _ _ _ (by simp)).trans c1, (World.cell?_setCell_other _ _ _ _ (by simp)).trans c2, (World.cell?_setCell_other _ _ _ _ (by simp)).trans c3, (World.cell?_setCell_other _ _ _ _ (by simp)).trans c4, (World.cell?_setCell_other _ _ _ _ (by simp)).trans c5, (World.cell?_setCell_other _ _ _ _ (by simp)).trans c6, World.cell?_setCell_same _ _ _ c7, (World.cell?_setCell_other _ _ _ _ (by simp)).trans c8, by simp [*], by simp [*], by simp [*], by simp [*], by simp [*], by simp [*], by simp [*], by simp [*], by simp [*]⟩
theorem Bx9.set8 {w : World} {base b : Nat} {x0 x1 x2 x3 x4 x5 x6 x7 x8 : Value} (h : Bx9 w base b x0 x1 x2 x3 x4 x5 x6 x7 x8) (x : Value) : Bx9 (w.setCell ⟨b, 8, none⟩ x) base b x0 x1 x2 x3 x4 x5 x6 x7 x :=
  have c0 := h.c0; have c1 := h.c1; have c2 := h.c2; have c3 := h.c3; have c4 := h.c4; have c5 := h.c5; have c6 := h.c6; have c7 := h.c7; have c8 := h.c8; have f0 := h.f0; have f1 := h.f1; have f2 := h.f2; have f3 := h.f3; have f4 := h.f4; have f5 := h.f5; have f6 := h.f6; have f7 := h.f7; have f8 := h.f8
  ⟨h.lo, by have := h.hi; simpa [World.setCell] using this, (World.cell?_setCell_other _ _ _ _ (by simp)).trans c0, (World.cell?_setCell_other _ _ _ _ (by simp)).trans c1, (World.cell?_setCell_other _ _ _ _ (by simp)).trans c2, (World.cell?_setCell_other _ _ _ _ (by simp)).trans c3, (World.cell?_setCell_other _ _ _ _ (by simp)).trans c4, (World.cell?_setCell_other _ _ _ _ (by simp)).trans c5, (World.cell?_setCell_other _ _ _ _ (by simp)).trans c6, (World.cell?_setCell_other _ _ _ _ (by simp)).trans c7, World.cell?_setCell_same _ _ _ c8, by simp [*], by simp [*], by simp [*], by simp [*], by simp [*], by simp [*], by simp [*], by simp [*], by simp [*]⟩
theorem Bx9.other {w : World} {base b : Nat} {x0 x1 x2 x3 x4 x5 x6 x7 x8 : Value} (h : Bx9 w base b x0 x1 x2 x3 x4 x5 x6 x7 x8) (b' i : Nat) (hb : b ≠ b') (x : Value) : Bx9 (w.setCell ⟨b', i, none⟩ x) base b x0 x1 x2 x3 x4 x5 x6 x7 x8 :=
  h.tn (tnC w b' i x) (fun k hk hs => by simp at hk hs; omega)

abbrev vQ (g : Bool) (m n : Int) (g' : Bool) (m' n' : Int) (md po : Int) (tn : Bool) : Value := .agg #[.bool g, .int .i64 m, .int .i64 n, .bool g', .int .i64 m', .int .i64 n', .int .i64 md, .int .i64 po, .bool tn]

set_option maxRecDepth 20000 in
set_option maxHeartbeats 6400000 in
theorem toQ (g : Bool) (m n : Int) (g' : Bool) (m' n' : Int) (md po : Int) (tn : Bool) (w : World) :
    Calls Try.prog 57 #[vQ g m n g' m' n' md po tn] w fun e w' => e = .returned (vQ g m n g' m' n' md po tn) ∧ Below w.heap.size w w' := by
  have s1 : (w.alloc (.cells #[.bool g, .int .i64 m, .int .i64 n, .bool g', .int .i64 m', .int .i64 n', .int .i64 md, .int .i64 po, .bool tn] 41)).heap.size = w.heap.size + 1 := by simp
  have s2 : ((w.alloc (.cells #[.bool g, .int .i64 m, .int .i64 n, .bool g', .int .i64 m', .int .i64 n', .int .i64 md, .int .i64 po, .bool tn] 41)).alloc (.cells #[.bool false, .int .i64 0, .int .i64 0, .bool false, .int .i64 0, .int .i64 0, .int .i64 0, .int .i64 0, .bool false] 47)).heap.size = w.heap.size + 1 + 1 := by simp
  have X := ((Bx9.made w (.bool g) (.int .i64 m) (.int .i64 n) (.bool g') (.int .i64 m') (.int .i64 n') (.int .i64 md) (.int .i64 po) (.bool tn) 41).below (below1 _ (.cells #[.bool false, .int .i64 0, .int .i64 0, .bool false, .int .i64 0, .int .i64 0, .int .i64 0, .int .i64 0, .bool false] 47)) (Nat.le_refl _)).below (below1 _ (.cells #[.bool false, .int .i64 0, .int .i64 0, .bool false, .int .i64 0, .int .i64 0, .int .i64 0, .int .i64 0, .bool false] 47)) (Nat.le_refl _)
  have R := (Bx9.made (w.alloc (.cells #[.bool g, .int .i64 m, .int .i64 n, .bool g', .int .i64 m', .int .i64 n', .int .i64 md, .int .i64 po, .bool tn] 41)) (.bool false) (.int .i64 0) (.int .i64 0) (.bool false) (.int .i64 0) (.int .i64 0) (.int .i64 0) (.int .i64 0) (.bool false) 47).below (below1 _ (.cells #[.bool false, .int .i64 0, .int .i64 0, .bool false, .int .i64 0, .int .i64 0, .int .i64 0, .int .i64 0, .bool false] 47)) (Nat.le_refl _)
  have V := Bx9.made ((w.alloc (.cells #[.bool g, .int .i64 m, .int .i64 n, .bool g', .int .i64 m', .int .i64 n', .int .i64 md, .int .i64 po, .bool tn] 41)).alloc (.cells #[.bool false, .int .i64 0, .int .i64 0, .bool false, .int .i64 0, .int .i64 0, .int .i64 0, .int .i64 0, .bool false] 47)) (.bool false) (.int .i64 0) (.int .i64 0) (.bool false) (.int .i64 0) (.int .i64 0) (.int .i64 0) (.int .i64 0) (.bool false) 47
  have B := below3 w (.cells #[.bool g, .int .i64 m, .int .i64 n, .bool g', .int .i64 m', .int .i64 n', .int .i64 md, .int .i64 po, .bool tn] 41) (.cells #[.bool false, .int .i64 0, .int .i64 0, .bool false, .int .i64 0, .int .i64 0, .int .i64 0, .int .i64 0, .bool false] 47) (.cells #[.bool false, .int .i64 0, .int .i64 0, .bool false, .int .i64 0, .int .i64 0, .int .i64 0, .int .i64 0, .bool false] 47)
  rw [s1] at R
  rw [s2] at V
  clear s1 s2
  go_enter Try.func57, Try.ntmps57
  go_wp2_with fail
  refine (toF g m n _).mono ?_
  generalize ((w.alloc (.cells #[.bool g, .int .i64 m, .int .i64 n, .bool g', .int .i64 m', .int .i64 n', .int .i64 md, .int .i64 po, .bool tn] 41)).alloc (.cells #[.bool false, .int .i64 0, .int .i64 0, .bool false, .int .i64 0, .int .i64 0, .int .i64 0, .int .i64 0, .bool false] 47)).alloc (.cells #[.bool false, .int .i64 0, .int .i64 0, .bool false, .int .i64 0, .int .i64 0, .int .i64 0, .int .i64 0, .bool false] 47) = w0 at *
  rintro e w1 ⟨rfl, b1⟩
  have hV0 := V.hi
  have X1 := X.below b1 (Nat.le_refl _)
  have R1 := R.below b1 (Nat.le_refl _)
  have V1 := V.below b1 (Nat.le_refl _)
  have B1 := B.trans (b1.mono B.size)
  have hx1 : ¬ (w.heap.size + 1 + 1 = w.heap.size) := by omega
  have hx2 : ¬ (w.heap.size = w.heap.size + 1 + 1) := by omega
  have hx3 : ¬ (w.heap.size + 1 + 1 = w.heap.size + 1) := by omega
  have hx4 : ¬ (w.heap.size + 1 = w.heap.size + 1 + 1) := by omega
  have hx5 : ¬ (w.heap.size + 1 = w.heap.size) := by omega
  have hx6 : ¬ (w.heap.size = w.heap.size + 1) := by omega
  have X2 := (((X1.other (w.heap.size + 1 + 1) 0 (by omega) (.bool g)).other (w.heap.size + 1 + 1) 1 (by omega) (.int .i64 m)).other (w.heap.size + 1 + 1) 2 (by omega) (.int .i64 n))
  have R2 := (((R1.other (w.heap.size + 1 + 1) 0 (by omega) (.bool g)).other (w.heap.size + 1 + 1) 1 (by omega) (.int .i64 m)).other (w.heap.size + 1 + 1) 2 (by omega) (.int .i64 n))
  have V2 := (((V1.set0 (.bool g)).set1 (.int .i64 m)).set2 (.int .i64 n))
  have B2 := (((B1.setCell (p := ⟨w.heap.size + 1 + 1, 0, none⟩) (by show w.heap.size ≤ w.heap.size + 1 + 1; omega) (.bool g)).setCell (p := ⟨w.heap.size + 1 + 1, 1, none⟩) (by show w.heap.size ≤ w.heap.size + 1 + 1; omega) (.int .i64 m)).setCell (p := ⟨w.heap.size + 1 + 1, 2, none⟩) (by show w.heap.size ≤ w.heap.size + 1 + 1; omega) (.int .i64 n))
  have e0 := V1.c0
  have d0 := V1.f0
  have e1 := V1.c1
  have d1 := V1.f1
  have e2 := V1.c2
  have d2 := V1.f2
  have x3 := X2.c3
  have x4 := X2.c4
  have x5 := X2.c5
  clear X R V B X1 R1 V1 b1 B1
  go_wp2_with fail
  clear e0 d0 e1 d1 e2 d2 x3 x4 x5
  refine (toF g' m' n' _).mono ?_
  generalize ((w1.setCell ⟨w.heap.size + 1 + 1, 0, none⟩ (.bool g)).setCell ⟨w.heap.size + 1 + 1, 1, none⟩ (.int .i64 m)).setCell ⟨w.heap.size + 1 + 1, 2, none⟩ (.int .i64 n) = w2 at *
  rintro e w3 ⟨rfl, b3⟩
  have X3 := X2.below b3 (Nat.le_refl _)
  have R3 := R2.below b3 (Nat.le_refl _)
  have V3 := V2.below b3 (Nat.le_refl _)
  have B3 := B2.trans (b3.mono B2.size)
  have x6 := X3.c6
  have x7 := X3.c7
  have x8 := X3.c8
  have e0 := V3.c0
  have d0 := V3.f0
  have e1 := V3.c1
  have d1 := V3.f1
  have e2 := V3.c2
  have d2 := V3.f2
  have e3 := V3.c3
  have d3 := V3.f3
  have e4 := V3.c4
  have d4 := V3.f4
  have e5 := V3.c5
  have d5 := V3.f5
  have e6 := V3.c6
  have d6 := V3.f6
  have e7 := V3.c7
  have d7 := V3.f7
  have e8 := V3.c8
  have d8 := V3.f8
  have r0 := R3.c0
  have t0 := R3.f0
  have r1 := R3.c1
  have t1 := R3.f1
  have r2 := R3.c2
  have t2 := R3.f2
  have r3 := R3.c3
  have t3 := R3.f3
  have r4 := R3.c4
  have t4 := R3.f4
  have r5 := R3.c5
  have t5 := R3.f5
  have r6 := R3.c6
  have t6 := R3.f6
  have r7 := R3.c7
  have t7 := R3.f7
  have r8 := R3.c8
  have t8 := R3.f8
  have HB : Hid (Below w.heap.size w _) := (((((((((((((((B3.setCell (p := ⟨w.heap.size + 1 + 1, 3, none⟩) (by show w.heap.size ≤ w.heap.size + 1 + 1; omega) (.bool g')).setCell (p := ⟨w.heap.size + 1 + 1, 4, none⟩) (by show w.heap.size ≤ w.heap.size + 1 + 1; omega) (.int .i64 m')).setCell (p := ⟨w.heap.size + 1 + 1, 5, none⟩) (by show w.heap.size ≤ w.heap.size + 1 + 1; omega) (.int .i64 n')).setCell (p := ⟨w.heap.size + 1 + 1, 6, none⟩) (by show w.heap.size ≤ w.heap.size + 1 + 1; omega) (.int .i64 md)).setCell (p := ⟨w.heap.size + 1 + 1, 7, none⟩) (by show w.heap.size ≤ w.heap.size + 1 + 1; omega) (.int .i64 po)).setCell (p := ⟨w.heap.size + 1 + 1, 8, none⟩) (by show w.heap.size ≤ w.heap.size + 1 + 1; omega) (.bool tn)).setCell (p := ⟨w.heap.size + 1, 0, none⟩) (by show w.heap.size ≤ w.heap.size + 1; omega) (.bool g)).setCell (p := ⟨w.heap.size + 1, 1, none⟩) (by show w.heap.size ≤ w.heap.size + 1; omega) (.int .i64 m)).setCell (p := ⟨w.heap.size + 1, 2, none⟩) (by show w.heap.size ≤ w.heap.size + 1; omega) (.int .i64 n)).setCell (p := ⟨w.heap.size + 1, 3, none⟩) (by show w.heap.size ≤ w.heap.size + 1; omega) (.bool g')).setCell (p := ⟨w.heap.size + 1, 4, none⟩) (by show w.heap.size ≤ w.heap.size + 1; omega) (.int .i64 m')).setCell (p := ⟨w.heap.size + 1, 5, none⟩) (by show w.heap.size ≤ w.heap.size + 1; omega) (.int .i64 n')).setCell (p := ⟨w.heap.size + 1, 6, none⟩) (by show w.heap.size ≤ w.heap.size + 1; omega) (.int .i64 md)).setCell (p := ⟨w.heap.size + 1, 7, none⟩) (by show w.heap.size ≤ w.heap.size + 1; omega) (.int .i64 po)).setCell (p := ⟨w.heap.size + 1, 8, none⟩) (by show w.heap.size ≤ w.heap.size + 1; omega) (.bool tn))
  clear X2 R2 V2 B2 X3 R3 V3 B3 b3
  go_wp2
  (try simp only [Exit.inBlock, Exit.then])
  refine bodyPost_ret (v := .agg #[.bool g, .int .i64 m, .int .i64 n, .bool g', .int .i64 m', .int .i64 n', .int .i64 md, .int .i64 po, .bool tn]) ?_ rfl ⟨rfl, HB.out⟩
  rw [results_cell1 rfl]
  go_simp

end Go.Proofs.Ytocaaklhlmnonaa
