/- Several small texts in one: P0, ToP, ToP2. -/
import Derived.Test.YtkbnfillbdjboaaBase
/- A Spin, as the law has it: two numbers with a sign and an int in one struct (no walk). -/
namespace Go.Proofs.Ytkbnfillbdjboaa
open Go.RowKit
set_option linter.unusedSimpArgs false

abbrev Ph := (Wh × Wh) × Int
def rowP (w : World) (v : Value) (a : Ph) : Prop := ∃ s t, v = .agg #[.bool a.1.1.1, s, .bool a.1.2.1, t, .int .i64 a.2] ∧ rowI w s a.1.1.2 ∧ rowI w t a.1.2.2
def ownsP (w : World) (base : Nat) (v : Value) (a : Ph) : Prop := ∃ s t, v = .agg #[.bool a.1.1.1, s, .bool a.1.2.1, t, .int .i64 a.2] ∧ ownsI w base s a.1.1.2 ∧ ownsI w base t a.1.2.2 ∧ Apart (blkI s) (blkI t)
def blkP : Value → List Nat
  | .agg #[_, s, _, t, _] => blkI s ++ blkI t
  | _ => []
theorem ownsP.row {w : World} {base : Nat} {v : Value} {a : Ph} (h : ownsP w base v a) : rowP w v a := by
  obtain ⟨s, t, rfl, h1, h2, -⟩ := h
  exact ⟨s, t, rfl, h1.row, h2.row⟩
theorem rowP.below {w w' : World} {v : Value} {a : Ph} {B : Nat} (h : rowP w v a) (hb : Below B w w') (hB : w.heap.size ≤ B) : rowP w' v a := by
  obtain ⟨s, t, rfl, h1, h2⟩ := h
  exact ⟨s, t, rfl, h1.below hb hB, h2.below hb hB⟩
theorem ownsP.below {w w' : World} {base B : Nat} {v : Value} {a : Ph} (h : ownsP w base v a) (hb : Below B w w') (hB : w.heap.size ≤ B) : ownsP w' base v a := by
  obtain ⟨s, t, rfl, h1, h2, h3⟩ := h
  exact ⟨s, t, rfl, ownsI.below h1 hb hB, ownsI.below h2 hb hB, h3⟩
theorem ownsP.ltb {w : World} {base : Nat} {v : Value} {a : Ph} (h : ownsP w base v a) : ∀ k ∈ blkP v, base ≤ k ∧ k < w.heap.size := by
  obtain ⟨s, t, rfl, h1, h2, -⟩ := h
  intro k hk
  rcases List.mem_append.1 hk with hk | hk
  · exact h1.ltb k hk
  · exact h2.ltb k hk
theorem ownsP.tn {w w' : World} {base : Nat} {v : Value} {a : Ph} {S : List Nat} (h : ownsP w base v a) (ht : Tn S w w') (ha : Apart (blkP v) S) : ownsP w' base v a := by
  obtain ⟨s, t, rfl, h1, h2, h3⟩ := h
  exact ⟨s, t, rfl, h1.tn ht ha.left, h2.tn ht ha.right, h3⟩
theorem tnC (w : World) (b i : Nat) (x : Value) : Tn [b] w (w.setCell ⟨b, i, none⟩ x) :=
  ⟨rfl, rfl, rfl, by simp [World.setCell], fun k _ hn => Below.heap_setCell _ _ _ _ (fun e => hn (by simp [e]))⟩
/-- The box of a variable of 3 cells. -/
structure Bx3 (w : World) (base b : Nat) (x0 x1 x2 : Value) : Prop where
  lo : base ≤ b
  hi : b < w.heap.size
  c0 : w.cell? ⟨b, 0, none⟩ = some x0
  c1 : w.cell? ⟨b, 1, none⟩ = some x1
  c2 : w.cell? ⟨b, 2, none⟩ = some x2
  f0 : w.frozen? ⟨b, 0, none⟩ = false
  f1 : w.frozen? ⟨b, 1, none⟩ = false
  f2 : w.frozen? ⟨b, 2, none⟩ = false
theorem Bx3.made (w : World) (x0 x1 x2 : Value) (t : TypeId) : Bx3 (w.alloc (.cells #[x0, x1, x2] t)) w.heap.size w.heap.size x0 x1 x2 :=
  ⟨Nat.le_refl _, by simp, by simp, by simp, by simp, by simp, by simp, by simp⟩
theorem Bx3.below {w w' : World} {base b B : Nat} {x0 x1 x2 : Value} (h : Bx3 w base b x0 x1 x2) (hb : Below B w w') (hB : w.heap.size ≤ B) : Bx3 w' base b x0 x1 x2 :=
  have hlt : b < B := Nat.lt_of_lt_of_le h.hi hB
  ⟨h.lo, Nat.lt_of_lt_of_le h.hi hb.size, (hb.cell (p := ⟨b, 0, none⟩) hlt).trans h.c0, (hb.cell (p := ⟨b, 1, none⟩) hlt).trans h.c1, (hb.cell (p := ⟨b, 2, none⟩) hlt).trans h.c2, (hb.frozen (p := ⟨b, 0, none⟩) hlt).trans h.f0, (hb.frozen (p := ⟨b, 1, none⟩) hlt).trans h.f1, (hb.frozen (p := ⟨b, 2, none⟩) hlt).trans h.f2⟩
theorem Bx3.mono {w : World} {base base' b : Nat} {x0 x1 x2 : Value} (h : Bx3 w base b x0 x1 x2) (hb : base' ≤ base) : Bx3 w base' b x0 x1 x2 :=
  ⟨Nat.le_trans hb h.lo, h.hi, h.c0, h.c1, h.c2, h.f0, h.f1, h.f2⟩
theorem Bx3.ltb {w : World} {base b : Nat} {x0 x1 x2 : Value} (h : Bx3 w base b x0 x1 x2) : ∀ k ∈ [b], base ≤ k ∧ k < w.heap.size := fun k hk => by
  simp at hk
  subst hk
  exact ⟨h.lo, h.hi⟩
theorem Bx3.tn {w w' : World} {base b : Nat} {x0 x1 x2 : Value} {S : List Nat} (h : Bx3 w base b x0 x1 x2) (ht : Tn S w w') (ha : Apart [b] S) : Bx3 w' base b x0 x1 x2 := by
  have hk := ht.block b h.hi (ha b (by simp))
  have hc := fun i => World.cell?_of_block (w := w) (w' := w') (a := ⟨b, i, none⟩) hk
  have hf := fun i => World.frozen?_of_block (w := w) (w' := w') (a := ⟨b, i, none⟩) hk
  exact ⟨h.lo, Nat.lt_of_lt_of_le h.hi ht.size, (hc 0).trans h.c0, (hc 1).trans h.c1, (hc 2).trans h.c2, (hf 0).trans h.f0, (hf 1).trans h.f1, (hf 2).trans h.f2⟩
theorem Bx3.set0 {w : World} {base b : Nat} {x0 x1 x2 : Value} (h : Bx3 w base b x0 x1 x2) (x : Value) : Bx3 (w.setCell ⟨b, 0, none⟩ x) base b x x1 x2 :=
  have c0 := h.c0; have c1 := h.c1; have c2 := h.c2; have f0 := h.f0; have f1 := h.f1; have f2 := h.f2
  ⟨h.lo, by have := h.hi; simpa [World.setCell] using this, World.cell?_setCell_same _ _ _ c0, (World.cell?_setCell_other _ _ _ _ (by simp)).trans c1, (World.cell?_setCell_other _ _ _ _ (by simp)).trans c2, by simp [*], by simp [*], by simp [*]⟩
theorem Bx3.set1 {w : World} {base b : Nat} {x0 x1 x2 : Value} (h : Bx3 w base b x0 x1 x2) (x : Value) : Bx3 (w.setCell ⟨b, 1, none⟩ x) base b x0 x x2 :=
  have c0 := h.c0; have c1 := h.c1; have c2 := h.c2; have f0 := h.f0; have f1 := h.f1; have f2 := h.f2
  ⟨h.lo, by have := h.hi; simpa [World.setCell] using this, (World.cell?_setCell_other _ _ _ _ (by simp)).trans c0, World.cell?_setCell_same _ _ _ c1, (World.cell?_setCell_other _ _ _ _ (by simp)).trans c2, by simp [*], by simp [*], by simp [*]⟩
theorem Bx3.set2 {w : World} {base b : Nat} {x0 x1 x2 : Value} (h : Bx3 w base b x0 x1 x2) (x : Value) : Bx3 (w.setCell ⟨b, 2, none⟩ x) base b x0 x1 x :=
  have c0 := h.c0; have c1 := h.c1; have c2 := h.c2; have f0 := h.f0; have f1 := h.f1; have f2 := h.f2
  ⟨h.lo, by have := h.hi; simpa [World.setCell] using this, (World.cell?_setCell_other _ _ _ _ (by simp)).trans c0, (World.cell?_setCell_other _ _ _ _ (by simp)).trans c1, World.cell?_setCell_same _ _ _ c2, by simp [*], by simp [*], by simp [*]⟩
theorem Bx3.other {w : World} {base b : Nat} {x0 x1 x2 : Value} (h : Bx3 w base b x0 x1 x2) (b' i : Nat) (hb : b ≠ b') (x : Value) : Bx3 (w.setCell ⟨b', i, none⟩ x) base b x0 x1 x2 :=
  h.tn (tnC w b' i x) (fun k hk hs => by simp at hk hs; omega)
/-- The box of a variable of 5 cells. -/
structure Bx5 (w : World) (base b : Nat) (x0 x1 x2 x3 x4 : Value) : Prop where
  lo : base ≤ b
  hi : b < w.heap.size
  c0 : w.cell? ⟨b, 0, none⟩ = some x0
  c1 : w.cell? ⟨b, 1, none⟩ = some x1
  c2 : w.cell? ⟨b, 2, none⟩ = some x2
  c3 : w.cell? ⟨b, 3, none⟩ = some x3
  c4 : w.cell? ⟨b, 4, none⟩ = some x4
  f0 : w.frozen? ⟨b, 0, none⟩ = false
  f1 : w.frozen? ⟨b, 1, none⟩ = false
  f2 : w.frozen? ⟨b, 2, none⟩ = false
  f3 : w.frozen? ⟨b, 3, none⟩ = false
  f4 : w.frozen? ⟨b, 4, none⟩ = false
theorem Bx5.made (w : World) (x0 x1 x2 x3 x4 : Value) (t : TypeId) : Bx5 (w.alloc (.cells #[x0, x1, x2, x3, x4] t)) w.heap.size w.heap.size x0 x1 x2 x3 x4 :=
  ⟨Nat.le_refl _, by simp, by simp, by simp, by simp, by simp, by simp, by simp, by simp, by simp, by simp, by simp⟩
theorem Bx5.below {w w' : World} {base b B : Nat} {x0 x1 x2 x3 x4 : Value} (h : Bx5 w base b x0 x1 x2 x3 x4) (hb : Below B w w') (hB : w.heap.size ≤ B) : Bx5 w' base b x0 x1 x2 x3 x4 :=
  have hlt : b < B := Nat.lt_of_lt_of_le h.hi hB
  ⟨h.lo, Nat.lt_of_lt_of_le h.hi hb.size, (hb.cell (p := ⟨b, 0, none⟩) hlt).trans h.c0, (hb.cell (p := ⟨b, 1, none⟩) hlt).trans h.c1, (hb.cell (p := ⟨b, 2, none⟩) hlt).trans h.c2, (hb.cell (p := ⟨b, 3, none⟩) hlt).trans h.c3, (hb.cell (p := ⟨b, 4, none⟩) hlt).trans h.c4, (hb.frozen (p := ⟨b, 0, none⟩) hlt).trans h.f0, (hb.frozen (p := ⟨b, 1, none⟩) hlt).trans h.f1, (hb.frozen (p := ⟨b, 2, none⟩) hlt).trans h.f2, (hb.frozen (p := ⟨b, 3, none⟩) hlt).trans h.f3, (hb.frozen (p := ⟨b, 4, none⟩) hlt).trans h.f4⟩
theorem Bx5.mono {w : World} {base base' b : Nat} {x0 x1 x2 x3 x4 : Value} (h : Bx5 w base b x0 x1 x2 x3 x4) (hb : base' ≤ base) : Bx5 w base' b x0 x1 x2 x3 x4 :=
  ⟨Nat.le_trans hb h.lo, h.hi, h.c0, h.c1, h.c2, h.c3, h.c4, h.f0, h.f1, h.f2, h.f3, h.f4⟩
theorem Bx5.ltb {w : World} {base b : Nat} {x0 x1 x2 x3 x4 : Value} (h : Bx5 w base b x0 x1 x2 x3 x4) : ∀ k ∈ [b], base ≤ k ∧ k < w.heap.size := fun k hk => by
  simp at hk
  subst hk
  exact ⟨h.lo, h.hi⟩
theorem Bx5.tn {w w' : World} {base b : Nat} {x0 x1 x2 x3 x4 : Value} {S : List Nat} (h : Bx5 w base b x0 x1 x2 x3 x4) (ht : Tn S w w') (ha : Apart [b] S) : Bx5 w' base b x0 x1 x2 x3 x4 := by
  have hk := ht.block b h.hi (ha b (by simp))
  have hc := fun i => World.cell?_of_block (w := w) (w' := w') (a := ⟨b, i, none⟩) hk
  have hf := fun i => World.frozen?_of_block (w := w) (w' := w') (a := ⟨b, i, none⟩) hk
  exact ⟨h.lo, Nat.lt_of_lt_of_le h.hi ht.size, (hc 0).trans h.c0, (hc 1).trans h.c1, (hc 2).trans h.c2, (hc 3).trans h.c3, (hc 4).trans h.c4, (hf 0).trans h.f0, (hf 1).trans h.f1, (hf 2).trans h.f2, (hf 3).trans h.f3, (hf 4).trans h.f4⟩
theorem Bx5.set0 {w : World} {base b : Nat} {x0 x1 x2 x3 x4 : Value} (h : Bx5 w base b x0 x1 x2 x3 x4) (x : Value) : Bx5 (w.setCell ⟨b, 0, none⟩ x) base b x x1 x2 x3 x4 :=
  have c0 := h.c0; have c1 := h.c1; have c2 := h.c2; have c3 := h.c3; have c4 := h.c4; have f0 := h.f0; have f1 := h.f1; have f2 := h.f2; have f3 := h.f3; have f4 := h.f4
  ⟨h.lo, by have := h.hi; simpa [World.setCell] using this, World.cell?_setCell_same _ _ _ c0, (World.cell?_setCell_other _ _ _ _ (by simp)).trans c1, (World.cell?_setCell_other _ _ _ _ (by simp)).trans c2, (World.cell?_setCell_other _ _ _ _ (by simp)).trans c3, (World.cell?_setCell_other _ _ _ _ (by simp)).trans c4, by simp [*], by simp [*], by simp [*], by simp [*], by simp [*]⟩
theorem Bx5.set1 {w : World} {base b : Nat} {x0 x1 x2 x3 x4 : Value} (h : Bx5 w base b x0 x1 x2 x3 x4) (x : Value) : Bx5 (w.setCell ⟨b, 1, none⟩ x) base b x0 x x2 x3 x4 :=
  have c0 := h.c0; have c1 := h.c1; have c2 := h.c2; have c3 := h.c3; have c4 := h.c4; have f0 := h.f0; have f1 := h.f1; have f2 := h.f2; have f3 := h.f3; have f4 := h.f4
  ⟨h.lo, by have := h.hi; simpa [World.setCell] using this, (World.cell?_setCell_other _ _ _ _ (by simp)).trans c0, World.cell?_setCell_same _ _ _ c1, (World.cell?_setCell_other _ _ _ _ (by simp)).trans c2, (World.cell?_setCell_other _ _ _ _ (by simp)).trans c3, (World.cell?_setCell_other _ _ _ _ (by simp)).trans c4, by simp [*], by simp [*], by simp [*], by simp [*], by simp [*]⟩
theorem Bx5.set2 {w : World} {base b : Nat} {x0 x1 x2 x3 x4 : Value} (h : Bx5 w base b x0 x1 x2 x3 x4) (x : Value) : Bx5 (w.setCell ⟨b, 2, none⟩ x) base b x0 x1 x x3 x4 :=
  have c0 := h.c0; have c1 := h.c1; have c2 := h.c2; have c3 := h.c3; have c4 := h.c4; have f0 := h.f0; have f1 := h.f1; have f2 := h.f2; have f3 := h.f3; have f4 := h.f4
  ⟨h.lo, by have := h.hi; simpa [World.setCell] using this, (World.cell?_setCell_other _ _ _ _ (by simp)).trans c0, (World.cell?_setCell_other _ _ _ _ (by simp)).trans c1, World.cell?_setCell_same _ _ _ c2, (World.cell?_setCell_other _ _ _ _ (by simp)).trans c3, (World.cell?_setCell_other _ _ _ _ (by simp)).trans c4, by simp [*], by simp [*], by simp [*], by simp [*], by simp [*]⟩
theorem Bx5.set3 {w : World} {base b : Nat} {x0 x1 x2 x3 x4 : Value} (h : Bx5 w base b x0 x1 x2 x3 x4) (x : Value) : Bx5 (w.setCell ⟨b, 3, none⟩ x) base b x0 x1 x2 x x4 :=
  have c0 := h.c0; have c1 := h.c1; have c2 := h.c2; have c3 := h.c3; have c4 := h.c4; have f0 := h.f0; have f1 := h.f1; have f2 := h.f2; have f3 := h.f3; have f4 := h.f4
  ⟨h.lo, by have := h.hi; simpa [World.setCell] using this, (World.cell?_setCell_other _ _ _ _ (by simp)).trans c0, (World.cell?_setCell_other _ _ _ _ (by simp)).trans c1, (World.cell?_setCell_other _ _ _ _ (by simp)).trans c2, World.cell?_setCell_same _ _ _ c3, (World.cell?_setCell_other _ _ _ _ (by simp)).trans c4, by simp [*], by simp [*], by simp [*], by simp [*], by simp [*]⟩
theorem Bx5.set4 {w : World} {base b : Nat} {x0 x1 x2 x3 x4 : Value} (h : Bx5 w base b x0 x1 x2 x3 x4) (x : Value) : Bx5 (w.setCell ⟨b, 4, none⟩ x) base b x0 x1 x2 x3 x :=
  have c0 := h.c0; have c1 := h.c1; have c2 := h.c2; have c3 := h.c3; have c4 := h.c4; have f0 := h.f0; have f1 := h.f1; have f2 := h.f2; have f3 := h.f3; have f4 := h.f4
  ⟨h.lo, by have := h.hi; simpa [World.setCell] using this, (World.cell?_setCell_other _ _ _ _ (by simp)).trans c0, (World.cell?_setCell_other _ _ _ _ (by simp)).trans c1, (World.cell?_setCell_other _ _ _ _ (by simp)).trans c2, (World.cell?_setCell_other _ _ _ _ (by simp)).trans c3, World.cell?_setCell_same _ _ _ c4, by simp [*], by simp [*], by simp [*], by simp [*], by simp [*]⟩
theorem Bx5.other {w : World} {base b : Nat} {x0 x1 x2 x3 x4 : Value} (h : Bx5 w base b x0 x1 x2 x3 x4) (b' i : Nat) (hb : b ≠ b') (x : Value) : Bx5 (w.setCell ⟨b', i, none⟩ x) base b x0 x1 x2 x3 x4 :=
  h.tn (tnC w b' i x) (fun k hk hs => by simp at hk hs; omega)
theorem ownsI.other {w : World} {base : Nat} {v : Value} {xs : List Int} (h : ownsI w base v xs) (b i : Nat) (hb : b < base) (x : Value) : ownsI (w.setCell ⟨b, i, none⟩ x) base v xs :=
  h.tn (tnC w b i x) (fun k hk hs => by have := (h.ltb k hk).1; simp at hs; omega)


end Go.Proofs.Ytkbnfillbdjboaa

/- The law's own toSpin, by its contract. -/
namespace Go.Proofs.Ytkbnfillbdjboaa
open Go.RowKit
set_option linter.unusedSimpArgs false

set_option maxRecDepth 20000 in
set_option maxHeartbeats 6400000 in
theorem toP (g0 : Bool) (a0 : Option Addr) (n0 c0 : Nat) (zs0 : List Int) (g1 : Bool) (a1 : Option Addr) (n1 c1 : Nat) (zs1 : List Int) (kk : Int) (w : World) (h0 : n0 ≤ 1048576) (h1 : n1 ≤ 1048576) (hr0 : IsRow .i64 w a0 n0 c0 zs0) (hr1 : IsRow .i64 w a1 n1 c1 zs1) :
    Calls Try.prog 9 #[.agg #[.bool g0, .slice a0 n0 c0, .bool g1, .slice a1 n1 c1, .int .i64 kk]] w fun e w' => ∃ v, e = .returned v ∧ ownsP w' w.heap.size v (((g0, zs0.take n0), (g1, zs1.take n1)), kk) ∧ Below w.heap.size w w' := by
  have T0 := fun W (h : Below w.heap.size w W) => toW g0 a0 n0 c0 zs0 W h0 (hr0.below h)
  have T1 := fun W (h : Below w.heap.size w W) => toW g1 a1 n1 c1 zs1 W h1 (hr1.below h)
  obtain ⟨xs0, hx0⟩ : ∃ xs, zs0.take n0 = xs := ⟨_, rfl⟩
  obtain ⟨xs1, hx1⟩ : ∃ xs, zs1.take n1 = xs := ⟨_, rfl⟩
  rw [hx0] at T0
  rw [hx1] at T1
  rw [hx0, hx1]
  clear hx0 hx1 hr0 hr1
  have s1 : (w.alloc (.cells #[.bool g0, .slice a0 n0 c0, .bool g1, .slice a1 n1 c1, .int .i64 kk] 26)).heap.size = w.heap.size + 1 := by simp
  have s2 : ((w.alloc (.cells #[.bool g0, .slice a0 n0 c0, .bool g1, .slice a1 n1 c1, .int .i64 kk] 26)).alloc (.cells #[.bool false, .slice none 0 0, .bool false, .slice none 0 0, .int .i64 0] 30)).heap.size = w.heap.size + 1 + 1 := by simp
  have X := ((Bx5.made w (.bool g0) (.slice a0 n0 c0) (.bool g1) (.slice a1 n1 c1) (.int .i64 kk) 26).below (below1 _ (.cells #[.bool false, .slice none 0 0, .bool false, .slice none 0 0, .int .i64 0] 30)) (Nat.le_refl _)).below (below1 _ (.cells #[.bool false, .slice none 0 0, .bool false, .slice none 0 0, .int .i64 0] 30)) (Nat.le_refl _)
  have R := (Bx5.made (w.alloc (.cells #[.bool g0, .slice a0 n0 c0, .bool g1, .slice a1 n1 c1, .int .i64 kk] 26)) (.bool false) (.slice none 0 0) (.bool false) (.slice none 0 0) (.int .i64 0) 30).below (below1 _ (.cells #[.bool false, .slice none 0 0, .bool false, .slice none 0 0, .int .i64 0] 30)) (Nat.le_refl _)
  have V := Bx5.made ((w.alloc (.cells #[.bool g0, .slice a0 n0 c0, .bool g1, .slice a1 n1 c1, .int .i64 kk] 26)).alloc (.cells #[.bool false, .slice none 0 0, .bool false, .slice none 0 0, .int .i64 0] 30)) (.bool false) (.slice none 0 0) (.bool false) (.slice none 0 0) (.int .i64 0) 30
  have B := below3 w (.cells #[.bool g0, .slice a0 n0 c0, .bool g1, .slice a1 n1 c1, .int .i64 kk] 26) (.cells #[.bool false, .slice none 0 0, .bool false, .slice none 0 0, .int .i64 0] 30) (.cells #[.bool false, .slice none 0 0, .bool false, .slice none 0 0, .int .i64 0] 30)
  rw [s1] at R
  rw [s2] at V
  clear s1 s2
  go_enter Try.func9, Try.ntmps9
  go_wp2_with fail
  refine (T0 _ B).mono ?_
  generalize ((w.alloc (.cells #[.bool g0, .slice a0 n0 c0, .bool g1, .slice a1 n1 c1, .int .i64 kk] 26)).alloc (.cells #[.bool false, .slice none 0 0, .bool false, .slice none 0 0, .int .i64 0] 30)).alloc (.cells #[.bool false, .slice none 0 0, .bool false, .slice none 0 0, .int .i64 0] 30) = w0 at *
  rintro e w1 ⟨v1, rfl, o1, b1⟩
  have hV0 := V.hi
  have X1 := X.below b1 (Nat.le_refl _)
  have R1 := R.below b1 (Nat.le_refl _)
  have V1 := V.below b1 (Nat.le_refl _)
  have B1 := B.trans (b1.mono B.size)
  obtain ⟨s1, rfl, q1⟩ := o1
  obtain ⟨ad1, cp1, rfl, -⟩ := q1.row
  have q1' : ownsI w1 w0.heap.size (.slice ad1 xs0.length cp1) xs0 := q1
  have hx1 : ¬ (w.heap.size + 1 + 1 = w.heap.size) := by omega
  have hx2 : ¬ (w.heap.size = w.heap.size + 1 + 1) := by omega
  have hx3 : ¬ (w.heap.size + 1 + 1 = w.heap.size + 1) := by omega
  have hx4 : ¬ (w.heap.size + 1 = w.heap.size + 1 + 1) := by omega
  have hx5 : ¬ (w.heap.size + 1 = w.heap.size) := by omega
  have hx6 : ¬ (w.heap.size = w.heap.size + 1) := by omega
  have e0 := V1.c0
  have e1 := V1.c1
  have e4 := V1.f0
  have e5 := V1.f1
  have X2 := ((X1.other (w.heap.size + 1 + 1) 0 (by omega) (.bool g0)).other (w.heap.size + 1 + 1) 1 (by omega) (.slice ad1 xs0.length cp1))
  have R2 := ((R1.other (w.heap.size + 1 + 1) 0 (by omega) (.bool g0)).other (w.heap.size + 1 + 1) 1 (by omega) (.slice ad1 xs0.length cp1))
  have V2 := ((V1.set0 (.bool g0)).set1 (.slice ad1 xs0.length cp1))
  have B2 := ((B1.setCell (p := ⟨w.heap.size + 1 + 1, 0, none⟩) (by show w.heap.size ≤ w.heap.size + 1 + 1; omega) (.bool g0)).setCell (p := ⟨w.heap.size + 1 + 1, 1, none⟩) (by show w.heap.size ≤ w.heap.size + 1 + 1; omega) (.slice ad1 xs0.length cp1))
  have q2 := ((q1'.other (w.heap.size + 1 + 1) 0 (by omega) (.bool g0)).other (w.heap.size + 1 + 1) 1 (by omega) (.slice ad1 xs0.length cp1))
  have x2 := X2.c2
  have x3 := X2.c3
  clear X R V B X1 R1 V1 b1 q1 q1' B1 T0
  go_wp2_with fail
  clear x2 x3 e0 e1 e4 e5
  refine (T1 _ B2).mono ?_
  generalize (w1.setCell ⟨w.heap.size + 1 + 1, 0, none⟩ (.bool g0)).setCell ⟨w.heap.size + 1 + 1, 1, none⟩ (.slice ad1 xs0.length cp1) = w2 at *
  rintro e w3 ⟨v3, rfl, o3, b3⟩
  have X3 := X2.below b3 (Nat.le_refl _)
  have R3 := R2.below b3 (Nat.le_refl _)
  have V3 := V2.below b3 (Nat.le_refl _)
  have B3 := B2.trans (b3.mono B2.size)
  have q3 := ownsI.below q2 b3 (Nat.le_refl _)
  obtain ⟨s3, rfl, z3⟩ := o3
  obtain ⟨ad3, cp3, rfl, -⟩ := z3.row
  have z3' : ownsI w3 w2.heap.size (.slice ad3 xs1.length cp3) xs1 := z3
  have hV2 := V2.hi
  have hap : Apart (blkI (.slice ad1 xs0.length cp1)) (blkI (.slice ad3 xs1.length cp3)) := apart_of (fun k hk => (q2.ltb k hk).2) (fun k hk => (z3'.ltb k hk).1)
  have y4 := X3.c4
  have e0 := V3.c0
  have d0 := V3.f0
  have r0 := R3.c0
  have t0 := R3.f0
  have e1 := V3.c1
  have d1 := V3.f1
  have r1 := R3.c1
  have t1 := R3.f1
  have e2 := V3.c2
  have d2 := V3.f2
  have r2 := R3.c2
  have t2 := R3.f2
  have e3 := V3.c3
  have d3 := V3.f3
  have r3 := R3.c3
  have t3 := R3.f3
  have e4 := V3.c4
  have d4 := V3.f4
  have r4 := R3.c4
  have t4 := R3.f4
  have HQ : Hid (ownsI _ w0.heap.size (.slice ad1 xs0.length cp1) xs0) := ((((((((q3.other (w.heap.size + 1 + 1) 2 (by omega) (.bool g1)).other (w.heap.size + 1 + 1) 3 (by omega) (.slice ad3 xs1.length cp3)).other (w.heap.size + 1 + 1) 4 (by omega) (.int .i64 kk)).other (w.heap.size + 1) 0 (by omega) (.bool g0)).other (w.heap.size + 1) 1 (by omega) (.slice ad1 xs0.length cp1)).other (w.heap.size + 1) 2 (by omega) (.bool g1)).other (w.heap.size + 1) 3 (by omega) (.slice ad3 xs1.length cp3)).other (w.heap.size + 1) 4 (by omega) (.int .i64 kk))
  have HZ : Hid (ownsI _ w2.heap.size (.slice ad3 xs1.length cp3) xs1) := ((((((((z3'.other (w.heap.size + 1 + 1) 2 (by omega) (.bool g1)).other (w.heap.size + 1 + 1) 3 (by omega) (.slice ad3 xs1.length cp3)).other (w.heap.size + 1 + 1) 4 (by omega) (.int .i64 kk)).other (w.heap.size + 1) 0 (by omega) (.bool g0)).other (w.heap.size + 1) 1 (by omega) (.slice ad1 xs0.length cp1)).other (w.heap.size + 1) 2 (by omega) (.bool g1)).other (w.heap.size + 1) 3 (by omega) (.slice ad3 xs1.length cp3)).other (w.heap.size + 1) 4 (by omega) (.int .i64 kk))
  have HB : Hid (Below w.heap.size w _) := ((((((((B3.setCell (p := ⟨w.heap.size + 1 + 1, 2, none⟩) (by show w.heap.size ≤ w.heap.size + 1 + 1; omega) (.bool g1)).setCell (p := ⟨w.heap.size + 1 + 1, 3, none⟩) (by show w.heap.size ≤ w.heap.size + 1 + 1; omega) (.slice ad3 xs1.length cp3)).setCell (p := ⟨w.heap.size + 1 + 1, 4, none⟩) (by show w.heap.size ≤ w.heap.size + 1 + 1; omega) (.int .i64 kk)).setCell (p := ⟨w.heap.size + 1, 0, none⟩) (by show w.heap.size ≤ w.heap.size + 1; omega) (.bool g0)).setCell (p := ⟨w.heap.size + 1, 1, none⟩) (by show w.heap.size ≤ w.heap.size + 1; omega) (.slice ad1 xs0.length cp1)).setCell (p := ⟨w.heap.size + 1, 2, none⟩) (by show w.heap.size ≤ w.heap.size + 1; omega) (.bool g1)).setCell (p := ⟨w.heap.size + 1, 3, none⟩) (by show w.heap.size ≤ w.heap.size + 1; omega) (.slice ad3 xs1.length cp3)).setCell (p := ⟨w.heap.size + 1, 4, none⟩) (by show w.heap.size ≤ w.heap.size + 1; omega) (.int .i64 kk))
  have HP : Hid (Apart (blkI (.slice ad1 xs0.length cp1)) (blkI (.slice ad3 xs1.length cp3))) := hap
  have hb0 : w.heap.size ≤ w0.heap.size := by omega
  have hb2 := B2.size
  clear X2 X3 V2 V3 R2 R3 q2 q3 z3 z3' B2 B3 b3 hap T1
  go_wp2
  (try simp only [Exit.inBlock, Exit.then])
  refine bodyPost_ret (v := .agg #[.bool g0, .slice ad1 xs0.length cp1, .bool g1, .slice ad3 xs1.length cp3, .int .i64 kk]) ?_ rfl ⟨_, rfl, ⟨_, _, rfl, ownsI_mono HQ.out hb0, ownsI_mono HZ.out hb2, HP.out⟩, HB.out⟩
  rw [results_cell1 rfl]
  go_simp

end Go.Proofs.Ytkbnfillbdjboaa

/- The law's own helpers on a Spin: sizes, likeness, marks. -/
namespace Go.Proofs.Ytkbnfillbdjboaa
open Go.RowKit
set_option linter.unusedSimpArgs false

set_option maxHeartbeats 1600000 in
theorem szP_yes (g0 : Bool) (a0 : Option Addr) (n0 c0 : Nat) (g1 : Bool) (a1 : Option Addr) (n1 c1 : Nat) (kk : Int) (left : Int) (w : World) (hl : left ≤ 1048576) (h : (n0 : Int) + (n1 : Int) ≤ left) :
    Calls Try.prog 7 #[.agg #[.bool g0, .slice a0 n0 c0, .bool g1, .slice a1 n1 c1, .int .i64 kk], .int .i64 left] w fun e w' => e = .returned (.int .i64 (left - n0 - n1)) ∧ Below w.heap.size w w' := by
  have k0 := fun W => szW_yes g0 a0 n0 c0 left W hl (by omega)
  have k1 := fun W => szW_yes g1 a1 n1 c1 (left - n0) W (by omega) (by omega)
  have hA : ¬ (left - (n0 : Int) < 0) := by omega
  have hB : ¬ (left - (n0 : Int) - (n1 : Int) < 0) := by omega
  have X := Bx5.made w (.bool g0) (.slice a0 n0 c0) (.bool g1) (.slice a1 n1 c1) (.int .i64 kk) 26
  have B := below1 w (.cells #[.bool g0, .slice a0 n0 c0, .bool g1, .slice a1 n1 c1, .int .i64 kk] 26)
  go_enter Try.func7, Try.ntmps7
  go_wp2_with fail
  refine (k0 _).mono ?_
  generalize w.alloc (.cells #[.bool g0, .slice a0 n0 c0, .bool g1, .slice a1 n1 c1, .int .i64 kk] 26) = w0 at *
  rintro e w1 ⟨rfl, b1⟩
  have X1 := X.below b1 (Nat.le_refl _)
  have B1 := B.trans (b1.mono B.size)
  have c2 := X1.c2
  have c3 := X1.c3
  go_wp2_with fail
  refine (k1 _).mono ?_
  rintro e w2 ⟨rfl, b2⟩
  have B2 := B1.trans (b2.mono B1.size)
  clear c2 c3 k0 k1
  go_wp2
  go_ret
  exact ⟨rfl, B2⟩

set_option maxHeartbeats 1600000 in
theorem szP_no (g0 : Bool) (a0 : Option Addr) (n0 c0 : Nat) (g1 : Bool) (a1 : Option Addr) (n1 c1 : Nat) (kk : Int) (left : Int) (w : World) (h0 : 0 ≤ left) (hl : left ≤ 1048576) (hn0 : n0 ≤ 9223372036854775807) (hn1 : n1 ≤ 9223372036854775807) (h : left < (n0 : Int) + (n1 : Int)) :
    Calls Try.prog 7 #[.agg #[.bool g0, .slice a0 n0 c0, .bool g1, .slice a1 n1 c1, .int .i64 kk], .int .i64 left] w fun e w' => e = .returned (.int .i64 (-1)) ∧ Below w.heap.size w w' := by
  have X := Bx5.made w (.bool g0) (.slice a0 n0 c0) (.bool g1) (.slice a1 n1 c1) (.int .i64 kk) 26
  have B := below1 w (.cells #[.bool g0, .slice a0 n0 c0, .bool g1, .slice a1 n1 c1, .int .i64 kk] 26)
  by_cases hA : left < (n0 : Int)
  · have k0 := fun W => szW_no g0 a0 n0 c0 left W h0 hl hn0 hA
    go_enter Try.func7, Try.ntmps7
    go_wp2_with fail
    refine (k0 _).mono ?_
    generalize w.alloc (.cells #[.bool g0, .slice a0 n0 c0, .bool g1, .slice a1 n1 c1, .int .i64 kk] 26) = w0 at *
    rintro e w1 ⟨rfl, b1⟩
    have B1 := B.trans (b1.mono B.size)
    clear k0 X
    go_wp2
    go_ret
    exact ⟨rfl, B1⟩
  · have k0 := fun W => szW_yes g0 a0 n0 c0 left W hl (by omega)
    have k1 := fun W => szW_no g1 a1 n1 c1 (left - n0) W (by omega) (by omega) hn1 (by omega)
    have hA2 : ¬ (left - (n0 : Int) < 0) := by omega
    go_enter Try.func7, Try.ntmps7
    go_wp2_with fail
    refine (k0 _).mono ?_
    generalize w.alloc (.cells #[.bool g0, .slice a0 n0 c0, .bool g1, .slice a1 n1 c1, .int .i64 kk] 26) = w0 at *
    rintro e w1 ⟨rfl, b1⟩
    have X1 := X.below b1 (Nat.le_refl _)
    have B1 := B.trans (b1.mono B.size)
    have c2 := X1.c2
    have c3 := X1.c3
    go_wp2_with fail
    refine (k1 _).mono ?_
    rintro e w2 ⟨rfl, b2⟩
    have B2 := B1.trans (b2.mono B1.size)
    clear c2 c3 k0 k1
    go_wp2
    go_ret
    exact ⟨rfl, B2⟩

set_option maxHeartbeats 1600000 in
theorem eqP' (b1 b2 : Nat) (va vb : Value) (a : Ph) (w : World) (hm : a.1.1.2.length ≤ 1048576 ∧ a.1.2.2.length ≤ 1048576) (h1 : ownsP w b1 va a) (h2 : ownsP w b2 vb a) :
    Calls Try.prog 11 #[va, vb] w fun e w' => e = .returned (.bool true) ∧ Below w.heap.size w w' := by
  obtain ⟨s, t, rfl, s1, t1, -⟩ := h1
  obtain ⟨u, v, rfl, u1, v1, -⟩ := h2
  have k0 := fun W (h : Below w.heap.size w W) => eqW' b1 b2 (.agg #[.bool a.1.1.1, s]) (.agg #[.bool a.1.1.1, u]) a.1.1 W hm.1 ⟨_, rfl, ownsI.below s1 h (Nat.le_refl _)⟩ ⟨_, rfl, ownsI.below u1 h (Nat.le_refl _)⟩
  have k1 := fun W (h : Below w.heap.size w W) => eqW' b1 b2 (.agg #[.bool a.1.2.1, t]) (.agg #[.bool a.1.2.1, v]) a.1.2 W hm.2 ⟨_, rfl, ownsI.below t1 h (Nat.le_refl _)⟩ ⟨_, rfl, ownsI.below v1 h (Nat.le_refl _)⟩
  generalize a.1.1.1 = g0 at *
  generalize a.1.2.1 = g1 at *
  generalize a.2 = kk at *
  have ek : (kk != kk) = false := by simp
  have z1 : (w.alloc (.cells #[.bool g0, s, .bool g1, t, .int .i64 kk] 30)).heap.size = w.heap.size + 1 := by simp
  have X := (Bx5.made w (.bool g0) s (.bool g1) t (.int .i64 kk) 30).below (below1 _ (.cells #[.bool g0, u, .bool g1, v, .int .i64 kk] 30)) (Nat.le_refl _)
  have Y := Bx5.made (w.alloc (.cells #[.bool g0, s, .bool g1, t, .int .i64 kk] 30)) (.bool g0) u (.bool g1) v (.int .i64 kk) 30
  rw [z1] at Y
  have B := below2 w (.cells #[.bool g0, s, .bool g1, t, .int .i64 kk] 30) (.cells #[.bool g0, u, .bool g1, v, .int .i64 kk] 30)
  clear z1 s1 t1 u1 v1
  go_enter Try.func11, Try.ntmps11
  go_wp2_with fail
  refine (k0 _ B).mono ?_
  generalize (w.alloc (.cells #[.bool g0, s, .bool g1, t, .int .i64 kk] 30)).alloc (.cells #[.bool g0, u, .bool g1, v, .int .i64 kk] 30) = w0 at *
  rintro e w1 ⟨rfl, c1⟩
  have X1 := X.below c1 (Nat.le_refl _)
  have Y1 := Y.below c1 (Nat.le_refl _)
  have B1 := B.trans (c1.mono B.size)
  have x2 := X1.c2
  have x3 := X1.c3
  have y2 := Y1.c2
  have y3 := Y1.c3
  go_wp2_with fail
  refine (k1 _ B1).mono ?_
  rintro e w2 ⟨rfl, c2⟩
  have B2 := B1.trans (c2.mono B1.size)
  have X2 := X1.below c2 (Nat.le_refl _)
  have Y2 := Y1.below c2 (Nat.le_refl _)
  have x4 := X2.c4
  have y4 := Y2.c4
  clear x2 x3 y2 y3 k0 k1
  go_wp2
  go_ret
  exact ⟨rfl, B2⟩

set_option maxHeartbeats 1600000 in
theorem markP (b : Nat) (va : Value) (a : Ph) (k : Int) (w : World) (hm : a.1.1.2.length + a.1.2.2.length ≤ 2097152) (hm0 : a.1.1.2.length ≤ 1048576) (hm1 : a.1.2.2.length ≤ 1048576) (hk0 : 0 ≤ k) (hk1 : k ≤ 1099500000000) (h1 : ownsP w b va a) :
    Calls Try.prog 12 #[va, .int .i64 k] w fun e w' => e = .returned (.int .i64 (k + a.1.1.2.length + a.1.2.2.length)) ∧ ownsP w' b va (((a.1.1.1, marksI k a.1.1.2.length), (a.1.2.1, marksI (k + a.1.1.2.length) a.1.2.2.length)), a.2) ∧ Tn (blkP va) w w' := by
  obtain ⟨s, t, rfl, s1, t1, hap⟩ := h1
  have k0 := fun W (h : ownsI W b s a.1.1.2) => markW b (.agg #[.bool a.1.1.1, s]) a.1.1 k W hm0 hk0 (by omega) ⟨_, rfl, h⟩
  have k1 := fun W (h : ownsI W b t a.1.2.2) => markW b (.agg #[.bool a.1.2.1, t]) a.1.2 (k + a.1.1.2.length) W hm1 (by omega) (by omega) ⟨_, rfl, h⟩
  have B := below1 w (.cells #[.bool a.1.1.1, s, .bool a.1.2.1, t, .int .i64 a.2] 30)
  have X := Bx5.made w (.bool a.1.1.1) s (.bool a.1.2.1) t (.int .i64 a.2) 30
  have s2 := ownsI.below s1 B (Nat.le_refl _)
  have t2 := ownsI.below t1 B (Nat.le_refl _)
  have hs := s1.ltb
  have ht := t1.ltb
  have T0 : Tn (blkI s ++ blkI t) w (w.alloc (.cells #[.bool a.1.1.1, s, .bool a.1.2.1, t, .int .i64 a.2] 30)) := ⟨rfl, rfl, rfl, by simp, fun j hj _ => Below.heap_alloc w _ j hj⟩
  go_enter Try.func12, Try.ntmps12
  go_wp2_with fail
  refine (k0 _ s2).mono ?_
  generalize w.alloc (.cells #[.bool a.1.1.1, s, .bool a.1.2.1, t, .int .i64 a.2] 30) = w0 at *
  rintro e w1 ⟨rfl, o1, g1⟩
  have g1' : Tn (blkI s) w0 w1 := g1
  have X1 := X.tn g1' (fun j hj hq => by simp at hj; have := (hs j hq).2; omega)
  have t3 := t2.tn g1' hap.symm
  have c2 := X1.c2
  have c3 := X1.c3
  obtain ⟨s3, e3, o1'⟩ := o1
  obtain ⟨rfl⟩ : s = s3 := by simpa using e3
  have o1'' : ownsI w1 b s (marksI k a.1.1.2.length) := o1'
  clear o1' e3 k0
  go_wp2_with fail
  clear c2 c3
  refine (k1 _ t3).mono ?_
  rintro e w2 ⟨rfl, o2, g2⟩
  have g2' : Tn (blkI t) w1 w2 := g2
  obtain ⟨t4, e4, o2'⟩ := o2
  obtain ⟨rfl⟩ : t = t4 := by simpa using e4
  have o2'' : ownsI w2 b t (marksI (k + a.1.1.2.length) a.1.2.2.length) := o2'
  have o3 := o1''.tn g2' hap
  have T1 : Tn (blkI s ++ blkI t) w w2 := by
    refine T0.trans (Tn.trans (b := w1) ?_ ?_)
    · exact ⟨g1'.os, g1'.tape, g1'.output, g1'.size, fun j hj hn => g1'.block j hj (fun h => hn (List.mem_append.2 (.inl h)))⟩
    · exact ⟨g2'.os, g2'.tape, g2'.output, g2'.size, fun j hj hn => g2'.block j hj (fun h => hn (List.mem_append.2 (.inr h)))⟩
  have HF : Hid (ownsP w2 b (.agg #[.bool a.1.1.1, s, .bool a.1.2.1, t, .int .i64 a.2]) (((a.1.1.1, marksI k a.1.1.2.length), (a.1.2.1, marksI (k + a.1.1.2.length) a.1.2.2.length)), a.2) ∧ Tn (blkP (.agg #[.bool a.1.1.1, s, .bool a.1.2.1, t, .int .i64 a.2])) w w2) := ⟨⟨s, t, rfl, o3, o2'', hap⟩, T1⟩
  clear o2' e4 k1 o1'' o2'' o3 T1 T0 g1 g2 g1' g2' X X1 t3 s1 t1 s2 t2
  go_wp2
  go_ret
  exact ⟨rfl, HF.out.1, HF.out.2⟩


set_option maxHeartbeats 1600000 in
theorem heldP (b : Nat) (va : Value) (g0 g1 : Bool) (kk k : Int) (m n : Nat) (w : World) (hm : m ≤ 1048576) (hn : n ≤ 1048576) (hk0 : 0 ≤ k) (hk1 : k ≤ 1099500000000) (h1 : ownsP w b va (((g0, marksI k m), (g1, marksI (k + m) n)), kk)) :
    Calls Try.prog 13 #[va, .int .i64 k] w fun e w' => e = .returned (.int .i64 (k + m + n)) ∧ Below w.heap.size w w' := by
  obtain ⟨s, t, rfl, s1, t1, hap⟩ := h1
  have s1' : ownsI w b s (marksI k m) := s1
  have t1' : ownsI w b t (marksI (k + m) n) := t1
  have k0 := fun W (h : Below w.heap.size w W) => heldW b (.agg #[.bool g0, s]) g0 k m W hm hk0 (by omega) ⟨_, rfl, ownsI.below s1' h (Nat.le_refl _)⟩
  have k1 := fun W (h : Below w.heap.size w W) => heldW b (.agg #[.bool g1, t]) g1 (k + m) n W hn (by omega) (by omega) ⟨_, rfl, ownsI.below t1' h (Nat.le_refl _)⟩
  have hA : ¬ (k + (m : Int) < 0) := by omega
  have hB : ¬ (k + (m : Int) + (n : Int) < 0) := by omega
  have B := below1 w (.cells #[.bool g0, s, .bool g1, t, .int .i64 kk] 30)
  have X := Bx5.made w (.bool g0) s (.bool g1) t (.int .i64 kk) 30
  clear s1 t1 s1' t1' hap
  go_enter Try.func13, Try.ntmps13
  go_wp2_with fail
  refine (k0 _ B).mono ?_
  generalize w.alloc (.cells #[.bool g0, s, .bool g1, t, .int .i64 kk] 30) = w0 at *
  rintro e w1 ⟨rfl, b1⟩
  have X1 := X.below b1 (Nat.le_refl _)
  have B1 := B.trans (b1.mono B.size)
  have c2 := X1.c2
  have c3 := X1.c3
  go_wp2_with fail
  refine (k1 _ B1).mono ?_
  rintro e w2 ⟨rfl, b2⟩
  have B2 := B1.trans (b2.mono B1.size)
  clear c2 c3 k0 k1
  go_wp2
  go_ret
  exact ⟨rfl, B2⟩

end Go.Proofs.Ytkbnfillbdjboaa
