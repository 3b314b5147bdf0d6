/- A Kern: the law's own toKern, szKern, eqKern, each by its contract. -/
import Derived.Test.YtplgohjmfihpaaaToW
import Derived.Test.YtplgohjmfihpaaaLimbMore
namespace Go.Proofs.Ytplgohjmfihpaaa
open Go.RowKit
set_option linter.unusedSimpArgs false

theorem tnC (w : World) (b i : Nat) (x : Value) : Tn [b] w (w.setCell ⟨b, i, none⟩ x) :=
  ⟨rfl, rfl, rfl, by simp [World.setCell], fun k _ hn => Below.heap_setCell _ _ _ _ (fun e => hn (by simp [e]))⟩
/-- The box of a variable of 6 cells. -/
structure Bx6 (w : World) (base b : Nat) (x0 x1 x2 x3 x4 x5 : Value) : Prop where
  lo : base ≤ b
  hi : b < w.heap.size
  c0 : w.cell? ⟨b, 0, none⟩ = some x0
  c1 : w.cell? ⟨b, 1, none⟩ = some x1
  c2 : w.cell? ⟨b, 2, none⟩ = some x2
  c3 : w.cell? ⟨b, 3, none⟩ = some x3
  c4 : w.cell? ⟨b, 4, none⟩ = some x4
  c5 : w.cell? ⟨b, 5, none⟩ = some x5
  f0 : w.frozen? ⟨b, 0, none⟩ = false
  f1 : w.frozen? ⟨b, 1, none⟩ = false
  f2 : w.frozen? ⟨b, 2, none⟩ = false
  f3 : w.frozen? ⟨b, 3, none⟩ = false
  f4 : w.frozen? ⟨b, 4, none⟩ = false
  f5 : w.frozen? ⟨b, 5, none⟩ = false
theorem Bx6.made (w : World) (x0 x1 x2 x3 x4 x5 : Value) (t : TypeId) : Bx6 (w.alloc (.cells #[x0, x1, x2, x3, x4, x5] t)) w.heap.size w.heap.size x0 x1 x2 x3 x4 x5 :=
  ⟨Nat.le_refl _, by simp, by simp, by simp, by simp, by simp, by simp, by simp, by simp, by simp, by simp, by simp, by simp, by simp⟩
theorem Bx6.below {w w' : World} {base b B : Nat} {x0 x1 x2 x3 x4 x5 : Value} (h : Bx6 w base b x0 x1 x2 x3 x4 x5) (hb : Below B w w') (hB : w.heap.size ≤ B) : Bx6 w' base b x0 x1 x2 x3 x4 x5 :=
  have hlt : b < B := Nat.lt_of_lt_of_le h.hi hB
  ⟨h.lo, Nat.lt_of_lt_of_le h.hi hb.size, (hb.cell (p := ⟨b, 0, none⟩) hlt).trans h.c0, (hb.cell (p := ⟨b, 1, none⟩) hlt).trans h.c1, (hb.cell (p := ⟨b, 2, none⟩) hlt).trans h.c2, (hb.cell (p := ⟨b, 3, none⟩) hlt).trans h.c3, (hb.cell (p := ⟨b, 4, none⟩) hlt).trans h.c4, (hb.cell (p := ⟨b, 5, none⟩) hlt).trans h.c5, (hb.frozen (p := ⟨b, 0, none⟩) hlt).trans h.f0, (hb.frozen (p := ⟨b, 1, none⟩) hlt).trans h.f1, (hb.frozen (p := ⟨b, 2, none⟩) hlt).trans h.f2, (hb.frozen (p := ⟨b, 3, none⟩) hlt).trans h.f3, (hb.frozen (p := ⟨b, 4, none⟩) hlt).trans h.f4, (hb.frozen (p := ⟨b, 5, none⟩) hlt).trans h.f5⟩
theorem Bx6.mono {w : World} {base base' b : Nat} {x0 x1 x2 x3 x4 x5 : Value} (h : Bx6 w base b x0 x1 x2 x3 x4 x5) (hb : base' ≤ base) : Bx6 w base' b x0 x1 x2 x3 x4 x5 :=
  ⟨Nat.le_trans hb h.lo, h.hi, h.c0, h.c1, h.c2, h.c3, h.c4, h.c5, h.f0, h.f1, h.f2, h.f3, h.f4, h.f5⟩
theorem Bx6.ltb {w : World} {base b : Nat} {x0 x1 x2 x3 x4 x5 : Value} (h : Bx6 w base b x0 x1 x2 x3 x4 x5) : ∀ k ∈ [b], base ≤ k ∧ k < w.heap.size := fun k hk => by
  simp at hk
  subst hk
  exact ⟨h.lo, h.hi⟩
theorem Bx6.tn {w w' : World} {base b : Nat} {x0 x1 x2 x3 x4 x5 : Value} {S : List Nat} (h : Bx6 w base b x0 x1 x2 x3 x4 x5) (ht : Tn S w w') (ha : Apart [b] S) : Bx6 w' base b x0 x1 x2 x3 x4 x5 := by
  have hk := ht.block b h.hi (ha b (by simp))
  have hc := fun i => World.cell?_of_block (w := w) (w' := w') (a := ⟨b, i, none⟩) hk
  have hf := fun i => World.frozen?_of_block (w := w) (w' := w') (a := ⟨b, i, none⟩) hk
  exact ⟨h.lo, Nat.lt_of_lt_of_le h.hi ht.size, (hc 0).trans h.c0, (hc 1).trans h.c1, (hc 2).trans h.c2, (hc 3).trans h.c3, (hc 4).trans h.c4, (hc 5).trans h.c5, (hf 0).trans h.f0, (hf 1).trans h.f1, (hf 2).trans h.f2, (hf 3).trans h.f3, (hf 4).trans h.f4, (hf 5).trans h.f5⟩
theorem Bx6.set0 {w : World} {base b : Nat} {x0 x1 x2 x3 x4 x5 : Value} (h : Bx6 w base b x0 x1 x2 x3 x4 x5) (x : Value) : Bx6 (w.setCell ⟨b, 0, none⟩ x) base b x x1 x2 x3 x4 x5 :=
  have c0 := h.c0; have c1 := h.c1; have c2 := h.c2; have c3 := h.c3; have c4 := h.c4; have c5 := h.c5; have f0 := h.f0; have f1 := h.f1; have f2 := h.f2; have f3 := h.f3; have f4 := h.f4; have f5 := h.f5
  ⟨h.lo, by have := h.hi; simpa [World.setCell] using this, World.cell?_setCell_same _ _ _ c0, (World.cell?_setCell_other _ _ _ _ (by simp)).trans c1, (World.cell?_setCell_other _ _ _ _ (by simp)).trans c2, (World.cell?_setCell_other _ _ _ _ (by simp)).trans c3, (World.cell?_setCell_other _ _ _ _ (by simp)).trans c4, (World.cell?_setCell_other _ _ _ _ (by simp)).trans c5, by simp [*], by simp [*], by simp [*], by simp [*], by simp [*], by simp [*]⟩
theorem Bx6.set1 {w : World} {base b : Nat} {x0 x1 x2 x3 x4 x5 : Value} (h : Bx6 w base b x0 x1 x2 x3 x4 x5) (x : Value) : Bx6 (w.setCell ⟨b, 1, none⟩ x) base b x0 x x2 x3 x4 x5 :=
  have c0 := h.c0; have c1 := h.c1; have c2 := h.c2; have c3 := h.c3; have c4 := h.c4; have c5 := h.c5; have f0 := h.f0; have f1 := h.f1; have f2 := h.f2; have f3 := h.f3; have f4 := h.f4; have f5 := h.f5
  ⟨h.lo, by have := h.hi; simpa [World.setCell] using this, (World.cell?_setCell_other _ _ _ _ (by simp)).trans c0, World.cell?_setCell_same _ _ _ c1, (World.cell?_setCell_other _ _ _ _ (by simp)).trans c2, (World.cell?_setCell_other _ _ _ _ (by simp)).trans c3, (World.cell?_setCell_other _ _ _ _ (by simp)).trans c4, (World.cell?_setCell_other _ _ _ _ (by simp)).trans c5, by simp [*], by simp [*], by simp [*], by simp [*], by simp [*], by simp [*]⟩
theorem Bx6.set2 {w : World} {base b : Nat} {x0 x1 x2 x3 x4 x5 : Value} (h : Bx6 w base b x0 x1 x2 x3 x4 x5) (x : Value) : Bx6 (w.setCell ⟨b, 2, none⟩ x) base b x0 x1 x x3 x4 x5 :=
  have c0 := h.c0; have c1 := h.c1; have c2 := h.c2; have c3 := h.c3; have c4 := h.c4; have c5 := h.c5; have f0 := h.f0; have f1 := h.f1; have f2 := h.f2; have f3 := h.f3; have f4 := h.f4; have f5 := h.f5
  ⟨h.lo, by have := h.hi; simpa [World.setCell] using this, (World.cell?_setCell_other _ _ _ _ (by simp)).trans c0, (World.cell?_setCell_other _ _ _ _ (by simp)).trans c1, World.cell?_setCell_same _ _ _ c2, (World.cell?_setCell_other _ _ _ _ (by simp)).trans c3, (World.cell?_setCell_other _ _ _ _ (by simp)).trans c4, (World.cell?_setCell_other _ _ _ _ (by simp)).trans c5, by simp [*], by simp [*], by simp [*], by simp [*], by simp [*], by simp [*]⟩
theorem Bx6.set3 {w : World} {base b : Nat} {x0 x1 x2 x3 x4 x5 : Value} (h : Bx6 w base b x0 x1 x2 x3 x4 x5) (x : Value) : Bx6 (w.setCell ⟨b, 3, none⟩ x) base b x0 x1 x2 x x4 x5 :=
  have c0 := h.c0; have c1 := h.c1; have c2 := h.c2; have c3 := h.c3; have c4 := h.c4; have c5 := h.c5; have f0 := h.f0; have f1 := h.f1; have f2 := h.f2; have f3 := h.f3; have f4 := h.f4; have f5 := h.f5
  ⟨h.lo, by have := h.hi; simpa [World.setCell] using this, (World.cell?_setCell_other _ _ _ _ (by simp)).trans c0, (World.cell?_setCell_other _ _ _ _ (by simp)).trans c1, (World.cell?_setCell_other _ _ _ _ (by simp)).trans c2, World.cell?_setCell_same _ _ _ c3, (World.cell?_setCell_other _ _ _ _ (by simp)).trans c4, (World.cell?_setCell_other _ _ _ _ (by simp)).trans c5, by simp [*], by simp [*], by simp [*], by simp [*], by simp [*], by simp [*]⟩
theorem Bx6.set4 {w : World} {base b : Nat} {x0 x1 x2 x3 x4 x5 : Value} (h : Bx6 w base b x0 x1 x2 x3 x4 x5) (x : Value) : Bx6 (w.setCell ⟨b, 4, none⟩ x) base b x0 x1 x2 x3 x x5 :=
  have c0 := h.c0; have c1 := h.c1; have c2 := h.c2; have c3 := h.c3; have c4 := h.c4; have c5 := h.c5; have f0 := h.f0; have f1 := h.f1; have f2 := h.f2; have f3 := h.f3; have f4 := h.f4; have f5 := h.f5
  ⟨h.lo, by have := h.hi; simpa [World.setCell] using this, (World.cell?_setCell_other _ _ _ _ (by simp)).trans c0, (World.cell?_setCell_other _ _ _ _ (by simp)).trans c1, (World.cell?_setCell_other _ _ _ _ (by simp)).trans c2, (World.cell?_setCell_other _ _ _ _ (by simp)).trans c3, World.cell?_setCell_same _ _ _ c4, (World.cell?_setCell_other _ _ _ _ (by simp)).trans c5, by simp [*], by simp [*], by simp [*], by simp [*], by simp [*], by simp [*]⟩
theorem Bx6.set5 {w : World} {base b : Nat} {x0 x1 x2 x3 x4 x5 : Value} (h : Bx6 w base b x0 x1 x2 x3 x4 x5) (x : Value) : Bx6 (w.setCell ⟨b, 5, none⟩ x) base b x0 x1 x2 x3 x4 x :=
  have c0 := h.c0; have c1 := h.c1; have c2 := h.c2; have c3 := h.c3; have c4 := h.c4; have c5 := h.c5; have f0 := h.f0; have f1 := h.f1; have f2 := h.f2; have f3 := h.f3; have f4 := h.f4; have f5 := h.f5
  ⟨h.lo, by have := h.hi; simpa [World.setCell] using this, (World.cell?_setCell_other _ _ _ _ (by simp)).trans c0, (World.cell?_setCell_other _ _ _ _ (by simp)).trans c1, (World.cell?_setCell_other _ _ _ _ (by simp)).trans c2, (World.cell?_setCell_other _ _ _ _ (by simp)).trans c3, (World.cell?_setCell_other _ _ _ _ (by simp)).trans c4, World.cell?_setCell_same _ _ _ c5, by simp [*], by simp [*], by simp [*], by simp [*], by simp [*], by simp [*]⟩
theorem Bx6.other {w : World} {base b : Nat} {x0 x1 x2 x3 x4 x5 : Value} (h : Bx6 w base b x0 x1 x2 x3 x4 x5) (b' i : Nat) (hb : b ≠ b') (x : Value) : Bx6 (w.setCell ⟨b', i, none⟩ x) base b x0 x1 x2 x3 x4 x5 :=
  h.tn (tnC w b' i x) (fun k hk hs => by simp at hk hs; omega)
theorem ownsI.other {w : World} {base : Nat} {v : Value} {xs : List Int} (h : ownsI w base v xs) (b i : Nat) (hb : b < base) (x : Value) : ownsI (w.setCell ⟨b, i, none⟩ x) base v xs :=
  h.tn (tnC w b i x) (fun k hk hs => by have := (h.ltb k hk).1; simp at hs; omega)


theorem hid_of {p : Prop} (h : p) : Hid p := h
structure Kh where
  x : Wh
  y : Wh
  z : Wh
def ownsK (w : World) (base : Nat) (val : Value) (a : Kh) : Prop := ∃ s t u, val = .agg #[.bool a.x.1, s, .bool a.y.1, t, .bool a.z.1, u] ∧ ownsI w base s a.x.2 ∧ ownsI w base t a.y.2 ∧ ownsI w base u a.z.2
def rowK (w : World) (val : Value) (a : Kh) : Prop := ∃ s t u, val = .agg #[.bool a.x.1, s, .bool a.y.1, t, .bool a.z.1, u] ∧ rowI w s a.x.2 ∧ rowI w t a.y.2 ∧ rowI w u a.z.2
theorem ownsK.row {w : World} {base : Nat} {v : Value} {a : Kh} (h : ownsK w base v a) : rowK w v a := by
  obtain ⟨s, t, u, rfl, h1, h2, h3⟩ := h
  exact ⟨s, t, u, rfl, h1.row, h2.row, h3.row⟩
theorem rowK.below {w w' : World} {v : Value} {a : Kh} {B : Nat} (h : rowK w v a) (hb : Below B w w') (hB : w.heap.size ≤ B) : rowK w' v a := by
  obtain ⟨s, t, u, rfl, h1, h2, h3⟩ := h
  exact ⟨s, t, u, rfl, h1.below hb hB, h2.below hb hB, h3.below hb hB⟩
theorem ownsK.below {w w' : World} {base B : Nat} {v : Value} {a : Kh} (h : ownsK w base v a) (hb : Below B w w') (hB : w.heap.size ≤ B) : ownsK w' base v a := by
  obtain ⟨s, t, u, rfl, h1, h2, h3⟩ := h
  exact ⟨s, t, u, rfl, ownsI.below h1 hb hB, ownsI.below h2 hb hB, ownsI.below h3 hb hB⟩

set_option maxRecDepth 20000 in
set_option maxHeartbeats 12800000 in
theorem toK (g0 : Bool) (a0 : Option Addr) (n0 c0 : Nat) (zs0 : List Int) (g1 : Bool) (a1 : Option Addr) (n1 c1 : Nat) (zs1 : List Int) (g2 : Bool) (a2 : Option Addr) (n2 c2 : Nat) (zs2 : List Int) (w : World) (h0 : n0 ≤ 1048576) (h1 : n1 ≤ 1048576) (h2 : n2 ≤ 1048576) (hr0 : IsRow .i64 w a0 n0 c0 zs0) (hr1 : IsRow .i64 w a1 n1 c1 zs1) (hr2 : IsRow .i64 w a2 n2 c2 zs2) :
    Calls Try.prog 9 #[.agg #[.bool g0, .slice a0 n0 c0, .bool g1, .slice a1 n1 c1, .bool g2, .slice a2 n2 c2]] w fun e w' => ∃ v', e = .returned v' ∧ ownsK w' w.heap.size v' ⟨(g0, zs0.take n0), (g1, zs1.take n1), (g2, zs2.take n2)⟩ ∧ Below w.heap.size w w' := by
  have T0 := fun W (h : Below w.heap.size w W) => toW g0 a0 n0 c0 zs0 W h0 (hr0.below h)
  obtain ⟨xs0, hx0⟩ : ∃ xs, zs0.take n0 = xs := ⟨_, rfl⟩
  rw [hx0] at T0
  rw [hx0]
  clear hx0 hr0
  have T1 := fun W (h : Below w.heap.size w W) => toW g1 a1 n1 c1 zs1 W h1 (hr1.below h)
  obtain ⟨xs1, hx1⟩ : ∃ xs, zs1.take n1 = xs := ⟨_, rfl⟩
  rw [hx1] at T1
  rw [hx1]
  clear hx1 hr1
  have T2 := fun W (h : Below w.heap.size w W) => toW g2 a2 n2 c2 zs2 W h2 (hr2.below h)
  obtain ⟨xs2, hx2⟩ : ∃ xs, zs2.take n2 = xs := ⟨_, rfl⟩
  rw [hx2] at T2
  rw [hx2]
  clear hx2 hr2
  have s1 : (w.alloc (.cells #[.bool g0, .slice a0 n0 c0, .bool g1, .slice a1 n1 c1, .bool g2, .slice a2 n2 c2] 26)).heap.size = w.heap.size + 1 := by simp
  have s2 : ((w.alloc (.cells #[.bool g0, .slice a0 n0 c0, .bool g1, .slice a1 n1 c1, .bool g2, .slice a2 n2 c2] 26)).alloc (.cells #[.bool false, .slice none 0 0, .bool false, .slice none 0 0, .bool false, .slice none 0 0] 31)).heap.size = w.heap.size + 1 + 1 := by simp
  have X := ((Bx6.made w (.bool g0) (.slice a0 n0 c0) (.bool g1) (.slice a1 n1 c1) (.bool g2) (.slice a2 n2 c2) 26).below (below1 _ (.cells #[.bool false, .slice none 0 0, .bool false, .slice none 0 0, .bool false, .slice none 0 0] 31)) (Nat.le_refl _)).below (below1 _ (.cells #[.bool false, .slice none 0 0, .bool false, .slice none 0 0, .bool false, .slice none 0 0] 31)) (Nat.le_refl _)
  have R := (Bx6.made (w.alloc (.cells #[.bool g0, .slice a0 n0 c0, .bool g1, .slice a1 n1 c1, .bool g2, .slice a2 n2 c2] 26)) (.bool false) (.slice none 0 0) (.bool false) (.slice none 0 0) (.bool false) (.slice none 0 0) 31).below (below1 _ (.cells #[.bool false, .slice none 0 0, .bool false, .slice none 0 0, .bool false, .slice none 0 0] 31)) (Nat.le_refl _)
  have V := Bx6.made ((w.alloc (.cells #[.bool g0, .slice a0 n0 c0, .bool g1, .slice a1 n1 c1, .bool g2, .slice a2 n2 c2] 26)).alloc (.cells #[.bool false, .slice none 0 0, .bool false, .slice none 0 0, .bool false, .slice none 0 0] 31)) (.bool false) (.slice none 0 0) (.bool false) (.slice none 0 0) (.bool false) (.slice none 0 0) 31
  have B := below3 w (.cells #[.bool g0, .slice a0 n0 c0, .bool g1, .slice a1 n1 c1, .bool g2, .slice a2 n2 c2] 26) (.cells #[.bool false, .slice none 0 0, .bool false, .slice none 0 0, .bool false, .slice none 0 0] 31) (.cells #[.bool false, .slice none 0 0, .bool false, .slice none 0 0, .bool false, .slice none 0 0] 31)
  rw [s1] at R
  rw [s2] at V
  clear s1 s2
  go_enter Try.func9, Try.ntmps9
  go_wp2_with fail
  refine (T0 _ B).mono ?_
  generalize ((w.alloc (.cells #[.bool g0, .slice a0 n0 c0, .bool g1, .slice a1 n1 c1, .bool g2, .slice a2 n2 c2] 26)).alloc (.cells #[.bool false, .slice none 0 0, .bool false, .slice none 0 0, .bool false, .slice none 0 0] 31)).alloc (.cells #[.bool false, .slice none 0 0, .bool false, .slice none 0 0, .bool false, .slice none 0 0] 31) = u0 at *
  rintro e w1 ⟨v0, rfl, O0, b0⟩
  have hV0 := V.hi
  have X := X.below b0 (Nat.le_refl _)
  have R := R.below b0 (Nat.le_refl _)
  have V := V.below b0 (Nat.le_refl _)
  have hsz0 := B.size
  have B := B.trans (b0.mono B.size)
  obtain ⟨s0, rfl, o0'⟩ := O0
  obtain ⟨ad0, cp0, rfl, -⟩ := o0'.row
  have o0 : ownsI w1 u0.heap.size (.slice ad0 xs0.length cp0) xs0 := o0'
  clear o0'
  have hx0 : ¬ (w.heap.size + 1 + 1 = w.heap.size) := by omega
  have hx1 : ¬ (w.heap.size = w.heap.size + 1 + 1) := by omega
  have hx2 : ¬ (w.heap.size + 1 + 1 = w.heap.size + 1) := by omega
  have hx3 : ¬ (w.heap.size + 1 = w.heap.size + 1 + 1) := by omega
  have hx4 : ¬ (w.heap.size + 1 = w.heap.size) := by omega
  have hx5 : ¬ (w.heap.size = w.heap.size + 1) := by omega
  have e0 := V.c0
  have d0 := V.f0
  have e1 := V.c1
  have d1 := V.f1
  have X := ((X.other (w.heap.size + 1 + 1) 0 (by omega) (.bool g0)).other (w.heap.size + 1 + 1) 1 (by omega) (.slice ad0 xs0.length cp0))
  have R := ((R.other (w.heap.size + 1 + 1) 0 (by omega) (.bool g0)).other (w.heap.size + 1 + 1) 1 (by omega) (.slice ad0 xs0.length cp0))
  have V := ((V.set0 (.bool g0)).set1 (.slice ad0 xs0.length cp0))
  have B := ((B.setCell (p := ⟨w.heap.size + 1 + 1, 0, none⟩) (by show w.heap.size ≤ w.heap.size + 1 + 1; omega) (.bool g0)).setCell (p := ⟨w.heap.size + 1 + 1, 1, none⟩) (by show w.heap.size ≤ w.heap.size + 1 + 1; omega) (.slice ad0 xs0.length cp0))
  have o0 := ((o0.other (w.heap.size + 1 + 1) 0 (by omega) (.bool g0)).other (w.heap.size + 1 + 1) 1 (by omega) (.slice ad0 xs0.length cp0))
  have x2 := X.c2
  have x3 := X.c3
  go_wp2_with fail
  clear e0 d0 e1 d1 x2 x3
  refine (T1 _ B).mono ?_
  generalize ((w1.setCell ⟨w.heap.size + 1 + 1, 0, none⟩ (.bool g0)).setCell ⟨w.heap.size + 1 + 1, 1, none⟩ (.slice ad0 xs0.length cp0)) = u1 at *
  rintro e w2 ⟨v1, rfl, O1, b1⟩
  have hV0 := V.hi
  have X := X.below b1 (Nat.le_refl _)
  have R := R.below b1 (Nat.le_refl _)
  have V := V.below b1 (Nat.le_refl _)
  have hsz1 := B.size
  have B := B.trans (b1.mono B.size)
  have o0 := ownsI.below o0 b1 (Nat.le_refl _)
  obtain ⟨s1, rfl, o1'⟩ := O1
  obtain ⟨ad1, cp1, rfl, -⟩ := o1'.row
  have o1 : ownsI w2 u1.heap.size (.slice ad1 xs1.length cp1) xs1 := o1'
  clear o1'
  have e2 := V.c2
  have d2 := V.f2
  have e3 := V.c3
  have d3 := V.f3
  have X := ((X.other (w.heap.size + 1 + 1) 2 (by omega) (.bool g1)).other (w.heap.size + 1 + 1) 3 (by omega) (.slice ad1 xs1.length cp1))
  have R := ((R.other (w.heap.size + 1 + 1) 2 (by omega) (.bool g1)).other (w.heap.size + 1 + 1) 3 (by omega) (.slice ad1 xs1.length cp1))
  have V := ((V.set2 (.bool g1)).set3 (.slice ad1 xs1.length cp1))
  have B := ((B.setCell (p := ⟨w.heap.size + 1 + 1, 2, none⟩) (by show w.heap.size ≤ w.heap.size + 1 + 1; omega) (.bool g1)).setCell (p := ⟨w.heap.size + 1 + 1, 3, none⟩) (by show w.heap.size ≤ w.heap.size + 1 + 1; omega) (.slice ad1 xs1.length cp1))
  have o0 := ((o0.other (w.heap.size + 1 + 1) 2 (by omega) (.bool g1)).other (w.heap.size + 1 + 1) 3 (by omega) (.slice ad1 xs1.length cp1))
  have o1 := ((o1.other (w.heap.size + 1 + 1) 2 (by omega) (.bool g1)).other (w.heap.size + 1 + 1) 3 (by omega) (.slice ad1 xs1.length cp1))
  have x4 := X.c4
  have x5 := X.c5
  go_wp2_with fail
  clear e2 d2 e3 d3 x4 x5
  refine (T2 _ B).mono ?_
  generalize ((w2.setCell ⟨w.heap.size + 1 + 1, 2, none⟩ (.bool g1)).setCell ⟨w.heap.size + 1 + 1, 3, none⟩ (.slice ad1 xs1.length cp1)) = u2 at *
  rintro e w3 ⟨v2, rfl, O2, b2⟩
  have hV0 := V.hi
  have X := X.below b2 (Nat.le_refl _)
  have R := R.below b2 (Nat.le_refl _)
  have V := V.below b2 (Nat.le_refl _)
  have hsz2 := B.size
  have B := B.trans (b2.mono B.size)
  have o0 := ownsI.below o0 b2 (Nat.le_refl _)
  have o1 := ownsI.below o1 b2 (Nat.le_refl _)
  obtain ⟨s2, rfl, o2'⟩ := O2
  obtain ⟨ad2, cp2, rfl, -⟩ := o2'.row
  have o2 : ownsI w3 u2.heap.size (.slice ad2 xs2.length cp2) xs2 := o2'
  clear o2'
  have e0 := V.c0
  have d0 := V.f0
  have r0 := R.c0
  have t0 := R.f0
  have e1 := V.c1
  have d1 := V.f1
  have r1 := R.c1
  have t1 := R.f1
  have e2 := V.c2
  have d2 := V.f2
  have r2 := R.c2
  have t2 := R.f2
  have e3 := V.c3
  have d3 := V.f3
  have r3 := R.c3
  have t3 := R.f3
  have e4 := V.c4
  have d4 := V.f4
  have r4 := R.c4
  have t4 := R.f4
  have e5 := V.c5
  have d5 := V.f5
  have r5 := R.c5
  have t5 := R.f5
  have HB : Hid (Below w.heap.size w _) := ((((((((B.setCell (p := ⟨w.heap.size + 1 + 1, 4, none⟩) (by show w.heap.size ≤ w.heap.size + 1 + 1; omega) (.bool g2)).setCell (p := ⟨w.heap.size + 1 + 1, 5, none⟩) (by show w.heap.size ≤ w.heap.size + 1 + 1; omega) (.slice ad2 xs2.length cp2)).setCell (p := ⟨w.heap.size + 1, 0, none⟩) (by show w.heap.size ≤ w.heap.size + 1; omega) (.bool g0)).setCell (p := ⟨w.heap.size + 1, 1, none⟩) (by show w.heap.size ≤ w.heap.size + 1; omega) (.slice ad0 xs0.length cp0)).setCell (p := ⟨w.heap.size + 1, 2, none⟩) (by show w.heap.size ≤ w.heap.size + 1; omega) (.bool g1)).setCell (p := ⟨w.heap.size + 1, 3, none⟩) (by show w.heap.size ≤ w.heap.size + 1; omega) (.slice ad1 xs1.length cp1)).setCell (p := ⟨w.heap.size + 1, 4, none⟩) (by show w.heap.size ≤ w.heap.size + 1; omega) (.bool g2)).setCell (p := ⟨w.heap.size + 1, 5, none⟩) (by show w.heap.size ≤ w.heap.size + 1; omega) (.slice ad2 xs2.length cp2))
  have Ho0 := hid_of ((((((((o0.other (w.heap.size + 1 + 1) 4 (by omega) (.bool g2)).other (w.heap.size + 1 + 1) 5 (by omega) (.slice ad2 xs2.length cp2)).other (w.heap.size + 1) 0 (by omega) (.bool g0)).other (w.heap.size + 1) 1 (by omega) (.slice ad0 xs0.length cp0)).other (w.heap.size + 1) 2 (by omega) (.bool g1)).other (w.heap.size + 1) 3 (by omega) (.slice ad1 xs1.length cp1)).other (w.heap.size + 1) 4 (by omega) (.bool g2)).other (w.heap.size + 1) 5 (by omega) (.slice ad2 xs2.length cp2))
  have Ho1 := hid_of ((((((((o1.other (w.heap.size + 1 + 1) 4 (by omega) (.bool g2)).other (w.heap.size + 1 + 1) 5 (by omega) (.slice ad2 xs2.length cp2)).other (w.heap.size + 1) 0 (by omega) (.bool g0)).other (w.heap.size + 1) 1 (by omega) (.slice ad0 xs0.length cp0)).other (w.heap.size + 1) 2 (by omega) (.bool g1)).other (w.heap.size + 1) 3 (by omega) (.slice ad1 xs1.length cp1)).other (w.heap.size + 1) 4 (by omega) (.bool g2)).other (w.heap.size + 1) 5 (by omega) (.slice ad2 xs2.length cp2))
  have Ho2 := hid_of ((((((((o2.other (w.heap.size + 1 + 1) 4 (by omega) (.bool g2)).other (w.heap.size + 1 + 1) 5 (by omega) (.slice ad2 xs2.length cp2)).other (w.heap.size + 1) 0 (by omega) (.bool g0)).other (w.heap.size + 1) 1 (by omega) (.slice ad0 xs0.length cp0)).other (w.heap.size + 1) 2 (by omega) (.bool g1)).other (w.heap.size + 1) 3 (by omega) (.slice ad1 xs1.length cp1)).other (w.heap.size + 1) 4 (by omega) (.bool g2)).other (w.heap.size + 1) 5 (by omega) (.slice ad2 xs2.length cp2))
  clear X R V B o0 o1 o2
  go_wp2
  (try simp only [Exit.inBlock, Exit.then])
  refine bodyPost_ret (v := .agg #[.bool g0, .slice ad0 xs0.length cp0, .bool g1, .slice ad1 xs1.length cp1, .bool g2, .slice ad2 xs2.length cp2]) ?_ rfl ⟨_, rfl, ⟨_, _, _, rfl, ownsI_mono Ho0.out hsz0, ownsI_mono Ho1.out hsz1, ownsI_mono Ho2.out hsz2⟩, HB.out⟩
  rw [results_cell1 rfl]
  go_simp

set_option maxRecDepth 20000 in
set_option maxHeartbeats 3200000 in
theorem szK_yes (g0 : Bool) (a0 : Option Addr) (n0 c0 : Nat) (g1 : Bool) (a1 : Option Addr) (n1 c1 : Nat) (g2 : Bool) (a2 : Option Addr) (n2 c2 : Nat) (left : Int) (w : World) (h1 : left ≤ 1048576) (h : (n0 : Int) + n1 + n2 ≤ left) :
    Calls Try.prog 7 #[.agg #[.bool g0, .slice a0 n0 c0, .bool g1, .slice a1 n1 c1, .bool g2, .slice a2 n2 c2], .int .i64 left] w fun e w' => e = .returned (.int .i64 (left - (n0 : Int) - (n1 : Int) - (n2 : Int))) ∧ Below w.heap.size w w' := by
  have q0 : ¬ (left - (n0 : Int) < 0) := by omega
  have q1 : ¬ (left - (n0 : Int) - (n1 : Int) < 0) := by omega
  have q2 : ¬ (left - (n0 : Int) - (n1 : Int) - (n2 : Int) < 0) := by omega
  have X := Bx6.made w (.bool g0) (.slice a0 n0 c0) (.bool g1) (.slice a1 n1 c1) (.bool g2) (.slice a2 n2 c2) 26
  have B := below1 w (.cells #[.bool g0, .slice a0 n0 c0, .bool g1, .slice a1 n1 c1, .bool g2, .slice a2 n2 c2] 26)
  go_enter Try.func7, Try.ntmps7
  go_wp2_with fail
  refine (szW_yes g0 a0 n0 c0 left _ (by omega) (by omega)).mono ?_
  generalize w.alloc (.cells #[.bool g0, .slice a0 n0 c0, .bool g1, .slice a1 n1 c1, .bool g2, .slice a2 n2 c2] 26) = u0 at *
  rintro e w1 ⟨rfl, b0⟩
  have X := X.below b0 (Nat.le_refl _)
  have B := B.trans (b0.mono B.size)
  have x2 := X.c2
  have x3 := X.c3
  go_wp2_with fail
  refine (szW_yes g1 a1 n1 c1 (left - (n0 : Int)) _ (by omega) (by omega)).mono ?_
  clear x2 x3
  rintro e w2 ⟨rfl, b1⟩
  have X := X.below b1 (Nat.le_refl _)
  have B := B.trans (b1.mono B.size)
  have x4 := X.c4
  have x5 := X.c5
  go_wp2_with fail
  refine (szW_yes g2 a2 n2 c2 (left - (n0 : Int) - (n1 : Int)) _ (by omega) (by omega)).mono ?_
  clear x4 x5
  rintro e w3 ⟨rfl, b2⟩
  have X := X.below b2 (Nat.le_refl _)
  have B := B.trans (b2.mono B.size)
  clear X
  go_wp2
  go_ret
  exact ⟨rfl, B⟩

set_option maxRecDepth 20000 in
set_option maxHeartbeats 3200000 in
theorem szK_no (g0 : Bool) (a0 : Option Addr) (n0 c0 : Nat) (g1 : Bool) (a1 : Option Addr) (n1 c1 : Nat) (g2 : Bool) (a2 : Option Addr) (n2 c2 : Nat) (left : Int) (w : World) (h0 : 0 ≤ left) (h1 : left ≤ 1048576) (k0 : n0 ≤ 9223372036854775807) (k1 : n1 ≤ 9223372036854775807) (k2 : n2 ≤ 9223372036854775807) (h : left < (n0 : Int) + n1 + n2) :
    Calls Try.prog 7 #[.agg #[.bool g0, .slice a0 n0 c0, .bool g1, .slice a1 n1 c1, .bool g2, .slice a2 n2 c2], .int .i64 left] w fun e w' => e = .returned (.int .i64 (-1)) ∧ Below w.heap.size w w' := by
  have X := Bx6.made w (.bool g0) (.slice a0 n0 c0) (.bool g1) (.slice a1 n1 c1) (.bool g2) (.slice a2 n2 c2) 26
  have B := below1 w (.cells #[.bool g0, .slice a0 n0 c0, .bool g1, .slice a1 n1 c1, .bool g2, .slice a2 n2 c2] 26)
  by_cases q0 : left - (n0 : Int) < 0
  · go_enter Try.func7, Try.ntmps7
    go_wp2_with fail
    refine (szW_no g0 a0 n0 c0 (left) _ (by omega) (by omega) k0 (by omega)).mono ?_
    generalize w.alloc (.cells #[.bool g0, .slice a0 n0 c0, .bool g1, .slice a1 n1 c1, .bool g2, .slice a2 n2 c2] 26) = u0 at *
    rintro e w1 ⟨rfl, b0⟩
    have X := X.below b0 (Nat.le_refl _)
    have B := B.trans (b0.mono B.size)
    clear X
    go_wp2
    go_ret
    exact ⟨rfl, B⟩
  · by_cases q1 : left - (n0 : Int) - (n1 : Int) < 0
    · go_enter Try.func7, Try.ntmps7
      go_wp2_with fail
      refine (szW_yes g0 a0 n0 c0 (left) _ (by omega) (by omega)).mono ?_
      generalize w.alloc (.cells #[.bool g0, .slice a0 n0 c0, .bool g1, .slice a1 n1 c1, .bool g2, .slice a2 n2 c2] 26) = u0 at *
      rintro e w1 ⟨rfl, b0⟩
      have X := X.below b0 (Nat.le_refl _)
      have B := B.trans (b0.mono B.size)
      have x2 := X.c2
      have x3 := X.c3
      go_wp2_with fail
      refine (szW_no g1 a1 n1 c1 (left - (n0 : Int)) _ (by omega) (by omega) k1 (by omega)).mono ?_
      clear x2 x3
      rintro e w2 ⟨rfl, b1⟩
      have X := X.below b1 (Nat.le_refl _)
      have B := B.trans (b1.mono B.size)
      clear X
      go_wp2
      go_ret
      exact ⟨rfl, B⟩
    · have q2 : left - (n0 : Int) - (n1 : Int) - (n2 : Int) < 0 := by omega
      go_enter Try.func7, Try.ntmps7
      go_wp2_with fail
      refine (szW_yes g0 a0 n0 c0 (left) _ (by omega) (by omega)).mono ?_
      generalize w.alloc (.cells #[.bool g0, .slice a0 n0 c0, .bool g1, .slice a1 n1 c1, .bool g2, .slice a2 n2 c2] 26) = u0 at *
      rintro e w1 ⟨rfl, b0⟩
      have X := X.below b0 (Nat.le_refl _)
      have B := B.trans (b0.mono B.size)
      have x2 := X.c2
      have x3 := X.c3
      go_wp2_with fail
      refine (szW_yes g1 a1 n1 c1 (left - (n0 : Int)) _ (by omega) (by omega)).mono ?_
      clear x2 x3
      rintro e w2 ⟨rfl, b1⟩
      have X := X.below b1 (Nat.le_refl _)
      have B := B.trans (b1.mono B.size)
      have x4 := X.c4
      have x5 := X.c5
      go_wp2_with fail
      refine (szW_no g2 a2 n2 c2 (left - (n0 : Int) - (n1 : Int)) _ (by omega) (by omega) k2 (by omega)).mono ?_
      clear x4 x5
      rintro e w3 ⟨rfl, b2⟩
      have X := X.below b2 (Nat.le_refl _)
      have B := B.trans (b2.mono B.size)
      clear X
      go_wp2
      go_ret
      exact ⟨rfl, B⟩

set_option maxRecDepth 20000 in
set_option maxHeartbeats 6400000 in
theorem eqK' (b1 b2 : Nat) (va vb : Value) (a : Kh) (w : World) (hm : a.x.2.length ≤ 1048576 ∧ a.y.2.length ≤ 1048576 ∧ a.z.2.length ≤ 1048576) (h1 : ownsK w b1 va a) (h2 : ownsK w b2 vb a) :
    Calls Try.prog 11 #[va, vb] w fun e w' => e = .returned (.bool true) ∧ Below w.heap.size w w' := by
  obtain ⟨e0, e1, e2, rfl, o0, o1, o2⟩ := h1
  obtain ⟨f0, f1, f2, rfl, k0, k1, k2⟩ := h2
  obtain ⟨⟨xg, xl⟩, ⟨yg, yl⟩, ⟨zg, zl⟩⟩ := a
  simp only at *
  have K0 := fun W (h : Below w.heap.size w W) => eqW' b1 b2 _ _ (xg, xl) W hm.1 ⟨e0, rfl, ownsI.below o0 h (Nat.le_refl _)⟩ ⟨f0, rfl, ownsI.below k0 h (Nat.le_refl _)⟩
  have K1 := fun W (h : Below w.heap.size w W) => eqW' b1 b2 _ _ (yg, yl) W hm.2.1 ⟨e1, rfl, ownsI.below o1 h (Nat.le_refl _)⟩ ⟨f1, rfl, ownsI.below k1 h (Nat.le_refl _)⟩
  have K2 := fun W (h : Below w.heap.size w W) => eqW' b1 b2 _ _ (zg, zl) W hm.2.2 ⟨e2, rfl, ownsI.below o2 h (Nat.le_refl _)⟩ ⟨f2, rfl, ownsI.below k2 h (Nat.le_refl _)⟩
  obtain ⟨p0, q0, rfl, -⟩ := o0.row
  obtain ⟨r0, k0c, rfl, -⟩ := k0.row
  obtain ⟨p1, q1, rfl, -⟩ := o1.row
  obtain ⟨r1, k1c, rfl, -⟩ := k1.row
  obtain ⟨p2, q2, rfl, -⟩ := o2.row
  obtain ⟨r2, k2c, rfl, -⟩ := k2.row
  simp only at *
  clear o0 o1 o2 k0 k1 k2 hm
  generalize xl.length = l0 at *
  generalize yl.length = l1 at *
  generalize zl.length = l2 at *
  have s1 : (w.alloc (.cells #[.bool xg, .slice p0 l0 q0, .bool yg, .slice p1 l1 q1, .bool zg, .slice p2 l2 q2] 31)).heap.size = w.heap.size + 1 := by simp
  have X := (Bx6.made w (.bool xg) (.slice p0 l0 q0) (.bool yg) (.slice p1 l1 q1) (.bool zg) (.slice p2 l2 q2) 31).below (below1 _ (.cells #[.bool xg, .slice r0 l0 k0c, .bool yg, .slice r1 l1 k1c, .bool zg, .slice r2 l2 k2c] 31)) (Nat.le_refl _)
  have Y := Bx6.made (w.alloc (.cells #[.bool xg, .slice p0 l0 q0, .bool yg, .slice p1 l1 q1, .bool zg, .slice p2 l2 q2] 31)) (.bool xg) (.slice r0 l0 k0c) (.bool yg) (.slice r1 l1 k1c) (.bool zg) (.slice r2 l2 k2c) 31
  rw [s1] at Y
  clear s1
  have B := below2 w (.cells #[.bool xg, .slice p0 l0 q0, .bool yg, .slice p1 l1 q1, .bool zg, .slice p2 l2 q2] 31) (.cells #[.bool xg, .slice r0 l0 k0c, .bool yg, .slice r1 l1 k1c, .bool zg, .slice r2 l2 k2c] 31)
  go_enter Try.func11, Try.ntmps11
  go_wp2_with fail
  refine (K0 _ B).mono ?_
  generalize (w.alloc (.cells #[.bool xg, .slice p0 l0 q0, .bool yg, .slice p1 l1 q1, .bool zg, .slice p2 l2 q2] 31)).alloc (.cells #[.bool xg, .slice r0 l0 k0c, .bool yg, .slice r1 l1 k1c, .bool zg, .slice r2 l2 k2c] 31) = u0 at *
  rintro e w1 ⟨rfl, b0⟩
  have X := X.below b0 (Nat.le_refl _)
  have Y := Y.below b0 (Nat.le_refl _)
  have B := B.trans (b0.mono B.size)
  have x2 := X.c2
  have y2 := Y.c2
  have x3 := X.c3
  have y3 := Y.c3
  go_wp2_with fail
  refine (K1 _ B).mono ?_
  clear x2 y2 x3 y3
  rintro e w2 ⟨rfl, b1⟩
  have X := X.below b1 (Nat.le_refl _)
  have Y := Y.below b1 (Nat.le_refl _)
  have B := B.trans (b1.mono B.size)
  have x4 := X.c4
  have y4 := Y.c4
  have x5 := X.c5
  have y5 := Y.c5
  go_wp2_with fail
  refine (K2 _ B).mono ?_
  clear x4 y4 x5 y5
  rintro e w3 ⟨rfl, b2⟩
  have X := X.below b2 (Nat.le_refl _)
  have Y := Y.below b2 (Nat.le_refl _)
  have B := B.trans (b2.mono B.size)
  clear X Y
  go_wp2
  go_ret
  exact ⟨rfl, B⟩

end Go.Proofs.Ytplgohjmfihpaaa
