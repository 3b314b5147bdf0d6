/- An Answer: the law's own toAnswer, szAnswer, eqAnswer; AnswerSame of the specification and of the program, each by its contract. -/
import Derived.Test.YtocaaklhlmnonaaRowB
import Derived.Test.YtocaaklhlmnonaaToW0
import Derived.Lib.SlicesS
namespace Go.Proofs.Ytocaaklhlmnonaa
open Go.RowKit
set_option linter.unusedSimpArgs false

theorem tnC (w : World) (b i : Nat) (x : Value) : Tn [b] w (w.setCell ⟨b, i, none⟩ x) := tnB w b i x
theorem hid_of {p : Prop} (h : p) : Hid p := h
/-- The box of a variable of 6 cells. -/
structure Bx6 (w : World) (base b : Nat) (x0 x1 x2 x3 x4 x5 : Value) : Prop where
  lo : base ≤ b
  hi : b < w.heap.size
  c0 : w.cell? ⟨b, 0, none⟩ = some x0
  c1 : w.cell? ⟨b, 1, none⟩ = some x1
  c2 : w.cell? ⟨b, 2, none⟩ = some x2
  c3 : w.cell? ⟨b, 3, none⟩ = some x3
  c4 : w.cell? ⟨b, 4, none⟩ = some x4
  c5 : w.cell? ⟨b, 5, none⟩ = some x5
  f0 : w.frozen? ⟨b, 0, none⟩ = false
  f1 : w.frozen? ⟨b, 1, none⟩ = false
  f2 : w.frozen? ⟨b, 2, none⟩ = false
  f3 : w.frozen? ⟨b, 3, none⟩ = false
  f4 : w.frozen? ⟨b, 4, none⟩ = false
  f5 : w.frozen? ⟨b, 5, none⟩ = false
theorem Bx6.made (w : World) (x0 x1 x2 x3 x4 x5 : Value) (t : TypeId) : Bx6 (w.alloc (.cells #[x0, x1, x2, x3, x4, x5] t)) w.heap.size w.heap.size x0 x1 x2 x3 x4 x5 :=
  ⟨Nat.le_refl _, by simp, by simp, by simp, by simp, by simp, by simp, by simp, by simp, by simp, by simp, by simp, by simp, by simp⟩
theorem Bx6.below {w w' : World} {base b B : Nat} {x0 x1 x2 x3 x4 x5 : Value} (h : Bx6 w base b x0 x1 x2 x3 x4 x5) (hb : Below B w w') (hB : w.heap.size ≤ B) : Bx6 w' base b x0 x1 x2 x3 x4 x5 :=
  have hlt : b < B := Nat.lt_of_lt_of_le h.hi hB
  ⟨h.lo, Nat.lt_of_lt_of_le h.hi hb.size, (hb.cell (p := ⟨b, 0, none⟩) hlt).trans h.c0, (hb.cell (p := ⟨b, 1, none⟩) hlt).trans h.c1, (hb.cell (p := ⟨b, 2, none⟩) hlt).trans h.c2, (hb.cell (p := ⟨b, 3, none⟩) hlt).trans h.c3, (hb.cell (p := ⟨b, 4, none⟩) hlt).trans h.c4, (hb.cell (p := ⟨b, 5, none⟩) hlt).trans h.c5, (hb.frozen (p := ⟨b, 0, none⟩) hlt).trans h.f0, (hb.frozen (p := ⟨b, 1, none⟩) hlt).trans h.f1, (hb.frozen (p := ⟨b, 2, none⟩) hlt).trans h.f2, (hb.frozen (p := ⟨b, 3, none⟩) hlt).trans h.f3, (hb.frozen (p := ⟨b, 4, none⟩) hlt).trans h.f4, (hb.frozen (p := ⟨b, 5, none⟩) hlt).trans h.f5⟩
theorem Bx6.mono {w : World} {base base' b : Nat} {x0 x1 x2 x3 x4 x5 : Value} (h : Bx6 w base b x0 x1 x2 x3 x4 x5) (hb : base' ≤ base) : Bx6 w base' b x0 x1 x2 x3 x4 x5 :=
  ⟨Nat.le_trans hb h.lo, h.hi, h.c0, h.c1, h.c2, h.c3, h.c4, h.c5, h.f0, h.f1, h.f2, h.f3, h.f4, h.f5⟩
theorem Bx6.ltb {w : World} {base b : Nat} {x0 x1 x2 x3 x4 x5 : Value} (h : Bx6 w base b x0 x1 x2 x3 x4 x5) : ∀ k ∈ [b], base ≤ k ∧ k < w.heap.size := fun k hk => by
  simp at hk
  subst hk
  exact ⟨h.lo, h.hi⟩
theorem Bx6.tn {w w' : World} {base b : Nat} {x0 x1 x2 x3 x4 x5 : Value} {S : List Nat} (h : Bx6 w base b x0 x1 x2 x3 x4 x5) (ht : Tn S w w') (ha : Apart [b] S) : Bx6 w' base b x0 x1 x2 x3 x4 x5 := by
  have hk := ht.block b h.hi (ha b (by simp))
  have hc := fun i => World.cell?_of_block (w := w) (w' := w') (a := ⟨b, i, none⟩) hk
  have hf := fun i => World.frozen?_of_block (w := w) (w' := w') (a := ⟨b, i, none⟩) hk
  exact ⟨h.lo, Nat.lt_of_lt_of_le h.hi ht.size, (hc 0).trans h.c0, (hc 1).trans h.c1, (hc 2).trans h.c2, (hc 3).trans h.c3, (hc 4).trans h.c4, (hc 5).trans h.c5, (hf 0).trans h.f0, (hf 1).trans h.f1, (hf 2).trans h.f2, (hf 3).trans h.f3, (hf 4).trans h.f4, (hf 5).trans h.f5⟩
theorem Bx6.set0 {w : World} {base b : Nat} {x0 x1 x2 x3 x4 x5 : Value} (h : Bx6 w base b x0 x1 x2 x3 x4 x5) (x : Value) : Bx6 (w.setCell ⟨b, 0, none⟩ x) base b x x1 x2 x3 x4 x5 :=
  have c0 := h.c0; have c1 := h.c1; have c2 := h.c2; have c3 := h.c3; have c4 := h.c4; have c5 := h.c5; have f0 := h.f0; have f1 := h.f1; have f2 := h.f2; have f3 := h.f3; have f4 := h.f4; have f5 := h.f5
  ⟨h.lo, by have := h.hi; simpa [World.setCell] using this, World.cell?_setCell_same _ _ _ c0, (World.cell?_setCell_other _ _ _ _ (by simp)).trans c1, (World.cell?_setCell_other _ _ _ _ (by simp)).trans c2, (World.cell?_setCell_other _ _ _ _ (by simp)).trans c3, (World.cell?_setCell_other _ _ _ _ (by simp)).trans c4, (World.cell?_setCell_other _ _ _ _ (by simp)).trans c5, by simp [*], by simp [*], by simp [*], by simp [*], by simp [*], by simp [*]⟩
theorem Bx6.set1 {w : World} {base b : Nat} {x0 x1 x2 x3 x4 x5 : Value} (h : Bx6 w base b x0 x1 x2 x3 x4 x5) (x : Value) : Bx6 (w.setCell ⟨b, 1, none⟩ x) base b x0 x x2 x3 x4 x5 :=
  have c0 := h.c0; have c1 := h.c1; have c2 := h.c2; have c3 := h.c3; have c4 := h.c4; have c5 := h.c5; have f0 := h.f0; have f1 := h.f1; have f2 := h.f2; have f3 := h.f3; have f4 := h.f4; have f5 := h.f5
  ⟨h.lo, by have := h.hi; simpa [World.setCell] using this, (World.cell?_setCell_other _ _ _ _ (by simp)).trans c0, World.cell?_setCell_same _ _ _ c1, (World.cell?_setCell_other _ _ _ _ (by simp)).trans c2, (World.cell?_setCell_other _ _ _ _ (by simp)).trans c3, (World.cell?_setCell_other _ _ _ _ (by simp)).trans c4, (World.cell?_setCell_other _ _ _ _ (by simp)).trans c5, by simp [*], by simp [*], by simp [*], by simp [*], by simp [*], by simp [*]⟩
theorem Bx6.set2 {w : World} {base b : Nat} {x0 x1 x2 x3 x4 x5 : Value} (h : Bx6 w base b x0 x1 x2 x3 x4 x5) (x : Value) : Bx6 (w.setCell ⟨b, 2, none⟩ x) base b x0 x1 x x3 x4 x5 :=
  have c0 := h.c0; have c1 := h.c1; have c2 := h.c2; have c3 := h.c3; have c4 := h.c4; have c5 := h.c5; have f0 := h.f0; have f1 := h.f1; have f2 := h.f2; have f3 := h.f3; have f4 := h.f4; have f5 := h.f5
  ⟨h.lo, by have := h.hi; simpa [World.setCell] using this, (World.cell?_setCell_other _ _ _ _ (by simp)).trans c0, (World.cell?_setCell_other _ _ _ _ (by simp)).trans c1, World.cell?_setCell_same _ _ _ c2, (World.cell?_setCell_other _ _ _ _ (by simp)).trans c3, (World.cell?_setCell_other _ _ _ _ (by simp)).trans c4, (World.cell?_setCell_other _ _ _ _ (by simp)).trans c5, by simp [*], by simp [*], by simp [*], by simp [*], by simp [*], by simp [*]⟩
theorem Bx6.set3 {w : World} {base b : Nat} {x0 x1 x2 x3 x4 x5 : Value} (h : Bx6 w base b x0 x1 x2 x3 x4 x5) (x : Value) : Bx6 (w.setCell ⟨b, 3, none⟩ x) base b x0 x1 x2 x x4 x5 :=
  have c0 := h.c0; have c1 := h.c1; have c2 := h.c2; have c3 := h.c3; have c4 := h.c4; have c5 := h.c5; have f0 := h.f0; have f1 := h.f1; have f2 := h.f2; have f3 := h.f3; have f4 := h.f4; have f5 := h.f5
  ⟨h.lo, by have := h.hi; simpa [World.setCell] using this, (World.cell?_setCell_other _ _ _ _ (by simp)).trans c0, (World.cell?_setCell_other _ _ _ _ (by simp)).trans c1, (World.cell?_setCell_other _ _ _ _ (by simp)).trans c2, World.cell?_setCell_same _ _ _ c3, (World.cell?_setCell_other _ _ _ _ (by simp)).trans c4, (World.cell?_setCell_other _ _ _ _ (by simp)).trans c5, by simp [*], by simp [*], by simp [*], by simp [*], by simp [*], by simp [*]⟩
theorem Bx6.set4 {w : World} {base b : Nat} {x0 x1 x2 x3 x4 x5 : Value} (h : Bx6 w base b x0 x1 x2 x3 x4 x5) (x : Value) : Bx6 (w.setCell ⟨b, 4, none⟩ x) base b x0 x1 x2 x3 x x5 :=
  have c0 := h.c0; have c1 := h.c1; have c2 := h.c2; have c3 := h.c3; have c4 := h.c4; have c5 := h.c5; have f0 := h.f0; have f1 := h.f1; have f2 := h.f2; have f3 := h.f3; have f4 := h.f4; have f5 := h.f5
  ⟨h.lo, by have := h.hi; simpa [World.setCell] using this, (World.cell?_setCell_other _ _ _ _ (by simp)).trans c0, (World.cell?_setCell_other _ _ _ _ (by simp)).trans c1, (World.cell?_setCell_other _ _ _ _ (by simp)).trans c2, (World.cell?_setCell_other _ _ _ _ (by simp)).trans c3, World.cell?_setCell_same _ _ _ c4, (World.cell?_setCell_other _ _ _ _ (by simp)).trans c5, by simp [*], by simp [*], by simp [*], by simp [*], by simp [*], by simp [*]⟩
theorem Bx6.set5 {w : World} {base b : Nat} {x0 x1 x2 x3 x4 x5 : Value} (h : Bx6 w base b x0 x1 x2 x3 x4 x5) (x : Value) : Bx6 (w.setCell ⟨b, 5, none⟩ x) base b x0 x1 x2 x3 x4 x :=
  have c0 := h.c0; have c1 := h.c1; have c2 := h.c2; have c3 := h.c3; have c4 := h.c4; have c5 := h.c5; have f0 := h.f0; have f1 := h.f1; have f2 := h.f2; have f3 := h.f3; have f4 := h.f4; have f5 := h.f5
  ⟨h.lo, by have := h.hi; simpa [World.setCell] using this, (World.cell?_setCell_other _ _ _ _ (by simp)).trans c0, (World.cell?_setCell_other _ _ _ _ (by simp)).trans c1, (World.cell?_setCell_other _ _ _ _ (by simp)).trans c2, (World.cell?_setCell_other _ _ _ _ (by simp)).trans c3, (World.cell?_setCell_other _ _ _ _ (by simp)).trans c4, World.cell?_setCell_same _ _ _ c5, by simp [*], by simp [*], by simp [*], by simp [*], by simp [*], by simp [*]⟩
theorem Bx6.other {w : World} {base b : Nat} {x0 x1 x2 x3 x4 x5 : Value} (h : Bx6 w base b x0 x1 x2 x3 x4 x5) (b' i : Nat) (hb : b ≠ b') (x : Value) : Bx6 (w.setCell ⟨b', i, none⟩ x) base b x0 x1 x2 x3 x4 x5 :=
  h.tn (tnC w b' i x) (fun k hk hs => by simp at hk hs; omega)

structure Ah where
  c : Int
  v : Int
  u : Int
  s : Int
  t : ByteArray
  b : List Int
def ownsA (w : World) (base : Nat) (val : Value) (x : Ah) : Prop := ∃ sl, val = .agg #[.int .i64 x.c, .int .i64 x.v, .int .i64 x.u, .int .i64 x.s, .string x.t, sl] ∧ ownsB w base sl x.b
def rowA (w : World) (val : Value) (x : Ah) : Prop := ∃ sl, val = .agg #[.int .i64 x.c, .int .i64 x.v, .int .i64 x.u, .int .i64 x.s, .string x.t, sl] ∧ rowB w sl x.b
theorem ownsA.row {w : World} {base : Nat} {v : Value} {a : Ah} (h : ownsA w base v a) : rowA w v a := by
  obtain ⟨s, rfl, h1⟩ := h
  exact ⟨s, rfl, h1.row⟩
theorem ownsA.below {w w' : World} {base B : Nat} {v : Value} {a : Ah} (h : ownsA w base v a) (hb : Below B w w') (hB : w.heap.size ≤ B) : ownsA w' base v a := by
  obtain ⟨s, rfl, h1⟩ := h
  exact ⟨s, rfl, ownsB.below h1 hb hB⟩

set_option maxRecDepth 20000 in
set_option maxHeartbeats 6400000 in
theorem toA (c v u s : Int) (t : ByteArray) (a0 : Option Addr) (n0 c0 : Nat) (zs0 : List Int) (w : World) (h0 : n0 ≤ 1048576) (hr0 : IsRow .u8 w a0 n0 c0 zs0) :
    Calls Try.prog 26 #[.agg #[.int .i64 c, .int .i64 v, .int .i64 u, .int .i64 s, .string t, .slice a0 n0 c0]] w fun e w' => ∃ v', e = .returned v' ∧ ownsA w' w.heap.size v' ⟨c, v, u, s, t, zs0.take n0⟩ ∧ Below w.heap.size w w' := by
  have T0 := fun W (h : Below w.heap.size w W) => toB a0 n0 c0 zs0 W (by omega) (hr0.below h)
  obtain ⟨xs0, hx0⟩ : ∃ xs, zs0.take n0 = xs := ⟨_, rfl⟩
  rw [hx0] at T0
  rw [hx0]
  clear hx0 hr0
  have s1 : (w.alloc (.cells #[.int .i64 c, .int .i64 v, .int .i64 u, .int .i64 s, .string t, .slice a0 n0 c0] 32)).heap.size = w.heap.size + 1 := by simp
  have s2 : ((w.alloc (.cells #[.int .i64 c, .int .i64 v, .int .i64 u, .int .i64 s, .string t, .slice a0 n0 c0] 32)).alloc (.cells #[.int .i64 0, .int .i64 0, .int .i64 0, .int .i64 0, .string ⟨#[]⟩, .slice none 0 0] 35)).heap.size = w.heap.size + 1 + 1 := by simp
  have X := ((Bx6.made w (.int .i64 c) (.int .i64 v) (.int .i64 u) (.int .i64 s) (.string t) (.slice a0 n0 c0) 32).below (below1 _ (.cells #[.int .i64 0, .int .i64 0, .int .i64 0, .int .i64 0, .string ⟨#[]⟩, .slice none 0 0] 35)) (Nat.le_refl _)).below (below1 _ (.cells #[.int .i64 c, .int .i64 v, .int .i64 u, .int .i64 s, .string t, .slice none 0 0] 35)) (Nat.le_refl _)
  have R := (Bx6.made (w.alloc (.cells #[.int .i64 c, .int .i64 v, .int .i64 u, .int .i64 s, .string t, .slice a0 n0 c0] 32)) (.int .i64 0) (.int .i64 0) (.int .i64 0) (.int .i64 0) (.string ⟨#[]⟩) (.slice none 0 0) 35).below (below1 _ (.cells #[.int .i64 c, .int .i64 v, .int .i64 u, .int .i64 s, .string t, .slice none 0 0] 35)) (Nat.le_refl _)
  have V := Bx6.made ((w.alloc (.cells #[.int .i64 c, .int .i64 v, .int .i64 u, .int .i64 s, .string t, .slice a0 n0 c0] 32)).alloc (.cells #[.int .i64 0, .int .i64 0, .int .i64 0, .int .i64 0, .string ⟨#[]⟩, .slice none 0 0] 35)) (.int .i64 c) (.int .i64 v) (.int .i64 u) (.int .i64 s) (.string t) (.slice none 0 0) 35
  have B := below3 w (.cells #[.int .i64 c, .int .i64 v, .int .i64 u, .int .i64 s, .string t, .slice a0 n0 c0] 32) (.cells #[.int .i64 0, .int .i64 0, .int .i64 0, .int .i64 0, .string ⟨#[]⟩, .slice none 0 0] 35) (.cells #[.int .i64 c, .int .i64 v, .int .i64 u, .int .i64 s, .string t, .slice none 0 0] 35)
  rw [s1] at R
  rw [s2] at V
  clear s1 s2
  go_enter Try.func26, Try.ntmps26
  go_wp2_with fail
  refine (T0 _ B).mono ?_
  generalize ((w.alloc (.cells #[.int .i64 c, .int .i64 v, .int .i64 u, .int .i64 s, .string t, .slice a0 n0 c0] 32)).alloc (.cells #[.int .i64 0, .int .i64 0, .int .i64 0, .int .i64 0, .string ⟨#[]⟩, .slice none 0 0] 35)).alloc (.cells #[.int .i64 c, .int .i64 v, .int .i64 u, .int .i64 s, .string t, .slice none 0 0] 35) = u0 at *
  rintro e w1 ⟨v0, rfl, o0, b0⟩
  have hV0 := V.hi
  have X := X.below b0 (Nat.le_refl _)
  have R := R.below b0 (Nat.le_refl _)
  have V := V.below b0 (Nat.le_refl _)
  have hsz0 := B.size
  have B := B.trans (b0.mono B.size)
  obtain ⟨ad0, cp0, rfl⟩ := o0.form
  have hx0 : ¬ (w.heap.size + 1 + 1 = w.heap.size) := by omega
  have hx1 : ¬ (w.heap.size = w.heap.size + 1 + 1) := by omega
  have hx2 : ¬ (w.heap.size + 1 + 1 = w.heap.size + 1) := by omega
  have hx3 : ¬ (w.heap.size + 1 = w.heap.size + 1 + 1) := by omega
  have hx4 : ¬ (w.heap.size + 1 = w.heap.size) := by omega
  have hx5 : ¬ (w.heap.size = w.heap.size + 1) := by omega
  have e0 := V.c0
  have d0 := V.f0
  have r0 := R.c0
  have t0 := R.f0
  have e1 := V.c1
  have d1 := V.f1
  have r1 := R.c1
  have t1 := R.f1
  have e2 := V.c2
  have d2 := V.f2
  have r2 := R.c2
  have t2 := R.f2
  have e3 := V.c3
  have d3 := V.f3
  have r3 := R.c3
  have t3 := R.f3
  have e4 := V.c4
  have d4 := V.f4
  have r4 := R.c4
  have t4 := R.f4
  have e5 := V.c5
  have d5 := V.f5
  have r5 := R.c5
  have t5 := R.f5
  have HB : Hid (Below w.heap.size w _) := (((((((B.setCell (p := ⟨w.heap.size + 1 + 1, 5, none⟩) (by show w.heap.size ≤ w.heap.size + 1 + 1; omega) (.slice ad0 xs0.length cp0)).setCell (p := ⟨w.heap.size + 1, 0, none⟩) (by show w.heap.size ≤ w.heap.size + 1; omega) (.int .i64 c)).setCell (p := ⟨w.heap.size + 1, 1, none⟩) (by show w.heap.size ≤ w.heap.size + 1; omega) (.int .i64 v)).setCell (p := ⟨w.heap.size + 1, 2, none⟩) (by show w.heap.size ≤ w.heap.size + 1; omega) (.int .i64 u)).setCell (p := ⟨w.heap.size + 1, 3, none⟩) (by show w.heap.size ≤ w.heap.size + 1; omega) (.int .i64 s)).setCell (p := ⟨w.heap.size + 1, 4, none⟩) (by show w.heap.size ≤ w.heap.size + 1; omega) (.string t)).setCell (p := ⟨w.heap.size + 1, 5, none⟩) (by show w.heap.size ≤ w.heap.size + 1; omega) (.slice ad0 xs0.length cp0))
  have Ho0 := hid_of (((((((o0.other (w.heap.size + 1 + 1) 5 (by omega) (.slice ad0 xs0.length cp0)).other (w.heap.size + 1) 0 (by omega) (.int .i64 c)).other (w.heap.size + 1) 1 (by omega) (.int .i64 v)).other (w.heap.size + 1) 2 (by omega) (.int .i64 u)).other (w.heap.size + 1) 3 (by omega) (.int .i64 s)).other (w.heap.size + 1) 4 (by omega) (.string t)).other (w.heap.size + 1) 5 (by omega) (.slice ad0 xs0.length cp0))
  clear X R V B o0
  go_wp2
  (try simp only [Exit.inBlock, Exit.then])
  refine bodyPost_ret (v := .agg #[.int .i64 c, .int .i64 v, .int .i64 u, .int .i64 s, .string t, .slice ad0 xs0.length cp0]) ?_ rfl ⟨_, rfl, ⟨_, rfl, ownsB_mono Ho0.out hsz0⟩, HB.out⟩
  rw [results_cell1 rfl]
  go_simp

set_option maxHeartbeats 1600000 in
theorem szB_yes (a : Option Addr) (n c : Nat) (left : Int) (w : World) (h1 : left ≤ 1048576) (h : (n : Int) ≤ left) :
    Calls Try.prog 54 #[.slice a n c, .int .i64 left] w fun e w' => e = .returned (.int .i64 (left - n)) ∧ w' = w := by
  have h' : ¬ (left - (n : Int) < 0) := by omega
  go_enter Try.func54, Try.ntmps54
  go_wp2
  go_ret
  exact ⟨rfl, rfl⟩
set_option maxHeartbeats 1600000 in
theorem szB_no (a : Option Addr) (n c : Nat) (left : Int) (w : World) (h0 : 0 ≤ left) (h1 : left ≤ 1048576) (hn : n ≤ 9223372036854775807) (h : left < (n : Int)) :
    Calls Try.prog 54 #[.slice a n c, .int .i64 left] w fun e w' => e = .returned (.int .i64 (-1)) ∧ w' = w := by
  have h' : left - (n : Int) < 0 := by omega
  go_enter Try.func54, Try.ntmps54
  go_wp2
  go_ret
  exact ⟨rfl, rfl⟩

set_option maxRecDepth 20000 in
set_option maxHeartbeats 1600000 in
theorem szA_yes (c v u s : Int) (t : ByteArray) (a0 : Option Addr) (n0 c0 : Nat) (left : Int) (w : World) (h1 : left ≤ 1048576) (h : (t.size : Int) + n0 ≤ left) :
    Calls Try.prog 24 #[.agg #[.int .i64 c, .int .i64 v, .int .i64 u, .int .i64 s, .string t, .slice a0 n0 c0], .int .i64 left] w fun e w' => e = .returned (.int .i64 (left - t.size - n0)) ∧ Below w.heap.size w w' := by
  have h' : ¬ (left - (t.size : Int) < 0) := by omega
  have h'' : ¬ (left - (t.size : Int) - (n0 : Int) < 0) := by omega
  have f1 : IntKind.i64.wrap (left - (t.size : Int)) = left - (t.size : Int) := by rw [IntKind.wrap_i64]; omega
  have HB := below1 w (.cells #[.int .i64 c, .int .i64 v, .int .i64 u, .int .i64 s, .string t, .slice a0 n0 c0] 32)
  go_enter Try.func24, Try.ntmps24
  go_wp2_with fail
  refine (szB_yes a0 n0 c0 (left - (t.size : Int)) _ (by omega) (by omega)).mono ?_
  rintro e w1 ⟨rfl, rfl⟩
  go_wp2
  go_ret
  exact ⟨rfl, HB⟩
set_option maxRecDepth 20000 in
set_option maxHeartbeats 1600000 in
theorem szA_no (c v u s : Int) (t : ByteArray) (a0 : Option Addr) (n0 c0 : Nat) (left : Int) (w : World) (h0 : 0 ≤ left) (h1 : left ≤ 1048576) (ht : t.size ≤ 9223372036854775807) (hn : n0 ≤ 9223372036854775807) (h : left < (t.size : Int) + n0) :
    Calls Try.prog 24 #[.agg #[.int .i64 c, .int .i64 v, .int .i64 u, .int .i64 s, .string t, .slice a0 n0 c0], .int .i64 left] w fun e w' => e = .returned (.int .i64 (-1)) ∧ Below w.heap.size w w' := by
  have f1 : IntKind.i64.wrap (left - (t.size : Int)) = left - (t.size : Int) := by rw [IntKind.wrap_i64]; omega
  have HB := below1 w (.cells #[.int .i64 c, .int .i64 v, .int .i64 u, .int .i64 s, .string t, .slice a0 n0 c0] 32)
  by_cases h2 : left - (t.size : Int) < 0
  · go_enter Try.func24, Try.ntmps24
    go_wp2
    go_ret
    exact ⟨rfl, HB⟩
  · go_enter Try.func24, Try.ntmps24
    go_wp2_with fail
    refine (szB_no a0 n0 c0 (left - (t.size : Int)) _ (by omega) (by omega) hn (by omega)).mono ?_
    rintro e w1 ⟨rfl, rfl⟩
    go_wp2
    go_ret
    exact ⟨rfl, HB⟩

set_option maxRecDepth 20000 in
set_option maxHeartbeats 1600000 in
theorem eqA' (b1 b2 : Nat) (va vb : Value) (a : Ah) (w : World) (hm : a.b.length ≤ 1048576) (h1 : ownsA w b1 va a) (h2 : ownsA w b2 vb a) :
    Calls Try.prog 28 #[va, vb] w fun e w' => e = .returned (.bool true) ∧ Below w.heap.size w w' := by
  obtain ⟨s1, rfl, o1⟩ := h1
  obtain ⟨s2, rfl, o2⟩ := h2
  obtain ⟨c, v, u, s, t, xs⟩ := a
  have K := fun W (h : Below w.heap.size w W) => eqB b1 b2 s1 s2 xs W (by show xs.length ≤ _; have : xs.length ≤ 1048576 := hm; omega) (ownsB.below o1 h (Nat.le_refl _)) (ownsB.below o2 h (Nat.le_refl _))
  obtain ⟨a1, k1, rfl⟩ := o1.form
  obtain ⟨a2, k2, rfl⟩ := o2.form
  have hb : (t.toList == t.toList) = true := by simp
  clear o1 o2
  simp only at *
  go_enter Try.func28, Try.ntmps28
  go_wp2_with fail
  refine (K _ (below2 w _ _)).mono ?_
  rintro e w3 ⟨rfl, q, rfl⟩
  have B3 := below2 w (.cells #[.int .i64 c, .int .i64 v, .int .i64 u, .int .i64 s, .string t, .slice a1 xs.length k1] 35) (.cells #[.int .i64 c, .int .i64 v, .int .i64 u, .int .i64 s, .string t, .slice a2 xs.length k2] 35)
  have B4 : Below w.heap.size w (((w.alloc (.cells #[.int .i64 c, .int .i64 v, .int .i64 u, .int .i64 s, .string t, .slice a1 xs.length k1] 35)).alloc (.cells #[.int .i64 c, .int .i64 v, .int .i64 u, .int .i64 s, .string t, .slice a2 xs.length k2] 35)).drewN q) := ⟨B3.os, B3.tape, B3.output, B3.size, B3.block⟩
  clear B3 K
  go_wp2
  go_ret
  exact ⟨rfl, B4⟩

def ansR (x y : Ah) : Bool := x.c == y.c && x.v == y.v && x.u == y.u && x.s == y.s && x.t.toList == y.t.toList && (strOfNums x.b).toList == (strOfNums y.b).toList

set_option maxRecDepth 20000 in
set_option maxHeartbeats 6400000 in
theorem sAnswerSame (va : Value) (x : Ah) (vb : Value) (y : Ah) (w : World) (h1 : rowA w va x) (h2 : rowA w vb y) :
    Calls Try.prog 25 #[va, vb] w fun e w' => e = .returned (.bool (ansR x y)) ∧ Below w.heap.size w w' := by
  obtain ⟨sl, rfl, r1⟩ := h1
  obtain ⟨sl', rfl, r2⟩ := h2
  obtain ⟨c, v, u, s, t, xs⟩ := x
  obtain ⟨c', v', u', s', t', ys⟩ := y
  have K1 := fun W (h : Below w.heap.size w W) => r1.below h (Nat.le_refl _)
  have K2 := fun W (h : Below w.heap.size w W) => r2.below h (Nat.le_refl _)
  obtain ⟨a1, k1, rfl⟩ : ∃ a k, sl = .slice a xs.length k := by rcases r1 with ⟨rfl, h⟩ | ⟨g, o, k, h, _⟩; exact ⟨none, 0, by simp only at h; rw [h]; rfl⟩; exact ⟨_, _, h⟩
  obtain ⟨a2, k2, rfl⟩ : ∃ a k, sl' = .slice a ys.length k := by rcases r2 with ⟨rfl, h⟩ | ⟨g, o, k, h, _⟩; exact ⟨none, 0, by simp only at h; rw [h]; rfl⟩; exact ⟨_, _, h⟩
  simp only at *
  have HB := below2 w (.cells #[.int .i64 c, .int .i64 v, .int .i64 u, .int .i64 s, .string t, .slice a1 xs.length k1] 35) (.cells #[.int .i64 c', .int .i64 v', .int .i64 u', .int .i64 s', .string t', .slice a2 ys.length k2] 35)
  have K1 := K1 _ HB
  have K2 := K2 _ HB
  unfold ansR
  simp only
  by_cases e0 : c = c'
  case neg =>
    have f0 : (c == c') = false := by simpa using e0
    go_enter Try.func25, Try.ntmps25
    go_wp2
    go_ret
    exact ⟨by simp [f0], HB⟩
  subst e0
  by_cases e1 : v = v'
  case neg =>
    have f1 : (v == v') = false := by simpa using e1
    go_enter Try.func25, Try.ntmps25
    go_wp2
    go_ret
    exact ⟨by simp [f1], HB⟩
  subst e1
  by_cases e2 : u = u'
  case neg =>
    have f2 : (u == u') = false := by simpa using e2
    go_enter Try.func25, Try.ntmps25
    go_wp2
    go_ret
    exact ⟨by simp [f2], HB⟩
  subst e2
  by_cases e3 : s = s'
  case neg =>
    have f3 : (s == s') = false := by simpa using e3
    go_enter Try.func25, Try.ntmps25
    go_wp2
    go_ret
    exact ⟨by simp [f3], HB⟩
  subst e3
  by_cases e4 : (t.toList == t'.toList) = true
  case neg =>
    have f4 : (t.toList == t'.toList) = false := by simpa using e4
    go_enter Try.func25, Try.ntmps25
    go_wp2
    go_ret
    exact ⟨by simp [f4], HB⟩
  have t1 := K1.text
  have t2 := K2.text
  generalize strOfNums xs = p at *
  generalize strOfNums ys = q at *
  clear K1 K2 r1 r2
  go_enter Try.func25, Try.ntmps25
  go_wp2
  go_ret
  exact ⟨by simp [e4], HB⟩

set_option maxRecDepth 20000 in
set_option maxHeartbeats 6400000 in
theorem iAnswerSame (va : Value) (x : Ah) (vb : Value) (y : Ah) (w : World) (h1 : rowA w va x) (h2 : rowA w vb y) :
    Calls Try.prog 27 #[va, vb] w fun e w' => e = .returned (.bool (ansR x y)) ∧ Below w.heap.size w w' := by
  obtain ⟨sl, rfl, r1⟩ := h1
  obtain ⟨sl', rfl, r2⟩ := h2
  obtain ⟨c, v, u, s, t, xs⟩ := x
  obtain ⟨c', v', u', s', t', ys⟩ := y
  have K1 := fun W (h : Below w.heap.size w W) => r1.below h (Nat.le_refl _)
  have K2 := fun W (h : Below w.heap.size w W) => r2.below h (Nat.le_refl _)
  obtain ⟨a1, k1, rfl⟩ : ∃ a k, sl = .slice a xs.length k := by rcases r1 with ⟨rfl, h⟩ | ⟨g, o, k, h, _⟩; exact ⟨none, 0, by simp only at h; rw [h]; rfl⟩; exact ⟨_, _, h⟩
  obtain ⟨a2, k2, rfl⟩ : ∃ a k, sl' = .slice a ys.length k := by rcases r2 with ⟨rfl, h⟩ | ⟨g, o, k, h, _⟩; exact ⟨none, 0, by simp only at h; rw [h]; rfl⟩; exact ⟨_, _, h⟩
  simp only at *
  have HB := below2 w (.cells #[.int .i64 c, .int .i64 v, .int .i64 u, .int .i64 s, .string t, .slice a1 xs.length k1] 35) (.cells #[.int .i64 c', .int .i64 v', .int .i64 u', .int .i64 s', .string t', .slice a2 ys.length k2] 35)
  have K1 := K1 _ HB
  have K2 := K2 _ HB
  unfold ansR
  simp only
  by_cases e0 : c = c'
  case neg =>
    have f0 : (c == c') = false := by simpa using e0
    go_enter Try.func27, Try.ntmps27
    go_wp2
    go_ret
    exact ⟨by simp [f0], HB⟩
  subst e0
  by_cases e1 : v = v'
  case neg =>
    have f1 : (v == v') = false := by simpa using e1
    go_enter Try.func27, Try.ntmps27
    go_wp2
    go_ret
    exact ⟨by simp [f1], HB⟩
  subst e1
  by_cases e2 : u = u'
  case neg =>
    have f2 : (u == u') = false := by simpa using e2
    go_enter Try.func27, Try.ntmps27
    go_wp2
    go_ret
    exact ⟨by simp [f2], HB⟩
  subst e2
  by_cases e3 : s = s'
  case neg =>
    have f3 : (s == s') = false := by simpa using e3
    go_enter Try.func27, Try.ntmps27
    go_wp2
    go_ret
    exact ⟨by simp [f3], HB⟩
  subst e3
  by_cases e4 : (t.toList == t'.toList) = true
  case neg =>
    have f4 : (t.toList == t'.toList) = false := by simpa using e4
    go_enter Try.func27, Try.ntmps27
    go_wp2
    go_ret
    exact ⟨by simp [f4], HB⟩
  have KE := bytesEqual _ _ _ _ _ K1 K2
  generalize strOfNums xs = p at *
  generalize strOfNums ys = q at *
  clear K1 K2 r1 r2
  go_enter Try.func27, Try.ntmps27
  go_wp2_with fail
  refine KE.mono ?_
  rintro e w1 ⟨rfl, rfl⟩
  go_wp2
  go_ret
  exact ⟨by simp [e4], HB⟩

end Go.Proofs.Ytocaaklhlmnonaa
