/- Several small texts in one: V0, ToV, ToV2. -/
import Derived.Test.YtmbopjjpepbgkaaBase
/- What is held between two numbers, as the law has it: two numbers with a sign in one struct (no walk). -/
namespace Go.Proofs.Ytmbopjjpepbgkaa
open Go.RowKit

abbrev Vh := Wh × Wh
/-- 'v' is a struct of two numbers that can be read. -/
def rowV (w : World) (v : Value) (a : Vh) : Prop := ∃ s t, v = .agg #[.bool a.1.1, s, .bool a.2.1, t] ∧ rowI w s a.1.2 ∧ rowI w t a.2.2
/-- 'v' is a struct of two numbers, each in memory of its own from block 'base' on. -/
def ownsV (w : World) (base : Nat) (v : Value) (a : Vh) : Prop := ∃ s t, v = .agg #[.bool a.1.1, s, .bool a.2.1, t] ∧ ownsI w base s a.1.2 ∧ ownsI w base t a.2.2 ∧ Apart (blkI s) (blkI t)
/-- The blocks in which the limbs lie. -/
def blkV : Value → List Nat
  | .agg #[_, s, _, t] => blkI s ++ blkI t
  | _ => []
theorem ownsV.row {w : World} {base : Nat} {v : Value} {a : Vh} (h : ownsV w base v a) : rowV w v a := by
  obtain ⟨s, t, rfl, h1, h2, -⟩ := h
  exact ⟨s, t, rfl, h1.row, h2.row⟩
theorem rowV.below {w w' : World} {v : Value} {a : Vh} {B : Nat} (h : rowV w v a) (hb : Below B w w') (hB : w.heap.size ≤ B) : rowV w' v a := by
  obtain ⟨s, t, rfl, h1, h2⟩ := h
  exact ⟨s, t, rfl, h1.below hb hB, h2.below hb hB⟩
theorem ownsV.below {w w' : World} {base B : Nat} {v : Value} {a : Vh} (h : ownsV w base v a) (hb : Below B w w') (hB : w.heap.size ≤ B) : ownsV w' base v a := by
  obtain ⟨s, t, rfl, h1, h2, h3⟩ := h
  exact ⟨s, t, rfl, ownsI.below h1 hb hB, ownsI.below h2 hb hB, h3⟩
theorem ownsV_mono {w : World} {base base' : Nat} {v : Value} {a : Vh} (h : ownsV w base v a) (hb : base' ≤ base) : ownsV w base' v a := by
  obtain ⟨s, t, rfl, h1, h2, h3⟩ := h
  exact ⟨s, t, rfl, ownsI_mono h1 hb, ownsI_mono h2 hb, h3⟩
theorem ownsV.ltb {w : World} {base : Nat} {v : Value} {a : Vh} (h : ownsV w base v a) : ∀ k ∈ blkV v, base ≤ k ∧ k < w.heap.size := by
  obtain ⟨s, t, rfl, h1, h2, -⟩ := h
  intro k hk
  rcases List.mem_append.1 hk with hk | hk
  · exact h1.ltb k hk
  · exact h2.ltb k hk
theorem ownsV.tn {w w' : World} {base : Nat} {v : Value} {a : Vh} {S : List Nat} (h : ownsV w base v a) (ht : Tn S w w') (ha : Apart (blkV v) S) : ownsV w' base v a := by
  obtain ⟨s, t, rfl, h1, h2, h3⟩ := h
  exact ⟨s, t, rfl, h1.tn ht ha.left, h2.tn ht ha.right, h3⟩
theorem nilV (w : World) (base : Nat) : ownsV w base (.agg #[.bool false, .slice none 0 0, .bool false, .slice none 0 0]) ((false, []), (false, [])) :=
  ⟨_, _, rfl, ⟨rfl, .inl ⟨rfl, rfl⟩⟩, ⟨rfl, .inl ⟨rfl, rfl⟩⟩, fun k hk => by simp [blkI, Value.ownBlock] at hk⟩

/-- The box of a variable of four cells. -/
structure BoxV (w : World) (base b : Nat) (x0 x1 x2 x3 : Value) : Prop where
  lo : base ≤ b
  hi : b < w.heap.size
  c0 : w.cell? ⟨b, 0, none⟩ = some x0
  c1 : w.cell? ⟨b, 1, none⟩ = some x1
  c2 : w.cell? ⟨b, 2, none⟩ = some x2
  c3 : w.cell? ⟨b, 3, none⟩ = some x3
  f0 : w.frozen? ⟨b, 0, none⟩ = false
  f1 : w.frozen? ⟨b, 1, none⟩ = false
  f2 : w.frozen? ⟨b, 2, none⟩ = false
  f3 : w.frozen? ⟨b, 3, none⟩ = false
theorem BoxV.made (w : World) (x0 x1 x2 x3 : Value) (t : TypeId) : BoxV (w.alloc (.cells #[x0, x1, x2, x3] t)) w.heap.size w.heap.size x0 x1 x2 x3 :=
  ⟨Nat.le_refl _, by simp, by simp, by simp, by simp, by simp, by simp, by simp, by simp, by simp⟩
theorem BoxV.below {w w' : World} {base b B : Nat} {x0 x1 x2 x3 : Value} (h : BoxV w base b x0 x1 x2 x3) (hb : Below B w w') (hB : w.heap.size ≤ B) : BoxV w' base b x0 x1 x2 x3 :=
  have hlt : b < B := Nat.lt_of_lt_of_le h.hi hB
  ⟨h.lo, Nat.lt_of_lt_of_le h.hi hb.size, (hb.cell (p := ⟨b, 0, none⟩) hlt).trans h.c0, (hb.cell (p := ⟨b, 1, none⟩) hlt).trans h.c1, (hb.cell (p := ⟨b, 2, none⟩) hlt).trans h.c2, (hb.cell (p := ⟨b, 3, none⟩) hlt).trans h.c3,
    (hb.frozen (p := ⟨b, 0, none⟩) hlt).trans h.f0, (hb.frozen (p := ⟨b, 1, none⟩) hlt).trans h.f1, (hb.frozen (p := ⟨b, 2, none⟩) hlt).trans h.f2, (hb.frozen (p := ⟨b, 3, none⟩) hlt).trans h.f3⟩
theorem BoxV.mono {w : World} {base base' b : Nat} {x0 x1 x2 x3 : Value} (h : BoxV w base b x0 x1 x2 x3) (hb : base' ≤ base) : BoxV w base' b x0 x1 x2 x3 :=
  ⟨Nat.le_trans hb h.lo, h.hi, h.c0, h.c1, h.c2, h.c3, h.f0, h.f1, h.f2, h.f3⟩
theorem BoxV.ltb {w : World} {base b : Nat} {x0 x1 x2 x3 : Value} (h : BoxV w base b x0 x1 x2 x3) : ∀ k ∈ [b], base ≤ k ∧ k < w.heap.size := fun k hk => by
  simp at hk
  subst hk
  exact ⟨h.lo, h.hi⟩
theorem BoxV.tn {w w' : World} {base b : Nat} {x0 x1 x2 x3 : Value} {S : List Nat} (h : BoxV w base b x0 x1 x2 x3) (ht : Tn S w w') (ha : Apart [b] S) : BoxV w' base b x0 x1 x2 x3 := by
  have hk := ht.block b h.hi (ha b (by simp))
  have hc := fun i => World.cell?_of_block (w := w) (w' := w') (a := ⟨b, i, none⟩) hk
  have hf := fun i => World.frozen?_of_block (w := w) (w' := w') (a := ⟨b, i, none⟩) hk
  exact ⟨h.lo, Nat.lt_of_lt_of_le h.hi ht.size, (hc 0).trans h.c0, (hc 1).trans h.c1, (hc 2).trans h.c2, (hc 3).trans h.c3, (hf 0).trans h.f0, (hf 1).trans h.f1, (hf 2).trans h.f2, (hf 3).trans h.f3⟩
theorem tnC (w : World) (b i : Nat) (x : Value) : Tn [b] w (w.setCell ⟨b, i, none⟩ x) :=
  ⟨rfl, rfl, rfl, by simp [World.setCell], fun k _ hn => Below.heap_setCell _ _ _ _ (fun e => hn (by simp [e]))⟩
theorem BoxV.set0 {w : World} {base b : Nat} {x0 x1 x2 x3 : Value} (h : BoxV w base b x0 x1 x2 x3) (x : Value) : BoxV (w.setCell ⟨b, 0, none⟩ x) base b x x1 x2 x3 :=
  have c0 := h.c0; have c1 := h.c1; have c2 := h.c2; have c3 := h.c3; have f0 := h.f0; have f1 := h.f1; have f2 := h.f2; have f3 := h.f3
  ⟨h.lo, by have := h.hi; simpa [World.setCell] using this, World.cell?_setCell_same _ _ _ c0, (World.cell?_setCell_other _ _ _ _ (by simp)).trans c1, (World.cell?_setCell_other _ _ _ _ (by simp)).trans c2, (World.cell?_setCell_other _ _ _ _ (by simp)).trans c3, by simp [*], by simp [*], by simp [*], by simp [*]⟩
theorem BoxV.set1 {w : World} {base b : Nat} {x0 x1 x2 x3 : Value} (h : BoxV w base b x0 x1 x2 x3) (x : Value) : BoxV (w.setCell ⟨b, 1, none⟩ x) base b x0 x x2 x3 :=
  have c0 := h.c0; have c1 := h.c1; have c2 := h.c2; have c3 := h.c3; have f0 := h.f0; have f1 := h.f1; have f2 := h.f2; have f3 := h.f3
  ⟨h.lo, by have := h.hi; simpa [World.setCell] using this, (World.cell?_setCell_other _ _ _ _ (by simp)).trans c0, World.cell?_setCell_same _ _ _ c1, (World.cell?_setCell_other _ _ _ _ (by simp)).trans c2, (World.cell?_setCell_other _ _ _ _ (by simp)).trans c3, by simp [*], by simp [*], by simp [*], by simp [*]⟩
theorem BoxV.set2 {w : World} {base b : Nat} {x0 x1 x2 x3 : Value} (h : BoxV w base b x0 x1 x2 x3) (x : Value) : BoxV (w.setCell ⟨b, 2, none⟩ x) base b x0 x1 x x3 :=
  have c0 := h.c0; have c1 := h.c1; have c2 := h.c2; have c3 := h.c3; have f0 := h.f0; have f1 := h.f1; have f2 := h.f2; have f3 := h.f3
  ⟨h.lo, by have := h.hi; simpa [World.setCell] using this, (World.cell?_setCell_other _ _ _ _ (by simp)).trans c0, (World.cell?_setCell_other _ _ _ _ (by simp)).trans c1, World.cell?_setCell_same _ _ _ c2, (World.cell?_setCell_other _ _ _ _ (by simp)).trans c3, by simp [*], by simp [*], by simp [*], by simp [*]⟩
theorem BoxV.set3 {w : World} {base b : Nat} {x0 x1 x2 x3 : Value} (h : BoxV w base b x0 x1 x2 x3) (x : Value) : BoxV (w.setCell ⟨b, 3, none⟩ x) base b x0 x1 x2 x :=
  have c0 := h.c0; have c1 := h.c1; have c2 := h.c2; have c3 := h.c3; have f0 := h.f0; have f1 := h.f1; have f2 := h.f2; have f3 := h.f3
  ⟨h.lo, by have := h.hi; simpa [World.setCell] using this, (World.cell?_setCell_other _ _ _ _ (by simp)).trans c0, (World.cell?_setCell_other _ _ _ _ (by simp)).trans c1, (World.cell?_setCell_other _ _ _ _ (by simp)).trans c2, World.cell?_setCell_same _ _ _ c3, by simp [*], by simp [*], by simp [*], by simp [*]⟩
/-- A variable of another block is left as it was. -/
theorem BoxV.other {w : World} {base b : Nat} {x0 x1 x2 x3 : Value} (h : BoxV w base b x0 x1 x2 x3) (b' i : Nat) (hb : b ≠ b') (x : Value) : BoxV (w.setCell ⟨b', i, none⟩ x) base b x0 x1 x2 x3 :=
  h.tn (tnC w b' i x) (fun k hk hs => by simp at hk hs; omega)
theorem ownsI.other {w : World} {base : Nat} {v : Value} {xs : List Int} (h : ownsI w base v xs) (b i : Nat) (hb : b < base) (x : Value) : ownsI (w.setCell ⟨b, i, none⟩ x) base v xs :=
  h.tn (tnC w b i x) (fun k hk hs => by have := (h.ltb k hk).1; simp at hs; omega)

end Go.Proofs.Ytmbopjjpepbgkaa

/- The law's own helpers on what is held between two numbers, each by its contract. -/
namespace Go.Proofs.Ytmbopjjpepbgkaa
open Go.RowKit
set_option linter.unusedSimpArgs false

end Go.Proofs.Ytmbopjjpepbgkaa

/- The law's own helpers on what is held between two numbers: sizes, likeness, marks. -/
namespace Go.Proofs.Ytmbopjjpepbgkaa
open Go.RowKit
set_option linter.unusedSimpArgs false

set_option maxHeartbeats 1600000 in
theorem eqV' (b1 b2 : Nat) (va vb : Value) (a : Vh) (w : World) (hm : a.1.2.length ≤ 1048576 ∧ a.2.2.length ≤ 1048576) (h1 : ownsV w b1 va a) (h2 : ownsV w b2 vb a) :
    Calls Try.prog 8 #[va, vb] w fun e w' => e = .returned (.bool true) ∧ Below w.heap.size w w' := by
  obtain ⟨s, t, rfl, s1, t1, -⟩ := h1
  obtain ⟨u, v, rfl, u1, v1, -⟩ := h2
  have k0 := fun W (h : Below w.heap.size w W) => eqW' b1 b2 (.agg #[.bool a.1.1, s]) (.agg #[.bool a.1.1, u]) a.1 W hm.1 ⟨_, rfl, ownsI.below s1 h (Nat.le_refl _)⟩ ⟨_, rfl, ownsI.below u1 h (Nat.le_refl _)⟩
  have k1 := fun W (h : Below w.heap.size w W) => eqW' b1 b2 (.agg #[.bool a.2.1, t]) (.agg #[.bool a.2.1, v]) a.2 W hm.2 ⟨_, rfl, ownsI.below t1 h (Nat.le_refl _)⟩ ⟨_, rfl, ownsI.below v1 h (Nat.le_refl _)⟩
  generalize a.1.1 = g0 at *
  generalize a.2.1 = g1 at *
  have z1 : (w.alloc (.cells #[.bool g0, s, .bool g1, t] 26)).heap.size = w.heap.size + 1 := by simp
  have X := (BoxV.made w (.bool g0) s (.bool g1) t 26).below (below1 _ (.cells #[.bool g0, u, .bool g1, v] 26)) (Nat.le_refl _)
  have Y := BoxV.made (w.alloc (.cells #[.bool g0, s, .bool g1, t] 26)) (.bool g0) u (.bool g1) v 26
  rw [z1] at Y
  have B := below2 w (.cells #[.bool g0, s, .bool g1, t] 26) (.cells #[.bool g0, u, .bool g1, v] 26)
  clear z1 s1 t1 u1 v1
  go_enter Try.func8, Try.ntmps8
  go_wp2_with fail
  refine (k0 _ B).mono ?_
  generalize (w.alloc (.cells #[.bool g0, s, .bool g1, t] 26)).alloc (.cells #[.bool g0, u, .bool g1, v] 26) = w0 at *
  rintro e w1 ⟨rfl, c1⟩
  have X1 := X.below c1 (Nat.le_refl _)
  have Y1 := Y.below c1 (Nat.le_refl _)
  have B1 := B.trans (c1.mono B.size)
  have x2 := X1.c2
  have x3 := X1.c3
  have y2 := Y1.c2
  have y3 := Y1.c3
  go_wp2_with fail
  refine (k1 _ B1).mono ?_
  rintro e w2 ⟨rfl, c2⟩
  have B2 := B1.trans (c2.mono B1.size)
  clear x2 x3 y2 y3 k0 k1
  go_wp2
  go_ret
  exact ⟨rfl, B2⟩

set_option maxHeartbeats 1600000 in
theorem markV (b : Nat) (va : Value) (a : Vh) (k : Int) (w : World) (hm : a.1.2.length + a.2.2.length ≤ 2097152) (hm0 : a.1.2.length ≤ 1048576) (hm1 : a.2.2.length ≤ 1048576) (hk0 : 0 ≤ k) (hk1 : k ≤ 1099500000000) (h1 : ownsV w b va a) :
    Calls Try.prog 9 #[va, .int .i64 k] w fun e w' => e = .returned (.int .i64 (k + a.1.2.length + a.2.2.length)) ∧ ownsV w' b va ((a.1.1, marksI k a.1.2.length), (a.2.1, marksI (k + a.1.2.length) a.2.2.length)) ∧ Tn (blkV va) w w' := by
  obtain ⟨s, t, rfl, s1, t1, hap⟩ := h1
  have k0 := fun W (h : ownsI W b s a.1.2) => markW b (.agg #[.bool a.1.1, s]) a.1 k W hm0 hk0 (by omega) ⟨_, rfl, h⟩
  have k1 := fun W (h : ownsI W b t a.2.2) => markW b (.agg #[.bool a.2.1, t]) a.2 (k + a.1.2.length) W hm1 (by omega) (by omega) ⟨_, rfl, h⟩
  have B := below1 w (.cells #[.bool a.1.1, s, .bool a.2.1, t] 26)
  have X := BoxV.made w (.bool a.1.1) s (.bool a.2.1) t 26
  have s2 := ownsI.below s1 B (Nat.le_refl _)
  have t2 := ownsI.below t1 B (Nat.le_refl _)
  have hs := s1.ltb
  have ht := t1.ltb
  have T0 : Tn (blkI s ++ blkI t) w (w.alloc (.cells #[.bool a.1.1, s, .bool a.2.1, t] 26)) := ⟨rfl, rfl, rfl, by simp, fun j hj _ => Below.heap_alloc w _ j hj⟩
  go_enter Try.func9, Try.ntmps9
  go_wp2_with fail
  refine (k0 _ s2).mono ?_
  generalize w.alloc (.cells #[.bool a.1.1, s, .bool a.2.1, t] 26) = w0 at *
  rintro e w1 ⟨rfl, o1, g1⟩
  have g1' : Tn (blkI s) w0 w1 := g1
  have X1 := X.tn g1' (fun j hj hq => by simp at hj; have := (hs j hq).2; omega)
  have t3 := t2.tn g1' hap.symm
  have c2 := X1.c2
  have c3 := X1.c3
  obtain ⟨s3, e3, o1'⟩ := o1
  obtain ⟨rfl⟩ : s = s3 := by simpa using e3
  have o1'' : ownsI w1 b s (marksI k a.1.2.length) := o1'
  clear o1' e3 k0
  go_wp2_with fail
  clear c2 c3
  refine (k1 _ t3).mono ?_
  rintro e w2 ⟨rfl, o2, g2⟩
  have g2' : Tn (blkI t) w1 w2 := g2
  obtain ⟨t4, e4, o2'⟩ := o2
  obtain ⟨rfl⟩ : t = t4 := by simpa using e4
  have o2'' : ownsI w2 b t (marksI (k + a.1.2.length) a.2.2.length) := o2'
  have o3 := o1''.tn g2' hap
  have T1 : Tn (blkI s ++ blkI t) w w2 := by
    refine T0.trans (Tn.trans (b := w1) ?_ ?_)
    · exact ⟨g1'.os, g1'.tape, g1'.output, g1'.size, fun j hj hn => g1'.block j hj (fun h => hn (List.mem_append.2 (.inl h)))⟩
    · exact ⟨g2'.os, g2'.tape, g2'.output, g2'.size, fun j hj hn => g2'.block j hj (fun h => hn (List.mem_append.2 (.inr h)))⟩
  have HF : Hid (ownsV w2 b (.agg #[.bool a.1.1, s, .bool a.2.1, t]) ((a.1.1, marksI k a.1.2.length), (a.2.1, marksI (k + a.1.2.length) a.2.2.length)) ∧ Tn (blkV (.agg #[.bool a.1.1, s, .bool a.2.1, t])) w w2) := ⟨⟨s, t, rfl, o3, o2'', hap⟩, T1⟩
  clear o2' e4 k1 o1'' o2'' o3 T1 T0 g1 g2 g1' g2' X X1 t3 s1 t1 s2 t2
  go_wp2
  go_ret
  exact ⟨rfl, HF.out.1, HF.out.2⟩

set_option maxHeartbeats 1600000 in
theorem heldV (b : Nat) (va : Value) (g0 g1 : Bool) (k : Int) (m n : Nat) (w : World) (hm : m ≤ 1048576) (hn : n ≤ 1048576) (hk0 : 0 ≤ k) (hk1 : k ≤ 1099500000000) (h1 : ownsV w b va ((g0, marksI k m), (g1, marksI (k + m) n))) :
    Calls Try.prog 10 #[va, .int .i64 k] w fun e w' => e = .returned (.int .i64 (k + m + n)) ∧ Below w.heap.size w w' := by
  obtain ⟨s, t, rfl, s1, t1, hap⟩ := h1
  have s1' : ownsI w b s (marksI k m) := s1
  have t1' : ownsI w b t (marksI (k + m) n) := t1
  have k0 := fun W (h : Below w.heap.size w W) => heldW b (.agg #[.bool g0, s]) g0 k m W hm hk0 (by omega) ⟨_, rfl, ownsI.below s1' h (Nat.le_refl _)⟩
  have k1 := fun W (h : Below w.heap.size w W) => heldW b (.agg #[.bool g1, t]) g1 (k + m) n W hn (by omega) (by omega) ⟨_, rfl, ownsI.below t1' h (Nat.le_refl _)⟩
  have hA : ¬ (k + (m : Int) < 0) := by omega
  have hB : ¬ (k + (m : Int) + (n : Int) < 0) := by omega
  have B := below1 w (.cells #[.bool g0, s, .bool g1, t] 26)
  have X := BoxV.made w (.bool g0) s (.bool g1) t 26
  clear s1 t1 s1' t1' hap
  go_enter Try.func10, Try.ntmps10
  go_wp2_with fail
  refine (k0 _ B).mono ?_
  generalize w.alloc (.cells #[.bool g0, s, .bool g1, t] 26) = w0 at *
  rintro e w1 ⟨rfl, b1⟩
  have X1 := X.below b1 (Nat.le_refl _)
  have B1 := B.trans (b1.mono B.size)
  have c2 := X1.c2
  have c3 := X1.c3
  go_wp2_with fail
  refine (k1 _ B1).mono ?_
  rintro e w2 ⟨rfl, b2⟩
  have B2 := B1.trans (b2.mono B1.size)
  clear c2 c3 k0 k1
  go_wp2
  go_ret
  exact ⟨rfl, B2⟩

end Go.Proofs.Ytmbopjjpepbgkaa
