/- Several small texts in one: StepI, CutW, Fr, FrS, FrP, StepA. -/
import Derived.Test.YtlpfjpbnedankaaBase
import Derived.Deep.RegionHeldLaw
import Derived.Test.YtlpfjpbnedankaaV0
import Derived.Test.YtlpfjpbnedankaaSGB
import Derived.Test.YtlpfjpbnedankaaPB
import Derived.Maps.AppendAt
/- 'append(row of the call's own, row...)' as one step of a region that draws its order. -/
namespace Go.Proofs.Ytlpfjpbnedankaa
open Go.RowKit

theorem stepI_all (w0 w : World) {ops : Array Oper} {o : Oper} {a : Act} {K : Act → World → Prop} {Q : Exit → Act → World → Prop} {E : Prop} (hgd : o.guard = none) (s x : Operand)
    (ho : o.op = Op.call { callee := Callee.builtin Builtin.append, args := #[s, x], argTypes := #[25, 25] }) (base : Nat) (v v2 : Value) (xs ys : List Int)
    (hs : a.eval s = v) (hown : ownsI w base v xs) (hx : a.eval x = v2) (hy : rowI w v2 ys) (hb : Below base w0 w) (hlen : xs.length + ys.length ≤ 1099511627776) (hbase : base ≤ w.heap.size)
    (h : ∀ v' w', ownsI w' base v' (xs ++ ys) → Below base w0 w' → K (a.put o.dst v') w') :
    if Region.wanted o (yielded ops a.tmps) = true then Oper.wp Try.prog o a w K Q else E := by
  have hw : Region.wanted o (yielded ops a.tmps) = true := by simp [Region.wanted, hgd]
  rw [if_pos hw]
  obtain ⟨i0, hi, hz0, hz1, hz2⟩ := info_parts Try.info3
  obtain ⟨ad, cap, rfl, h2, h3, h4, h5, h6⟩ := hy
  cases ad with
  | none =>
    have hc := h4 rfl
    have hy0 : ys.length = 0 := by omega
    obtain rfl := List.eq_nil_of_length_eq_zero hy0
    subst hc
    have hx' : a.eval x = .slice none 0 0 := hx
    have hrun := run_append_owned_none (P := Try.prog) (w := w) base 25 o.type 3 i0 1 Try.underlying25 hi v xs.length (xs.map (Value.int .i64)) hown
    unfold Oper.wp
    simp [execOp, ho, resolve, invoke, builtin, hs, hx', hrun, Result.andThen]
    exact h v w (by rw [List.append_nil]; exact hown) hb
  | some ad =>
    obtain ⟨g0, off0, spot⟩ := ad
    have hsp : spot = none := h5 _ rfl
    subst hsp
    refine wp_append_own _ s x 25 ho base 3 i0 (.int .i64 0) 1 8 Try.underlying25 hi hz0 hz1 hz2 rfl (by decide) v xs.length (xs.map (Value.int .i64)) hs hown ⟨g0, off0, none⟩ ys.length cap (ys.map (Value.int .i64)) hx (by simp) ?_ ?_ ?_ ?_ hbase ?_
    · intro j u hj
      rw [List.getElem?_map] at hj
      have hjl : j < ys.length := by
        apply Classical.byContradiction; intro hn
        rw [List.getElem?_eq_none (by omega)] at hj; cases hj
      obtain ⟨g, off, e, hg, hc⟩ := h6 j hjl
      cases e
      rw [List.getElem?_eq_getElem hjl] at hj
      simp only [Option.map_some, Option.some.injEq] at hj
      subst hj
      have hgd : ys.getD j 0 = ys[j] := by rw [List.getD_eq_getElem?_getD, List.getElem?_eq_getElem hjl]; rfl
      rw [hgd] at hc
      unfold Addr.add
      by_cases hj0 : j = 0
      · subst hj0; simpa using hc
      · simpa [hj0] using hc
    · intro u hu; obtain ⟨z, _, rfl⟩ := List.mem_map.1 hu; rfl
    · unfold maxLen; omega
    · omega
    · intro v' w' ho' hg _
      refine h v' w' ?_ (hb.grown hg hbase fun k hk => (World.ownsRow.lt hown k hk).1)
      unfold ownsI
      rw [List.length_append, List.map_append]
      exact ho'

end Go.Proofs.Ytlpfjpbnedankaa

/- A region that draws its order, with a call and the box of its answer: what stands behind it, in whichever order (no walk). -/
namespace Go.Proofs.Ytlpfjpbnedankaa
open Go.RowKit

/-- What stands behind a region that is left at its end alone. -/
def atEnd (M : Act → World → Prop) : Exit → Act → World → Prop
  | .normal, a, w => M a w
  | _, _, _ => False
theorem atEnd_out {M : Act → World → Prop} {Q : Exit → Act → World → Prop} (h : ∀ a w, M a w → Q .normal a w) : ∀ e a w, atEnd M e a w → Q e a w := by
  intro e a w hm
  cases e
  case normal => exact h a w hm
  all_goals exact hm.elim
theorem BoxW.mono {w : World} {base base' b : Nat} {x y : Value} (h : BoxW w base b x y) (hb : base' ≤ base) : BoxW w base' b x y := ⟨Nat.le_trans hb h.lo, h.hi, h.c0, h.c1, h.f0, h.f1⟩
theorem tn_pair (w : World) (b : Nat) (x y : Value) : Tn [b] w ((w.setCell ⟨b, 0, none⟩ x).setCell ⟨b, 1, none⟩ y) :=
  ⟨rfl, rfl, rfl, by simp [World.setCell], fun k _ hn => by
    have h1 : k ≠ b := fun e => hn (by simp [e])
    rw [Below.heap_setCell _ _ _ _ h1, Below.heap_setCell _ _ _ _ h1]⟩
theorem BoxW.pair {w : World} {base b : Nat} {x y : Value} (h : BoxW w base b x y) (x' y' : Value) : BoxW ((w.setCell ⟨b, 0, none⟩ x').setCell ⟨b, 1, none⟩ y') base b x' y' := by
  have c0 := h.c0
  have c1 := h.c1
  have f0 := h.f0
  have f1 := h.f1
  refine ⟨h.lo, ?_, ?_, ?_, ?_, ?_⟩
  · have := h.hi; simpa [World.setCell] using this
  · exact (World.cell?_setCell_other _ _ _ _ (by simp)).trans (World.cell?_setCell_same _ _ _ c0)
  · exact World.cell?_setCell_same _ _ _ ((World.cell?_setCell_other _ _ _ _ (by simp)).trans c1)
  · simp [*]
  · simp [*]
theorem cut_old {w3 W : World} {B base bx : Nat} {x y v : Value} {a : Wh} (ob : BoxW w3 base bx x y) (ow : ownsW w3 B v a) (hb : base ≤ B) (hx : bx < B) (C : Below base W w3) (x' y' : Value) :
    ownsW ((w3.setCell ⟨bx, 0, none⟩ x').setCell ⟨bx, 1, none⟩ y') base v a ∧ BoxW ((w3.setCell ⟨bx, 0, none⟩ x').setCell ⟨bx, 1, none⟩ y') base bx x' y' ∧ Apart (blkW v) [bx] ∧ Below base W ((w3.setCell ⟨bx, 0, none⟩ x').setCell ⟨bx, 1, none⟩ y') := by
  have hap : Apart (blkW v) [bx] := fun k hk hs => by
    have h1 := (ow.ltb k hk).1
    simp at hs
    omega
  exact ⟨ownsW_mono (ow.tn (tn_pair w3 bx x' y') hap) hb, ob.pair x' y', hap, (C.setCell (p := ⟨bx, 0, none⟩) ob.lo x').setCell (p := ⟨bx, 1, none⟩) ob.lo y'⟩
theorem cut_new {w3 W : World} {B base : Nat} {v : Value} {a : Wh} (ow : ownsW w3 B v a) (hb : base ≤ B) (hw : base ≤ w3.heap.size) (C : Below base W w3) (t : TypeId) (x' y' : Value) :
    ownsW (w3.alloc (.cells #[x', y'] t)) base v a ∧ BoxW (w3.alloc (.cells #[x', y'] t)) base w3.heap.size x' y' ∧ Apart (blkW v) [w3.heap.size] ∧ Below base W (w3.alloc (.cells #[x', y'] t)) :=
  ⟨ownsW_mono (ow.below (below1 w3 _) (Nat.le_refl _)) hb, (BoxW.made w3 x' y' t).mono hw, fun k hk hs => by
    have h1 := (ow.ltb k hk).2
    simp at hs
    omega, C.alloc hw _⟩

def CutM (A : Value → Value → Option Addr → Nat → Nat → Act) (r : Wh) (base : Nat) (W : World) (a' : Act) (w' : World) : Prop :=
  ∃ (vs0 vs1 : Value) (ad : Option Addr) (cp bx : Nat), a' = A vs0 vs1 ad cp bx ∧ ownsW w' base (.agg #[.bool r.1, .slice ad r.2.length cp]) r ∧ BoxW w' base bx (.bool r.1) (.slice ad r.2.length cp) ∧ Apart (blkW (.agg #[.bool r.1, .slice ad r.2.length cp])) [bx] ∧ Below base W w'
theorem cutM_in {A : Value → Value → Option Addr → Nat → Nat → Act} {r : Wh} {base : Nat} {W : World} {a' : Act} {w' : World} (vs0 vs1 : Value) (ad : Option Addr) (cp bx : Nat) (ha : a' = A vs0 vs1 ad cp bx)
    (h : ownsW w' base (.agg #[.bool r.1, .slice ad r.2.length cp]) r ∧ BoxW w' base bx (.bool r.1) (.slice ad r.2.length cp) ∧ Apart (blkW (.agg #[.bool r.1, .slice ad r.2.length cp])) [bx] ∧ Below base W w') : atEnd (CutM A r base W) .normal a' w' :=
  ⟨vs0, vs1, ad, cp, bx, ha, h⟩
theorem wp_cutW {P : Program} {c : Code} {Q : Exit → Act → World → Prop} {a : Act} {w : World} (A : Value → Value → Option Addr → Nat → Nat → Act) (r : Wh) (base : Nat) (W : World) (hA : c.wp P (atEnd (CutM A r base W)) a w)
    (hB : ∀ vs0 vs1 ad cp bx w', ownsW w' base (.agg #[.bool r.1, .slice ad r.2.length cp]) r → BoxW w' base bx (.bool r.1) (.slice ad r.2.length cp) → Apart (blkW (.agg #[.bool r.1, .slice ad r.2.length cp])) [bx] → Below base W w' → Q .normal (A vs0 vs1 ad cp bx) w') : c.wp P Q a w :=
  wp_mono hA (atEnd_out fun a' w' ⟨vs0, vs1, ad, cp, bx, ha, h1, h2, h3, h4⟩ => by subst ha; exact hB vs0 vs1 ad cp bx w' h1 h2 h3 h4)

end Go.Proofs.Ytlpfjpbnedankaa

/- Boxes of variables of whichever number of cells, structs by opaque cells, whole stores (no walk). -/
namespace Go.Proofs.Ytlpfjpbnedankaa
open Go.RowKit
set_option linter.unusedSimpArgs false

/-- The box of a variable: its cells. -/
structure BoxL (w : World) (base b : Nat) (xs : List Value) : Prop where
  lo : base ≤ b
  hi : b < w.heap.size
  c : ∀ i x, xs[i]? = some x → w.cell? ⟨b, i, none⟩ = some x
  f : ∀ i x, xs[i]? = some x → w.frozen? ⟨b, i, none⟩ = false
theorem BoxL.made (w : World) (xs : List Value) (t : TypeId) : BoxL (w.alloc (.cells xs.toArray t)) w.heap.size w.heap.size xs := by
  refine ⟨Nat.le_refl _, by simp, fun i x h => ?_, fun i x h => ?_⟩
  · simp [h]
  · simp [h]
theorem BoxL.below {w w' : World} {base b B : Nat} {xs : List Value} (h : BoxL w base b xs) (hb : Below B w w') (hB : w.heap.size ≤ B) : BoxL w' base b xs :=
  have hlt : b < B := Nat.lt_of_lt_of_le h.hi hB
  ⟨h.lo, Nat.lt_of_lt_of_le h.hi hb.size, fun i x e => (hb.cell (p := ⟨b, i, none⟩) hlt).trans (h.c i x e), fun i x e => (hb.frozen (p := ⟨b, i, none⟩) hlt).trans (h.f i x e)⟩
theorem BoxL.mono {w : World} {base base' b : Nat} {xs : List Value} (h : BoxL w base b xs) (hb : base' ≤ base) : BoxL w base' b xs := ⟨Nat.le_trans hb h.lo, h.hi, h.c, h.f⟩
theorem BoxL.tn {w w' : World} {base b : Nat} {xs : List Value} {S : List Nat} (h : BoxL w base b xs) (ht : Tn S w w') (ha : b ∉ S) : BoxL w' base b xs := by
  have hk := ht.block b h.hi ha
  exact ⟨h.lo, Nat.lt_of_lt_of_le h.hi ht.size, fun i x e => (World.cell?_of_block (w := w) (w' := w') (a := ⟨b, i, none⟩) hk).trans (h.c i x e), fun i x e => (World.frozen?_of_block (w := w) (w' := w') (a := ⟨b, i, none⟩) hk).trans (h.f i x e)⟩
theorem BoxL.set {w : World} {base b : Nat} {xs : List Value} (h : BoxL w base b xs) (i : Nat) (x : Value) (hi : i < xs.length) : BoxL (w.setCell ⟨b, i, none⟩ x) base b (xs.set i x) := by
  obtain ⟨y, hy⟩ : ∃ y, xs[i]? = some y := ⟨xs[i], List.getElem?_eq_getElem hi⟩
  have hc := h.c i y hy
  refine ⟨h.lo, by have := h.hi; simpa [World.setCell] using this, fun j u hj => ?_, fun j u hj => ?_⟩
  · by_cases e : i = j
    · subst e
      rw [List.getElem?_set_self hi] at hj
      cases hj
      exact World.cell?_setCell_same _ _ _ hc
    · rw [List.getElem?_set_ne e] at hj
      exact (World.cell?_setCell_other _ _ _ _ (by simp [e])).trans (h.c j u hj)
  · obtain ⟨z, hz⟩ : ∃ z, xs[j]? = some z := by
      by_cases e : i = j
      · subst e; exact ⟨y, hy⟩
      · rw [List.getElem?_set_ne e] at hj; exact ⟨u, hj⟩
    have hf := h.f j z hz
    simp [hf]
theorem BoxL.ltb {w : World} {base b : Nat} {xs : List Value} (h : BoxL w base b xs) : ∀ k ∈ [b], base ≤ k ∧ k < w.heap.size := fun k hk => by
  simp at hk
  subst hk
  exact ⟨h.lo, h.hi⟩
/-- A store into one cell of a block turns that block alone. -/
theorem tnL (w : World) (b i : Nat) (x : Value) : Tn [b] w (w.setCell ⟨b, i, none⟩ x) :=
  ⟨rfl, rfl, rfl, by simp [World.setCell], fun k _ hn => Below.heap_setCell _ _ _ _ (fun e => hn (by simp [e]))⟩
theorem not_one {a b : Nat} (h : a ≠ b) : a ∉ [b] := by simpa using h
theorem apart_one {S : List Nat} {b : Nat} (h : ∀ k ∈ S, k ≠ b) : Apart S [b] := fun k hk hs => h k hk (by simpa using hs)
/-- Structs by their cells. -/
theorem rowW.cell {w : World} {v : Value} {a : Wh} (h : rowW w v a) : ∃ g ad n c, v = .agg #[.bool g, .slice ad n c] ∧ g = a.1 := by
  obtain ⟨s, rfl, hs⟩ := h
  obtain ⟨ad, c, rfl, -⟩ := hs
  exact ⟨_, _, _, _, rfl, rfl⟩
theorem ownsW.cell {w : World} {base : Nat} {v : Value} {a : Wh} (h : ownsW w base v a) : ∃ g ad n c, v = .agg #[.bool g, .slice ad n c] := by
  obtain ⟨g, ad, n, c, e, -⟩ := h.row.cell
  exact ⟨g, ad, n, c, e⟩
theorem rowV.cell {w : World} {v : Value} {a : Vh} (h : rowV w v a) : ∃ g ad n c g' ad' n' c', v = .agg #[.bool g, .slice ad n c, .bool g', .slice ad' n' c'] ∧ g = a.1.1 ∧ g' = a.2.1 := by
  obtain ⟨s, t, rfl, hs, ht⟩ := h
  obtain ⟨ad, c, rfl, -⟩ := hs
  obtain ⟨ad', c', rfl, -⟩ := ht
  exact ⟨_, _, _, _, _, _, _, _, rfl, rfl, rfl⟩
theorem ownsV.cell {w : World} {base : Nat} {v : Value} {a : Vh} (h : ownsV w base v a) : ∃ g ad n c g' ad' n' c', v = .agg #[.bool g, .slice ad n c, .bool g', .slice ad' n' c'] := by
  obtain ⟨g, ad, n, c, g', ad', n', c', e, -⟩ := h.row.cell
  exact ⟨g, ad, n, c, g', ad', n', c', e⟩
theorem rowV.lo {w : World} {x0 x1 x2 x3 : Value} {a : Vh} (h : rowV w (.agg #[x0, x1, x2, x3]) a) : rowW w (.agg #[x0, x1]) a.1 := by
  obtain ⟨s, t, e, h1, h2⟩ := h
  injection e with e
  simp at e
  obtain ⟨rfl, rfl, rfl, rfl⟩ := e
  exact ⟨_, rfl, h1⟩
theorem rowV.hi {w : World} {x0 x1 x2 x3 : Value} {a : Vh} (h : rowV w (.agg #[x0, x1, x2, x3]) a) : rowW w (.agg #[x2, x3]) a.2 := by
  obtain ⟨s, t, e, h1, h2⟩ := h
  injection e with e
  simp at e
  obtain ⟨rfl, rfl, rfl, rfl⟩ := e
  exact ⟨_, rfl, h2⟩
theorem ownsV.lo {w : World} {base : Nat} {x0 x1 x2 x3 : Value} {a : Vh} (h : ownsV w base (.agg #[x0, x1, x2, x3]) a) : ownsW w base (.agg #[x0, x1]) a.1 := by
  obtain ⟨s, t, e, h1, h2, -⟩ := h
  injection e with e
  simp at e
  obtain ⟨rfl, rfl, rfl, rfl⟩ := e
  exact ⟨_, rfl, h1⟩
theorem ownsV.hi {w : World} {base : Nat} {x0 x1 x2 x3 : Value} {a : Vh} (h : ownsV w base (.agg #[x0, x1, x2, x3]) a) : ownsW w base (.agg #[x2, x3]) a.2 := by
  obtain ⟨s, t, e, h1, h2, -⟩ := h
  injection e with e
  simp at e
  obtain ⟨rfl, rfl, rfl, rfl⟩ := e
  exact ⟨_, rfl, h2⟩
/-- Two numbers, each of its own, the second newer: what is held between them. -/
theorem ownsV.mk {w : World} {base : Nat} {x0 x1 x2 x3 : Value} {a b : Wh} (h : ownsW w base (.agg #[x0, x1]) a) (k : ownsW w base (.agg #[x2, x3]) b) (hap : Apart (blkI x1) (blkI x3)) : ownsV w base (.agg #[x0, x1, x2, x3]) (a, b) := by
  obtain ⟨s, e, h1⟩ := h
  obtain ⟨t, e', h2⟩ := k
  injection e with e
  injection e' with e'
  simp at e e'
  obtain ⟨rfl, rfl⟩ := e
  obtain ⟨rfl, rfl⟩ := e'
  exact ⟨_, _, rfl, h1, h2, hap⟩
theorem ownsW.blk {w : World} {base : Nat} {x0 x1 : Value} {a : Wh} (h : ownsW w base (.agg #[x0, x1]) a) : ∀ k ∈ blkI x1, base ≤ k ∧ k < w.heap.size := by
  obtain ⟨s, e, h1⟩ := h
  injection e with e
  simp at e
  obtain ⟨rfl, rfl⟩ := e
  exact h1.ltb

end Go.Proofs.Ytlpfjpbnedankaa

/- Boxes beside the program's numbers with a sign; cuts whose letters are blocks or values (no walk). -/
namespace Go.Proofs.Ytlpfjpbnedankaa
open Go.RowKit
set_option linter.unusedSimpArgs false

theorem SG.tnL {w w' : World} {b : Nat} {z : Int} {S : List Nat} (h : SG w b z) (ht : Tn S w w') (hS : b ∉ S) : SG w' b z :=
  ⟨(World.cell?_of_block (w := w) (w' := w') (a := ⟨b, 0, none⟩) (ht.block b h.lt hS)).trans h.sign, h.mag.tn ht hS⟩
def CutN (A : Nat → Act) (F : Nat → World → Prop) (a' : Act) (w' : World) : Prop := ∃ (b0 : Nat), a' = A b0 ∧ F b0 w'
theorem CutN.mk {A : Nat → Act} {F : Nat → World → Prop} {a' : Act} {w' : World} (b0 : Nat) (ha : a' = A b0) (h : F b0 w') : atEnd (CutN A F) .normal a' w' := ⟨b0, ha, h⟩
theorem wpCutN {P : Program} {c : Code} {Q : Exit → Act → World → Prop} {a : Act} {w : World} (A : Nat → Act) (F : Nat → World → Prop) (hA : c.wp P (atEnd (CutN A F)) a w)
    (hB : ∀ (b0 : Nat) w', F b0 w' → Q .normal (A b0) w') : c.wp P Q a w :=
  wp_mono hA (atEnd_out fun a' w' ⟨b0, ha, h⟩ => by subst ha; exact hB b0 w' h)
def CutNN (A : Nat → Nat → Act) (F : Nat → Nat → World → Prop) (a' : Act) (w' : World) : Prop := ∃ (b0 : Nat) (b1 : Nat), a' = A b0 b1 ∧ F b0 b1 w'
theorem CutNN.mk {A : Nat → Nat → Act} {F : Nat → Nat → World → Prop} {a' : Act} {w' : World} (b0 : Nat) (b1 : Nat) (ha : a' = A b0 b1) (h : F b0 b1 w') : atEnd (CutNN A F) .normal a' w' := ⟨b0, b1, ha, h⟩
theorem wpCutNN {P : Program} {c : Code} {Q : Exit → Act → World → Prop} {a : Act} {w : World} (A : Nat → Nat → Act) (F : Nat → Nat → World → Prop) (hA : c.wp P (atEnd (CutNN A F)) a w)
    (hB : ∀ (b0 : Nat) (b1 : Nat) w', F b0 b1 w' → Q .normal (A b0 b1) w') : c.wp P Q a w :=
  wp_mono hA (atEnd_out fun a' w' ⟨b0, b1, ha, h⟩ => by subst ha; exact hB b0 b1 w' h)
def CutNNN (A : Nat → Nat → Nat → Act) (F : Nat → Nat → Nat → World → Prop) (a' : Act) (w' : World) : Prop := ∃ (b0 : Nat) (b1 : Nat) (b2 : Nat), a' = A b0 b1 b2 ∧ F b0 b1 b2 w'
theorem CutNNN.mk {A : Nat → Nat → Nat → Act} {F : Nat → Nat → Nat → World → Prop} {a' : Act} {w' : World} (b0 : Nat) (b1 : Nat) (b2 : Nat) (ha : a' = A b0 b1 b2) (h : F b0 b1 b2 w') : atEnd (CutNNN A F) .normal a' w' := ⟨b0, b1, b2, ha, h⟩
theorem wpCutNNN {P : Program} {c : Code} {Q : Exit → Act → World → Prop} {a : Act} {w : World} (A : Nat → Nat → Nat → Act) (F : Nat → Nat → Nat → World → Prop) (hA : c.wp P (atEnd (CutNNN A F)) a w)
    (hB : ∀ (b0 : Nat) (b1 : Nat) (b2 : Nat) w', F b0 b1 b2 w' → Q .normal (A b0 b1 b2) w') : c.wp P Q a w :=
  wp_mono hA (atEnd_out fun a' w' ⟨b0, b1, b2, ha, h⟩ => by subst ha; exact hB b0 b1 b2 w' h)
def CutNNNN (A : Nat → Nat → Nat → Nat → Act) (F : Nat → Nat → Nat → Nat → World → Prop) (a' : Act) (w' : World) : Prop := ∃ (b0 : Nat) (b1 : Nat) (b2 : Nat) (b3 : Nat), a' = A b0 b1 b2 b3 ∧ F b0 b1 b2 b3 w'
theorem CutNNNN.mk {A : Nat → Nat → Nat → Nat → Act} {F : Nat → Nat → Nat → Nat → World → Prop} {a' : Act} {w' : World} (b0 : Nat) (b1 : Nat) (b2 : Nat) (b3 : Nat) (ha : a' = A b0 b1 b2 b3) (h : F b0 b1 b2 b3 w') : atEnd (CutNNNN A F) .normal a' w' := ⟨b0, b1, b2, b3, ha, h⟩
theorem wpCutNNNN {P : Program} {c : Code} {Q : Exit → Act → World → Prop} {a : Act} {w : World} (A : Nat → Nat → Nat → Nat → Act) (F : Nat → Nat → Nat → Nat → World → Prop) (hA : c.wp P (atEnd (CutNNNN A F)) a w)
    (hB : ∀ (b0 : Nat) (b1 : Nat) (b2 : Nat) (b3 : Nat) w', F b0 b1 b2 b3 w' → Q .normal (A b0 b1 b2 b3) w') : c.wp P Q a w :=
  wp_mono hA (atEnd_out fun a' w' ⟨b0, b1, b2, b3, ha, h⟩ => by subst ha; exact hB b0 b1 b2 b3 w' h)
def CutNNNNN (A : Nat → Nat → Nat → Nat → Nat → Act) (F : Nat → Nat → Nat → Nat → Nat → World → Prop) (a' : Act) (w' : World) : Prop := ∃ (b0 : Nat) (b1 : Nat) (b2 : Nat) (b3 : Nat) (b4 : Nat), a' = A b0 b1 b2 b3 b4 ∧ F b0 b1 b2 b3 b4 w'
theorem CutNNNNN.mk {A : Nat → Nat → Nat → Nat → Nat → Act} {F : Nat → Nat → Nat → Nat → Nat → World → Prop} {a' : Act} {w' : World} (b0 : Nat) (b1 : Nat) (b2 : Nat) (b3 : Nat) (b4 : Nat) (ha : a' = A b0 b1 b2 b3 b4) (h : F b0 b1 b2 b3 b4 w') : atEnd (CutNNNNN A F) .normal a' w' := ⟨b0, b1, b2, b3, b4, ha, h⟩
theorem wpCutNNNNN {P : Program} {c : Code} {Q : Exit → Act → World → Prop} {a : Act} {w : World} (A : Nat → Nat → Nat → Nat → Nat → Act) (F : Nat → Nat → Nat → Nat → Nat → World → Prop) (hA : c.wp P (atEnd (CutNNNNN A F)) a w)
    (hB : ∀ (b0 : Nat) (b1 : Nat) (b2 : Nat) (b3 : Nat) (b4 : Nat) w', F b0 b1 b2 b3 b4 w' → Q .normal (A b0 b1 b2 b3 b4) w') : c.wp P Q a w :=
  wp_mono hA (atEnd_out fun a' w' ⟨b0, b1, b2, b3, b4, ha, h⟩ => by subst ha; exact hB b0 b1 b2 b3 b4 w' h)

end Go.Proofs.Ytlpfjpbnedankaa

/- A Spin by its cells (no walk). -/
namespace Go.Proofs.Ytlpfjpbnedankaa
open Go.RowKit
set_option linter.unusedSimpArgs false

theorem rowP.cell {w : World} {v : Value} {a : Ph} (h : rowP w v a) : ∃ g ad n c g' ad' n' c', v = .agg #[.bool g, .slice ad n c, .bool g', .slice ad' n' c', .int .i64 a.2] := by
  obtain ⟨s, t, rfl, hs, ht⟩ := h
  obtain ⟨ad, c, rfl, -⟩ := hs
  obtain ⟨ad', c', rfl, -⟩ := ht
  exact ⟨_, _, _, _, _, _, _, _, rfl⟩
theorem ownsP.cell {w : World} {base : Nat} {v : Value} {a : Ph} (h : ownsP w base v a) : ∃ g ad n c g' ad' n' c', v = .agg #[.bool g, .slice ad n c, .bool g', .slice ad' n' c', .int .i64 a.2] := h.row.cell
theorem rowP.x {w : World} {x0 x1 x2 x3 x4 : Value} {a : Ph} (h : rowP w (.agg #[x0, x1, x2, x3, x4]) a) : rowW w (.agg #[x0, x1]) a.1.1 := by
  obtain ⟨s, t, e, h1, h2⟩ := h
  injection e with e
  simp at e
  obtain ⟨rfl, rfl, rfl, rfl, rfl⟩ := e
  exact ⟨_, rfl, h1⟩
theorem rowP.y {w : World} {x0 x1 x2 x3 x4 : Value} {a : Ph} (h : rowP w (.agg #[x0, x1, x2, x3, x4]) a) : rowW w (.agg #[x2, x3]) a.1.2 := by
  obtain ⟨s, t, e, h1, h2⟩ := h
  injection e with e
  simp at e
  obtain ⟨rfl, rfl, rfl, rfl, rfl⟩ := e
  exact ⟨_, rfl, h2⟩
theorem rowW.lim {w : World} {g : Bool} {s : Value} {a : Wh} (h : rowW w (.agg #[.bool g, s]) a) : g = a.1 ∧ rowI w s a.2 := by
  obtain ⟨t, e, h1⟩ := h
  injection e with e
  simp at e
  obtain ⟨rfl, rfl⟩ := e
  exact ⟨rfl, h1⟩
theorem ownsP.mk {w : World} {base : Nat} {x0 x1 x2 x3 : Value} {a b : Wh} {k : Int} (h : ownsW w base (.agg #[x0, x1]) a) (k' : ownsW w base (.agg #[x2, x3]) b) (hap : Apart (blkI x1) (blkI x3)) : ownsP w base (.agg #[x0, x1, x2, x3, .int .i64 k]) ((a, b), k) := by
  obtain ⟨s, e, h1⟩ := h
  obtain ⟨t, e', h2⟩ := k'
  injection e with e
  injection e' with e'
  simp at e e'
  obtain ⟨rfl, rfl⟩ := e
  obtain ⟨rfl, rfl⟩ := e'
  exact ⟨_, _, rfl, h1, h2, hap⟩
theorem ownsW.mkI {w : World} {base : Nat} {v : Value} {g : Bool} {xs : List Int} (h : ownsI w base v xs) : ownsW w base (.agg #[.bool g, v]) (g, xs) := ⟨v, rfl, h⟩
theorem ownsP_mono {w : World} {base base' : Nat} {v : Value} {a : Ph} (h : ownsP w base v a) (hb : base' ≤ base) : ownsP w base' v a := by
  obtain ⟨s, t, rfl, h1, h2, h3⟩ := h
  exact ⟨s, t, rfl, ownsI_mono h1 hb, ownsI_mono h2 hb, h3⟩

end Go.Proofs.Ytlpfjpbnedankaa

/- 'append(row of the call's own, row...)' as one step of a region that draws its order: where the new row lies. -/
namespace Go.Proofs.Ytlpfjpbnedankaa
open Go.RowKit
set_option linter.unusedSimpArgs false

theorem stepA {w : World} {ops : Array Oper} {o : Oper} {a : Act} {K : Act → World → Prop} {Q : Exit → Act → World → Prop} {E : Prop} (hgd : o.guard = none) (s x : Operand)
    (ho : o.op = Op.call { callee := Callee.builtin Builtin.append, args := #[s, x], argTypes := #[25, 25] }) (base : Nat) (v v2 : Value) (xs ys : List Int)
    (hs : a.eval s = v) (hown : ownsI w base v xs) (hx : a.eval x = v2) (hy : rowI w v2 ys) (hlen : xs.length + ys.length ≤ 1099511627776) (hbase : base ≤ w.heap.size)
    (h : ∀ v' w', ownsI w' base v' (xs ++ ys) → Tn (blkI v) w w' → (∀ k ∈ blkI v', k ∈ blkI v ∨ k = w.heap.size) → K (a.put o.dst v') w') :
    if Region.wanted o (yielded ops a.tmps) = true then Oper.wp Try.prog o a w K Q else E := by
  have hw : Region.wanted o (yielded ops a.tmps) = true := by simp [Region.wanted, hgd]
  rw [if_pos hw]
  obtain ⟨i0, hi, hz0, hz1, hz2⟩ := info_parts Try.info3
  obtain ⟨ad, cap, rfl, h2, h3, h4, h5, h6⟩ := hy
  cases ad with
  | none =>
    have hc := h4 rfl
    have hy0 : ys.length = 0 := by omega
    obtain rfl := List.eq_nil_of_length_eq_zero hy0
    subst hc
    have hx' : a.eval x = .slice none 0 0 := hx
    have hrun := run_append_owned_none (P := Try.prog) (w := w) base 25 o.type 3 i0 1 Try.underlying25 hi v xs.length (xs.map (Value.int .i64)) hown
    unfold Oper.wp
    simp [execOp, ho, resolve, invoke, builtin, hs, hx', hrun, Result.andThen]
    exact h v w (by rw [List.append_nil]; exact hown) ⟨rfl, rfl, rfl, Nat.le_refl _, fun _ _ _ => rfl⟩ (fun k hk => .inl hk)
  | some ad =>
    obtain ⟨g0, off0, spot⟩ := ad
    have hsp : spot = none := h5 _ rfl
    subst hsp
    obtain ⟨v', w', hr, q1, q2, -, q4⟩ := run_append_own_at (P := Try.prog) w base 25 o.type 3 i0 (.int .i64 0) 1 8 Try.underlying25 hi hz0 hz1 hz2 rfl (by decide) v xs.length (xs.map (Value.int .i64)) hown ⟨g0, off0, none⟩ ys.length cap (ys.map (Value.int .i64)) (by simp) (by
      intro j u hj
      rw [List.getElem?_map] at hj
      have hjl : j < ys.length := by
        apply Classical.byContradiction; intro hn
        rw [List.getElem?_eq_none (by omega)] at hj; cases hj
      obtain ⟨g, off, e, hg, hc⟩ := h6 j hjl
      cases e
      rw [List.getElem?_eq_getElem hjl] at hj
      simp only [Option.map_some, Option.some.injEq] at hj
      subst hj
      have hgd : ys.getD j 0 = ys[j] := by rw [List.getD_eq_getElem?_getD, List.getElem?_eq_getElem hjl]; rfl
      rw [hgd] at hc
      unfold Addr.add
      by_cases hj0 : j = 0
      · subst hj0; simpa using hc
      · simpa [hj0] using hc) (by intro u hu; obtain ⟨z, _, rfl⟩ := List.mem_map.1 hu; rfl) (by unfold maxLen; omega) (by omega) hbase
    unfold Oper.wp execOp
    simp only [ho, resolve, invoke, builtin, Sem.run_bind, Sem.run_pure, Result.andThen_ok, List.map_toArray, List.map_cons, List.map_nil, hs, hx, hr]
    refine h v' w' ?_ (Tn.of_grown q2) ?_
    · unfold ownsI
      rw [List.length_append, List.map_append]
      exact q1
    · intro k hk
      unfold blkI at hk ⊢
      rw [Option.mem_toList] at hk ⊢
      rcases q4 with e | e
      · exact .inl (e ▸ hk)
      · rw [e] at hk
        exact .inr (Option.some.inj hk).symm
theorem made_empty (w : World) : ownsI (w.alloc (.cells #[] 3)) w.heap.size (.slice (some ⟨w.heap.size, 0, none⟩) 0 0) [] := made_own w
theorem nilI (w : World) (base : Nat) : ownsI w base (.slice none 0 0) [] := ⟨rfl, .inl ⟨rfl, rfl⟩⟩

end Go.Proofs.Ytlpfjpbnedankaa
