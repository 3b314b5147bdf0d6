/- A region that draws its order, with a call and the box of its answer: what stands behind it, in whichever order (no walk). -/
import Derived.Test.YtjelmbkngjlefaaBase
namespace Go.Proofs.Ytjelmbkngjlefaa
open Go.RowKit

/-- What stands behind a region that is left at its end alone. -/
def atEnd (M : Act → World → Prop) : Exit → Act → World → Prop
  | .normal, a, w => M a w
  | _, _, _ => False
theorem atEnd_out {M : Act → World → Prop} {Q : Exit → Act → World → Prop} (h : ∀ a w, M a w → Q .normal a w) : ∀ e a w, atEnd M e a w → Q e a w := by
  intro e a w hm
  cases e
  case normal => exact h a w hm
  all_goals exact hm.elim
theorem BoxW.mono {w : World} {base base' b : Nat} {x y : Value} (h : BoxW w base b x y) (hb : base' ≤ base) : BoxW w base' b x y := ⟨Nat.le_trans hb h.lo, h.hi, h.c0, h.c1, h.f0, h.f1⟩
theorem tn_pair (w : World) (b : Nat) (x y : Value) : Tn [b] w ((w.setCell ⟨b, 0, none⟩ x).setCell ⟨b, 1, none⟩ y) :=
  ⟨rfl, rfl, rfl, by simp [World.setCell], fun k _ hn => by
    have h1 : k ≠ b := fun e => hn (by simp [e])
    rw [Below.heap_setCell _ _ _ _ h1, Below.heap_setCell _ _ _ _ h1]⟩
theorem BoxW.pair {w : World} {base b : Nat} {x y : Value} (h : BoxW w base b x y) (x' y' : Value) : BoxW ((w.setCell ⟨b, 0, none⟩ x').setCell ⟨b, 1, none⟩ y') base b x' y' := by
  have c0 := h.c0
  have c1 := h.c1
  have f0 := h.f0
  have f1 := h.f1
  refine ⟨h.lo, ?_, ?_, ?_, ?_, ?_⟩
  · have := h.hi; simpa [World.setCell] using this
  · exact (World.cell?_setCell_other _ _ _ _ (by simp)).trans (World.cell?_setCell_same _ _ _ c0)
  · exact World.cell?_setCell_same _ _ _ ((World.cell?_setCell_other _ _ _ _ (by simp)).trans c1)
  · simp [*]
  · simp [*]
theorem cut_old {w3 W : World} {B base bx : Nat} {x y v : Value} {a : Wh} (ob : BoxW w3 base bx x y) (ow : ownsW w3 B v a) (hb : base ≤ B) (hx : bx < B) (C : Below base W w3) (x' y' : Value) :
    ownsW ((w3.setCell ⟨bx, 0, none⟩ x').setCell ⟨bx, 1, none⟩ y') base v a ∧ BoxW ((w3.setCell ⟨bx, 0, none⟩ x').setCell ⟨bx, 1, none⟩ y') base bx x' y' ∧ Apart (blkW v) [bx] ∧ Below base W ((w3.setCell ⟨bx, 0, none⟩ x').setCell ⟨bx, 1, none⟩ y') := by
  have hap : Apart (blkW v) [bx] := fun k hk hs => by
    have h1 := (ow.ltb k hk).1
    simp at hs
    omega
  exact ⟨ownsW_mono (ow.tn (tn_pair w3 bx x' y') hap) hb, ob.pair x' y', hap, (C.setCell (p := ⟨bx, 0, none⟩) ob.lo x').setCell (p := ⟨bx, 1, none⟩) ob.lo y'⟩
theorem cut_new {w3 W : World} {B base : Nat} {v : Value} {a : Wh} (ow : ownsW w3 B v a) (hb : base ≤ B) (hw : base ≤ w3.heap.size) (C : Below base W w3) (t : TypeId) (x' y' : Value) :
    ownsW (w3.alloc (.cells #[x', y'] t)) base v a ∧ BoxW (w3.alloc (.cells #[x', y'] t)) base w3.heap.size x' y' ∧ Apart (blkW v) [w3.heap.size] ∧ Below base W (w3.alloc (.cells #[x', y'] t)) :=
  ⟨ownsW_mono (ow.below (below1 w3 _) (Nat.le_refl _)) hb, (BoxW.made w3 x' y' t).mono hw, fun k hk hs => by
    have h1 := (ow.ltb k hk).2
    simp at hs
    omega, C.alloc hw _⟩

def CutM (A : Value → Value → Option Addr → Nat → Nat → Act) (r : Wh) (base : Nat) (W : World) (a' : Act) (w' : World) : Prop :=
  ∃ (vs0 vs1 : Value) (ad : Option Addr) (cp bx : Nat), a' = A vs0 vs1 ad cp bx ∧ ownsW w' base (.agg #[.bool r.1, .slice ad r.2.length cp]) r ∧ BoxW w' base bx (.bool r.1) (.slice ad r.2.length cp) ∧ Apart (blkW (.agg #[.bool r.1, .slice ad r.2.length cp])) [bx] ∧ Below base W w'
theorem cutM_in {A : Value → Value → Option Addr → Nat → Nat → Act} {r : Wh} {base : Nat} {W : World} {a' : Act} {w' : World} (vs0 vs1 : Value) (ad : Option Addr) (cp bx : Nat) (ha : a' = A vs0 vs1 ad cp bx)
    (h : ownsW w' base (.agg #[.bool r.1, .slice ad r.2.length cp]) r ∧ BoxW w' base bx (.bool r.1) (.slice ad r.2.length cp) ∧ Apart (blkW (.agg #[.bool r.1, .slice ad r.2.length cp])) [bx] ∧ Below base W w') : atEnd (CutM A r base W) .normal a' w' :=
  ⟨vs0, vs1, ad, cp, bx, ha, h⟩
theorem wp_cutW {P : Program} {c : Code} {Q : Exit → Act → World → Prop} {a : Act} {w : World} (A : Value → Value → Option Addr → Nat → Nat → Act) (r : Wh) (base : Nat) (W : World) (hA : c.wp P (atEnd (CutM A r base W)) a w)
    (hB : ∀ vs0 vs1 ad cp bx w', ownsW w' base (.agg #[.bool r.1, .slice ad r.2.length cp]) r → BoxW w' base bx (.bool r.1) (.slice ad r.2.length cp) → Apart (blkW (.agg #[.bool r.1, .slice ad r.2.length cp])) [bx] → Below base W w' → Q .normal (A vs0 vs1 ad cp bx) w') : c.wp P Q a w :=
  wp_mono hA (atEnd_out fun a' w' ⟨vs0, vs1, ad, cp, bx, ha, h1, h2, h3, h4⟩ => by subst ha; exact hB vs0 vs1 ad cp bx w' h1 h2 h3 h4)

end Go.Proofs.Ytjelmbkngjlefaa
