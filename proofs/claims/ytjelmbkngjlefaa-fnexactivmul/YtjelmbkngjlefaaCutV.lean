/- A region that draws its order, with a call and the four cells of its answer's box: what stands behind it, in whichever order (no walk). -/
import Derived.Test.YtjelmbkngjlefaaVB
import Derived.Test.YtjelmbkngjlefaaCutW
namespace Go.Proofs.Ytjelmbkngjlefaa
open Go.RowKit

def w4 (w : World) (b : Nat) (x0 x1 x2 x3 : Value) : World := (((w.setCell ⟨b, 0, none⟩ x0).setCell ⟨b, 1, none⟩ x1).setCell ⟨b, 2, none⟩ x2).setCell ⟨b, 3, none⟩ x3
theorem tn_four (w : World) (b : Nat) (x0 x1 x2 x3 : Value) : Tn [b] w (w4 w b x0 x1 x2 x3) :=
  ⟨rfl, rfl, rfl, by simp [w4, World.setCell], fun k _ hn => by
    have h1 : k ≠ b := fun e => hn (by simp [e])
    unfold w4
    rw [Below.heap_setCell _ _ _ _ h1, Below.heap_setCell _ _ _ _ h1, Below.heap_setCell _ _ _ _ h1, Below.heap_setCell _ _ _ _ h1]⟩
theorem BoxV.four {w : World} {base b : Nat} {x0 x1 x2 x3 : Value} (h : BoxV w base b x0 x1 x2 x3) (y0 y1 y2 y3 : Value) : BoxV (w4 w b y0 y1 y2 y3) base b y0 y1 y2 y3 :=
  (((h.set0 y0).set1 y1).set2 y2).set3 y3
theorem cutV_old {w3 W : World} {B base bx : Nat} {x0 x1 x2 x3 v : Value} {a : Vh} (ob : BoxV w3 base bx x0 x1 x2 x3) (ow : ownsV w3 B v a) (hb : base ≤ B) (hx : bx < B) (C : Below base W w3) (y0 y1 y2 y3 : Value) :
    ownsV ((((w3.setCell ⟨bx, 0, none⟩ y0).setCell ⟨bx, 1, none⟩ y1).setCell ⟨bx, 2, none⟩ y2).setCell ⟨bx, 3, none⟩ y3) base v a ∧ BoxV ((((w3.setCell ⟨bx, 0, none⟩ y0).setCell ⟨bx, 1, none⟩ y1).setCell ⟨bx, 2, none⟩ y2).setCell ⟨bx, 3, none⟩ y3) base bx y0 y1 y2 y3 ∧ Apart (blkV v) [bx] ∧ Below base W ((((w3.setCell ⟨bx, 0, none⟩ y0).setCell ⟨bx, 1, none⟩ y1).setCell ⟨bx, 2, none⟩ y2).setCell ⟨bx, 3, none⟩ y3) := by
  have hap : Apart (blkV v) [bx] := fun k hk hs => by
    have h1 := (ow.ltb k hk).1
    simp at hs
    omega
  exact ⟨ownsV_mono (ow.tn (tn_four w3 bx y0 y1 y2 y3) hap) hb, ob.four y0 y1 y2 y3, hap, (((C.setCell (p := ⟨bx, 0, none⟩) ob.lo y0).setCell (p := ⟨bx, 1, none⟩) ob.lo y1).setCell (p := ⟨bx, 2, none⟩) ob.lo y2).setCell (p := ⟨bx, 3, none⟩) ob.lo y3⟩
theorem cutV_new {w3 W : World} {B base : Nat} {v : Value} {a : Vh} (ow : ownsV w3 B v a) (hb : base ≤ B) (hw : base ≤ w3.heap.size) (C : Below base W w3) (t : TypeId) (y0 y1 y2 y3 : Value) :
    ownsV (w3.alloc (.cells #[y0, y1, y2, y3] t)) base v a ∧ BoxV (w3.alloc (.cells #[y0, y1, y2, y3] t)) base w3.heap.size y0 y1 y2 y3 ∧ Apart (blkV v) [w3.heap.size] ∧ Below base W (w3.alloc (.cells #[y0, y1, y2, y3] t)) :=
  ⟨ownsV_mono (ow.below (below1 w3 _) (Nat.le_refl _)) hb, (BoxV.made w3 y0 y1 y2 y3 t).mono hw, fun k hk hs => by
    have h1 := (ow.ltb k hk).2
    simp at hs
    omega, C.alloc hw _⟩

def CutMV (A : Value → Value → Option Addr → Nat → Option Addr → Nat → Nat → Act) (r : Vh) (base : Nat) (W : World) (a' : Act) (w' : World) : Prop :=
  ∃ (vs0 vs1 : Value) (ad : Option Addr) (cp : Nat) (ae : Option Addr) (cq bx : Nat), a' = A vs0 vs1 ad cp ae cq bx ∧ ownsV w' base (.agg #[.bool r.1.1, .slice ad r.1.2.length cp, .bool r.2.1, .slice ae r.2.2.length cq]) r ∧ BoxV w' base bx (.bool r.1.1) (.slice ad r.1.2.length cp) (.bool r.2.1) (.slice ae r.2.2.length cq) ∧ Apart (blkV (.agg #[.bool r.1.1, .slice ad r.1.2.length cp, .bool r.2.1, .slice ae r.2.2.length cq])) [bx] ∧ Below base W w'
theorem cutMV_in {A : Value → Value → Option Addr → Nat → Option Addr → Nat → Nat → Act} {r : Vh} {base : Nat} {W : World} {a' : Act} {w' : World} (vs0 vs1 : Value) (ad : Option Addr) (cp : Nat) (ae : Option Addr) (cq bx : Nat) (ha : a' = A vs0 vs1 ad cp ae cq bx)
    (h : ownsV w' base (.agg #[.bool r.1.1, .slice ad r.1.2.length cp, .bool r.2.1, .slice ae r.2.2.length cq]) r ∧ BoxV w' base bx (.bool r.1.1) (.slice ad r.1.2.length cp) (.bool r.2.1) (.slice ae r.2.2.length cq) ∧ Apart (blkV (.agg #[.bool r.1.1, .slice ad r.1.2.length cp, .bool r.2.1, .slice ae r.2.2.length cq])) [bx] ∧ Below base W w') : atEnd (CutMV A r base W) .normal a' w' :=
  ⟨vs0, vs1, ad, cp, ae, cq, bx, ha, h⟩
theorem wp_cutV {P : Program} {c : Code} {Q : Exit → Act → World → Prop} {a : Act} {w : World} (A : Value → Value → Option Addr → Nat → Option Addr → Nat → Nat → Act) (r : Vh) (base : Nat) (W : World) (hA : c.wp P (atEnd (CutMV A r base W)) a w)
    (hB : ∀ vs0 vs1 ad cp ae cq bx w', ownsV w' base (.agg #[.bool r.1.1, .slice ad r.1.2.length cp, .bool r.2.1, .slice ae r.2.2.length cq]) r → BoxV w' base bx (.bool r.1.1) (.slice ad r.1.2.length cp) (.bool r.2.1) (.slice ae r.2.2.length cq) → Apart (blkV (.agg #[.bool r.1.1, .slice ad r.1.2.length cp, .bool r.2.1, .slice ae r.2.2.length cq])) [bx] → Below base W w' → Q .normal (A vs0 vs1 ad cp ae cq bx) w') : c.wp P Q a w :=
  wp_mono hA (atEnd_out fun a' w' ⟨vs0, vs1, ad, cp, ae, cq, bx, ha, h1, h2, h3, h4⟩ => by subst ha; exact hB vs0 vs1 ad cp ae cq bx w' h1 h2 h3 h4)

end Go.Proofs.Ytjelmbkngjlefaa
