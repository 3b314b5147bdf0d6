/- Boxes beside the program's numbers with a sign; cuts whose letters are blocks or values (no walk). -/
import Derived.Test.YtjelmbkngjlefaaVB
import Derived.Test.YtjelmbkngjlefaaSG
import Derived.Test.YtjelmbkngjlefaaCutW
namespace Go.Proofs.Ytjelmbkngjlefaa
open Go.RowKit
set_option linter.unusedSimpArgs false

theorem SG.tnL {w w' : World} {b : Nat} {z : Int} {S : List Nat} (h : SG w b z) (ht : Tn S w w') (hS : b ∉ S) : SG w' b z :=
  ⟨(World.cell?_of_block (w := w) (w' := w') (a := ⟨b, 0, none⟩) (ht.block b h.lt hS)).trans h.sign, h.mag.tn ht hS⟩
def CutN (A : Nat → Act) (F : Nat → World → Prop) (a' : Act) (w' : World) : Prop := ∃ (b0 : Nat), a' = A b0 ∧ F b0 w'
theorem CutN.mk {A : Nat → Act} {F : Nat → World → Prop} {a' : Act} {w' : World} (b0 : Nat) (ha : a' = A b0) (h : F b0 w') : atEnd (CutN A F) .normal a' w' := ⟨b0, ha, h⟩
theorem wpCutN {P : Program} {c : Code} {Q : Exit → Act → World → Prop} {a : Act} {w : World} (A : Nat → Act) (F : Nat → World → Prop) (hA : c.wp P (atEnd (CutN A F)) a w)
    (hB : ∀ (b0 : Nat) w', F b0 w' → Q .normal (A b0) w') : c.wp P Q a w :=
  wp_mono hA (atEnd_out fun a' w' ⟨b0, ha, h⟩ => by subst ha; exact hB b0 w' h)
def CutNN (A : Nat → Nat → Act) (F : Nat → Nat → World → Prop) (a' : Act) (w' : World) : Prop := ∃ (b0 : Nat) (b1 : Nat), a' = A b0 b1 ∧ F b0 b1 w'
theorem CutNN.mk {A : Nat → Nat → Act} {F : Nat → Nat → World → Prop} {a' : Act} {w' : World} (b0 : Nat) (b1 : Nat) (ha : a' = A b0 b1) (h : F b0 b1 w') : atEnd (CutNN A F) .normal a' w' := ⟨b0, b1, ha, h⟩
theorem wpCutNN {P : Program} {c : Code} {Q : Exit → Act → World → Prop} {a : Act} {w : World} (A : Nat → Nat → Act) (F : Nat → Nat → World → Prop) (hA : c.wp P (atEnd (CutNN A F)) a w)
    (hB : ∀ (b0 : Nat) (b1 : Nat) w', F b0 b1 w' → Q .normal (A b0 b1) w') : c.wp P Q a w :=
  wp_mono hA (atEnd_out fun a' w' ⟨b0, b1, ha, h⟩ => by subst ha; exact hB b0 b1 w' h)
def CutNNN (A : Nat → Nat → Nat → Act) (F : Nat → Nat → Nat → World → Prop) (a' : Act) (w' : World) : Prop := ∃ (b0 : Nat) (b1 : Nat) (b2 : Nat), a' = A b0 b1 b2 ∧ F b0 b1 b2 w'
theorem CutNNN.mk {A : Nat → Nat → Nat → Act} {F : Nat → Nat → Nat → World → Prop} {a' : Act} {w' : World} (b0 : Nat) (b1 : Nat) (b2 : Nat) (ha : a' = A b0 b1 b2) (h : F b0 b1 b2 w') : atEnd (CutNNN A F) .normal a' w' := ⟨b0, b1, b2, ha, h⟩
theorem wpCutNNN {P : Program} {c : Code} {Q : Exit → Act → World → Prop} {a : Act} {w : World} (A : Nat → Nat → Nat → Act) (F : Nat → Nat → Nat → World → Prop) (hA : c.wp P (atEnd (CutNNN A F)) a w)
    (hB : ∀ (b0 : Nat) (b1 : Nat) (b2 : Nat) w', F b0 b1 b2 w' → Q .normal (A b0 b1 b2) w') : c.wp P Q a w :=
  wp_mono hA (atEnd_out fun a' w' ⟨b0, b1, b2, ha, h⟩ => by subst ha; exact hB b0 b1 b2 w' h)
def CutNNNN (A : Nat → Nat → Nat → Nat → Act) (F : Nat → Nat → Nat → Nat → World → Prop) (a' : Act) (w' : World) : Prop := ∃ (b0 : Nat) (b1 : Nat) (b2 : Nat) (b3 : Nat), a' = A b0 b1 b2 b3 ∧ F b0 b1 b2 b3 w'
theorem CutNNNN.mk {A : Nat → Nat → Nat → Nat → Act} {F : Nat → Nat → Nat → Nat → World → Prop} {a' : Act} {w' : World} (b0 : Nat) (b1 : Nat) (b2 : Nat) (b3 : Nat) (ha : a' = A b0 b1 b2 b3) (h : F b0 b1 b2 b3 w') : atEnd (CutNNNN A F) .normal a' w' := ⟨b0, b1, b2, b3, ha, h⟩
theorem wpCutNNNN {P : Program} {c : Code} {Q : Exit → Act → World → Prop} {a : Act} {w : World} (A : Nat → Nat → Nat → Nat → Act) (F : Nat → Nat → Nat → Nat → World → Prop) (hA : c.wp P (atEnd (CutNNNN A F)) a w)
    (hB : ∀ (b0 : Nat) (b1 : Nat) (b2 : Nat) (b3 : Nat) w', F b0 b1 b2 b3 w' → Q .normal (A b0 b1 b2 b3) w') : c.wp P Q a w :=
  wp_mono hA (atEnd_out fun a' w' ⟨b0, b1, b2, b3, ha, h⟩ => by subst ha; exact hB b0 b1 b2 b3 w' h)
def CutNNNNN (A : Nat → Nat → Nat → Nat → Nat → Act) (F : Nat → Nat → Nat → Nat → Nat → World → Prop) (a' : Act) (w' : World) : Prop := ∃ (b0 : Nat) (b1 : Nat) (b2 : Nat) (b3 : Nat) (b4 : Nat), a' = A b0 b1 b2 b3 b4 ∧ F b0 b1 b2 b3 b4 w'
theorem CutNNNNN.mk {A : Nat → Nat → Nat → Nat → Nat → Act} {F : Nat → Nat → Nat → Nat → Nat → World → Prop} {a' : Act} {w' : World} (b0 : Nat) (b1 : Nat) (b2 : Nat) (b3 : Nat) (b4 : Nat) (ha : a' = A b0 b1 b2 b3 b4) (h : F b0 b1 b2 b3 b4 w') : atEnd (CutNNNNN A F) .normal a' w' := ⟨b0, b1, b2, b3, b4, ha, h⟩
theorem wpCutNNNNN {P : Program} {c : Code} {Q : Exit → Act → World → Prop} {a : Act} {w : World} (A : Nat → Nat → Nat → Nat → Nat → Act) (F : Nat → Nat → Nat → Nat → Nat → World → Prop) (hA : c.wp P (atEnd (CutNNNNN A F)) a w)
    (hB : ∀ (b0 : Nat) (b1 : Nat) (b2 : Nat) (b3 : Nat) (b4 : Nat) w', F b0 b1 b2 b3 b4 w' → Q .normal (A b0 b1 b2 b3 b4) w') : c.wp P Q a w :=
  wp_mono hA (atEnd_out fun a' w' ⟨b0, b1, b2, b3, b4, ha, h⟩ => by subst ha; exact hB b0 b1 b2 b3 b4 w' h)

end Go.Proofs.Ytjelmbkngjlefaa
