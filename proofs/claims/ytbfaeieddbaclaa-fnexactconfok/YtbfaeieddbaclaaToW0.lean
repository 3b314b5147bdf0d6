/- The law's own helpers on great numbers with a sign, each by its contract. -/
import Derived.Test.YtbfaeieddbaclaaWholeR
import Derived.Test.YtbfaeieddbaclaaTn0
import Derived.Test.YtbfaeieddbaclaaToI
import Derived.Laws.ResultCell
namespace Go.Proofs.Ytbfaeieddbaclaa
open Go.RowKit

/-- The block in which the limbs lie. -/
def blkW : Value → List Nat
  | .agg #[_, s] => blkI s
  | _ => []

theorem results_cell1 {fn : Func} {p : Tmp} {ty : TypeId} (h : fn.results = #[.cell p ty]) (tmps : Array Value) (P : Program) (w : World) :
    (results fn tmps).run P w = ((asAddr (tmps.getD p undef)).run P w).andThen fun a w₁ => (loadVar ty a).run P w₁ := by
  simp only [results, h]
  simp [Sem.run_bind, Result.andThen]
theorem cell_made {W : World} {B : Nat} (h : W.heap.size = B) (a b : Value) (t : TypeId) : (W.alloc (.cells #[a, b] t)).cell? ⟨B, 0, none⟩ = some a ∧ (W.alloc (.cells #[a, b] t)).cell? ⟨B, 1, none⟩ = some b ∧ (W.alloc (.cells #[a, b] t)).frozen? ⟨B, 0, none⟩ = false ∧ (W.alloc (.cells #[a, b] t)).frozen? ⟨B, 1, none⟩ = false := by
  subst h
  refine ⟨by simp, by simp, by simp, by simp⟩
theorem ownsRow_mono {w : World} {base base' n : Nat} {e : TypeId} {size : Nat} {v : Value} {xs : List Value} (h : w.ownsRow base e size v n xs) (hb : base' ≤ base) : w.ownsRow base' e size v n xs := by
  obtain ⟨h1, h2⟩ := h
  refine ⟨h1, ?_⟩
  rcases h2 with h | ⟨g, cap, cur, e1, e2, rest⟩
  · exact .inl h
  · exact .inr ⟨g, cap, cur, e1, Nat.le_trans hb e2, rest⟩
theorem below3 (w : World) (o1 o2 o3 : Obj) : Below w.heap.size w (((w.alloc o1).alloc o2).alloc o3) :=
  (((Below.refl w.heap.size w).alloc (Nat.le_refl _) o1).alloc (by simp) o2).alloc (by simp; omega) o3
theorem below2 (w : World) (o1 o2 : Obj) : Below w.heap.size w ((w.alloc o1).alloc o2) :=
  ((Below.refl w.heap.size w).alloc (Nat.le_refl _) o1).alloc (by simp) o2
theorem below1 (w : World) (o1 : Obj) : Below w.heap.size w (w.alloc o1) := (Below.refl w.heap.size w).alloc (Nat.le_refl _) o1

theorem grown_alloc1 (w : World) (o : Obj) (row : Option Nat) : w.grownBy (w.alloc o) row :=
  ⟨rfl, rfl, rfl, by simp, fun k hk _ => Below.heap_alloc w o k hk⟩

theorem ownsW.ltb {w : World} {base : Nat} {v : Value} {a : Wh} (h : ownsW w base v a) : ∀ k ∈ blkW v, base ≤ k ∧ k < w.heap.size := by
  obtain ⟨s, rfl, h⟩ := h
  exact h.ltb
theorem ownsW.tn {w w' : World} {base : Nat} {v : Value} {a : Wh} {S : List Nat} (h : ownsW w base v a) (ht : Tn S w w') (ha : Apart (blkW v) S) : ownsW w' base v a := by
  obtain ⟨s, rfl, h⟩ := h
  exact ⟨s, rfl, h.tn ht ha⟩

/-- The box of a variable of two cells. -/
structure BoxW (w : World) (base b : Nat) (x y : Value) : Prop where
  lo : base ≤ b
  hi : b < w.heap.size
  c0 : w.cell? ⟨b, 0, none⟩ = some x
  c1 : w.cell? ⟨b, 1, none⟩ = some y
  f0 : w.frozen? ⟨b, 0, none⟩ = false
  f1 : w.frozen? ⟨b, 1, none⟩ = false
theorem BoxW.made (w : World) (x y : Value) (t : TypeId) : BoxW (w.alloc (.cells #[x, y] t)) w.heap.size w.heap.size x y :=
  ⟨Nat.le_refl _, by simp, by simp, by simp, by simp, by simp⟩
theorem BoxW.below {w w' : World} {base b B : Nat} {x y : Value} (h : BoxW w base b x y) (hb : Below B w w') (hB : w.heap.size ≤ B) : BoxW w' base b x y :=
  have hlt : b < B := Nat.lt_of_lt_of_le h.hi hB
  ⟨h.lo, Nat.lt_of_lt_of_le h.hi hb.size, (hb.cell (p := ⟨b, 0, none⟩) hlt).trans h.c0, (hb.cell (p := ⟨b, 1, none⟩) hlt).trans h.c1, (hb.frozen (p := ⟨b, 0, none⟩) hlt).trans h.f0, (hb.frozen (p := ⟨b, 1, none⟩) hlt).trans h.f1⟩
theorem BoxW.ltb {w : World} {base b : Nat} {x y : Value} (h : BoxW w base b x y) : ∀ k ∈ [b], base ≤ k ∧ k < w.heap.size := fun k hk => by
  simp at hk
  subst hk
  exact ⟨h.lo, h.hi⟩
theorem BoxW.tn {w w' : World} {base b : Nat} {x y : Value} {S : List Nat} (h : BoxW w base b x y) (ht : Tn S w w') (ha : Apart [b] S) : BoxW w' base b x y := by
  have hk := ht.block b h.hi (ha b (by simp))
  exact ⟨h.lo, Nat.lt_of_lt_of_le h.hi ht.size, (World.cell?_of_block (w := w) (a := ⟨b, 0, none⟩) hk).trans h.c0, (World.cell?_of_block (w := w) (a := ⟨b, 1, none⟩) hk).trans h.c1, (World.frozen?_of_block (w := w) (a := ⟨b, 0, none⟩) hk).trans h.f0, (World.frozen?_of_block (w := w) (a := ⟨b, 1, none⟩) hk).trans h.f1⟩

end Go.Proofs.Ytbfaeieddbaclaa
