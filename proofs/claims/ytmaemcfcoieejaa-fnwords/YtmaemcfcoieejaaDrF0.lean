/- What the draws of formats need: a literal row's cells, what has grown, the box of a format. -/
import Derived.Test.YtmaemcfcoieejaaPick
import Derived.Test.YtmaemcfcoieejaaTn0
namespace Go.Proofs.Ytmaemcfcoieejaa
open Go.RowKit

theorem lit_cells (w : World) (xs : List Int) (t : TypeId) : ∀ j, j < xs.length → (w.alloc (.cells (xs.map (Value.int .i64)).toArray t)).cell? ⟨w.heap.size, j, none⟩ = some (.int .i64 (xs.getD j 0)) := by
  intro j hj
  rw [cell_of_row _ _ j _ t (0, 0) (heap_alloc_new w _)]
  simp [List.getElem?_eq_getElem hj]
theorem grown_of {w w' : World} (h : Below w.heap.size w w') (row : Option Nat) : w.grownBy w' row := ⟨h.os, h.tape, h.output, h.size, fun k hk _ => h.block k hk⟩
theorem grown_then {a w w' : World} {row : Option Nat} (h : a.grownBy w row) (k : Below a.heap.size w w') : a.grownBy w' row :=
  ⟨k.os.trans h.os, k.tape.trans h.tape, k.output.trans h.output, Nat.le_trans h.size k.size, fun i hi hr => (k.block i hi).trans (h.block i hi hr)⟩
theorem grown_alloc {a w : World} {row : Option Nat} (h : a.grownBy w row) (o : Obj) : a.grownBy (w.alloc o) row :=
  grown_trans h (grown_of ((Below.refl _ _).alloc (Nat.le_refl _) o) row)
theorem CurAt.alloc {w : World} {B : Nat} (h : CurAt w B) (o : Obj) : CurAt (w.alloc o) B := h.below ((Below.refl w.heap.size w).alloc (Nat.le_refl _) o) h.lt
theorem below_cur {a w w' : World} {B b : Nat} (h : Below b a w) (hg : w.grownBy w' (some B)) (hb : b ≤ B) (hs : b ≤ w.heap.size) : Below b a w' := h.grown hg hs (fun k hk => by cases hk; exact hb)
theorem CurAt.set {w : World} {B : Nat} (h : CurAt w B) (b j : Nat) (hb : B < b) (x : Value) : CurAt (w.setCell ⟨b, j, none⟩ x) B := h.below ((Below.refl b w).setCell (p := ⟨b, j, none⟩) (Nat.le_refl _) x) hb
theorem grown_put {a w : World} {row : Option Nat} (h : a.grownBy w row) (b j : Nat) (hb : a.heap.size ≤ b) (x : Value) : a.grownBy (w.setCell ⟨b, j, none⟩ x) row := grown_then h ((Below.refl a.heap.size w).setCell (p := ⟨b, j, none⟩) hb x)

set_option maxHeartbeats 1600000 in
theorem drOnce (B : Nat) (n : Int) (w : World) (hc : CurAt w B) (hn : n ≤ 4294967296) :
    Calls Try.prog 33 #[.pointer (some ⟨B, 0, none⟩), .int .i64 n] w fun e w' => ∃ b : Bool, e = .returned (.bool b) ∧ CurAt w' B ∧ w.grownBy w' (some B) := by
  go_enter Try.func33, Try.ntmps33
  go_wp2_with fail
  refine (curBelow B n w hc hn).mono ?_
  rintro e w1 ⟨x, rfl, x0, -, -, c1, g1⟩
  go_wp2
  go_ret
  exact ⟨_, rfl, c1, g1⟩

/-- Whether a value is a whole number. -/
def isI : Value → Bool
  | .int .i64 _ => true
  | _ => false
def intI : Value → Int
  | .int .i64 x => x
  | _ => 0
theorem isI_eq {v : Value} (h : isI v = true) : v = .int .i64 (intI v) := by
  unfold isI at h
  split at h
  · rfl
  · cases h
/-- l1PickInt of a row of whichever numbers. -/
theorem pickAny (B g n c : Nat) (cs : Array Value) (t : TypeId) (w : World) (hc : CurAt w B) (hg : g ≠ B) (hh : w.heap[g]? = some (.cells cs t (0, 0))) (hn : cs.size = n) (ha : cs.toList.all isI = true) (h0 : 0 < n) (h1 : n ≤ 4096) :
    Calls Try.prog 32 #[.pointer (some ⟨B, 0, none⟩), .slice (some ⟨g, 0, none⟩) n c] w fun e w' => ∃ x, e = .returned (.int .i64 x) ∧ CurAt w' B ∧ w.grownBy w' (some B) := by
  refine (pickInt B g n c (cs.toList.map intI) w hc (by simp [hn]) h0 h1 hg ?_).mono ?_
  · intro j hj
    have hj' : j < cs.size := by omega
    rw [cell_of_row w g j cs t (0, 0) hh, Array.getElem?_eq_getElem hj']
    have hm : cs[j] ∈ cs.toList := by simp
    have := isI_eq (List.all_eq_true.1 ha _ hm)
    rw [List.getD_eq_getElem?_getD, List.getElem?_map]
    have e : cs.toList[j]? = some cs[j] := by simp [hj']
    rw [e]
    simp
    exact this
  · rintro e w' ⟨x, hx, -, hc', hg'⟩
    exact ⟨x, hx, hc', hg'⟩

/-- The box of a variable of 3 cells. -/
structure Bx3 (w : World) (base b : Nat) (x0 x1 x2 : Value) : Prop where
  lo : base ≤ b
  hi : b < w.heap.size
  c0 : w.cell? ⟨b, 0, none⟩ = some x0
  c1 : w.cell? ⟨b, 1, none⟩ = some x1
  c2 : w.cell? ⟨b, 2, none⟩ = some x2
  f0 : w.frozen? ⟨b, 0, none⟩ = false
  f1 : w.frozen? ⟨b, 1, none⟩ = false
  f2 : w.frozen? ⟨b, 2, none⟩ = false
theorem Bx3.made (w : World) (x0 x1 x2 : Value) (t : TypeId) : Bx3 (w.alloc (.cells #[x0, x1, x2] t)) w.heap.size w.heap.size x0 x1 x2 :=
  ⟨Nat.le_refl _, by simp, by simp, by simp, by simp, by simp, by simp, by simp⟩
theorem Bx3.below {w w' : World} {base b B : Nat} {x0 x1 x2 : Value} (h : Bx3 w base b x0 x1 x2) (hb : Below B w w') (hB : w.heap.size ≤ B) : Bx3 w' base b x0 x1 x2 :=
  have hlt : b < B := Nat.lt_of_lt_of_le h.hi hB
  ⟨h.lo, Nat.lt_of_lt_of_le h.hi hb.size, (hb.cell (p := ⟨b, 0, none⟩) hlt).trans h.c0, (hb.cell (p := ⟨b, 1, none⟩) hlt).trans h.c1, (hb.cell (p := ⟨b, 2, none⟩) hlt).trans h.c2, (hb.frozen (p := ⟨b, 0, none⟩) hlt).trans h.f0, (hb.frozen (p := ⟨b, 1, none⟩) hlt).trans h.f1, (hb.frozen (p := ⟨b, 2, none⟩) hlt).trans h.f2⟩
theorem Bx3.mono {w : World} {base base' b : Nat} {x0 x1 x2 : Value} (h : Bx3 w base b x0 x1 x2) (hb : base' ≤ base) : Bx3 w base' b x0 x1 x2 :=
  ⟨Nat.le_trans hb h.lo, h.hi, h.c0, h.c1, h.c2, h.f0, h.f1, h.f2⟩
theorem Bx3.ltb {w : World} {base b : Nat} {x0 x1 x2 : Value} (h : Bx3 w base b x0 x1 x2) : ∀ k ∈ [b], base ≤ k ∧ k < w.heap.size := fun k hk => by
  simp at hk
  subst hk
  exact ⟨h.lo, h.hi⟩
theorem Bx3.tn {w w' : World} {base b : Nat} {x0 x1 x2 : Value} {S : List Nat} (h : Bx3 w base b x0 x1 x2) (ht : Tn S w w') (ha : Apart [b] S) : Bx3 w' base b x0 x1 x2 := by
  have hk := ht.block b h.hi (ha b (by simp))
  have hc := fun i => World.cell?_of_block (w := w) (w' := w') (a := ⟨b, i, none⟩) hk
  have hf := fun i => World.frozen?_of_block (w := w) (w' := w') (a := ⟨b, i, none⟩) hk
  exact ⟨h.lo, Nat.lt_of_lt_of_le h.hi ht.size, (hc 0).trans h.c0, (hc 1).trans h.c1, (hc 2).trans h.c2, (hf 0).trans h.f0, (hf 1).trans h.f1, (hf 2).trans h.f2⟩
theorem Bx3.set0 {w : World} {base b : Nat} {x0 x1 x2 : Value} (h : Bx3 w base b x0 x1 x2) (x : Value) : Bx3 (w.setCell ⟨b, 0, none⟩ x) base b x x1 x2 :=
  have c0 := h.c0; have c1 := h.c1; have c2 := h.c2; have f0 := h.f0; have f1 := h.f1; have f2 := h.f2
  ⟨h.lo, by have := h.hi; simpa [World.setCell] using this, World.cell?_setCell_same _ _ _ c0, (World.cell?_setCell_other _ _ _ _ (by simp)).trans c1, (World.cell?_setCell_other _ _ _ _ (by simp)).trans c2, by simp [*], by simp [*], by simp [*]⟩
theorem Bx3.set1 {w : World} {base b : Nat} {x0 x1 x2 : Value} (h : Bx3 w base b x0 x1 x2) (x : Value) : Bx3 (w.setCell ⟨b, 1, none⟩ x) base b x0 x x2 :=
  have c0 := h.c0; have c1 := h.c1; have c2 := h.c2; have f0 := h.f0; have f1 := h.f1; have f2 := h.f2
  ⟨h.lo, by have := h.hi; simpa [World.setCell] using this, (World.cell?_setCell_other _ _ _ _ (by simp)).trans c0, World.cell?_setCell_same _ _ _ c1, (World.cell?_setCell_other _ _ _ _ (by simp)).trans c2, by simp [*], by simp [*], by simp [*]⟩
theorem Bx3.set2 {w : World} {base b : Nat} {x0 x1 x2 : Value} (h : Bx3 w base b x0 x1 x2) (x : Value) : Bx3 (w.setCell ⟨b, 2, none⟩ x) base b x0 x1 x :=
  have c0 := h.c0; have c1 := h.c1; have c2 := h.c2; have f0 := h.f0; have f1 := h.f1; have f2 := h.f2
  ⟨h.lo, by have := h.hi; simpa [World.setCell] using this, (World.cell?_setCell_other _ _ _ _ (by simp)).trans c0, (World.cell?_setCell_other _ _ _ _ (by simp)).trans c1, World.cell?_setCell_same _ _ _ c2, by simp [*], by simp [*], by simp [*]⟩
theorem Bx3.cur {w w' : World} {base b B : Nat} {x0 x1 x2 : Value} (h : Bx3 w base b x0 x1 x2) (hg : w.grownBy w' (some B)) (hne : B ≠ b) : Bx3 w' base b x0 x1 x2 :=
  h.tn (Tn.of_grown hg) (fun k hk hs => by simp at hk hs; omega)
theorem Bx3.alloc {w : World} {base b : Nat} {x0 x1 x2 : Value} (h : Bx3 w base b x0 x1 x2) (o : Obj) : Bx3 (w.alloc o) base b x0 x1 x2 := h.below ((Below.refl w.heap.size w).alloc (Nat.le_refl _) o) (Nat.le_refl _)
theorem Bx3.drew {w : World} {base b : Nat} {x0 x1 x2 : Value} (h : Bx3 w base b x0 x1 x2) : Bx3 w.drew base b x0 x1 x2 := h.below ((Below.refl w.heap.size w).drew) (Nat.le_refl _)
theorem CurAt.drew {w : World} {B : Nat} (h : CurAt w B) : CurAt w.drew B := h.below ((Below.refl w.heap.size w).drew) h.lt
theorem grown_drew {a w : World} {row : Option Nat} (h : a.grownBy w row) : a.grownBy w.drew row := grown_then h ((Below.refl _ _).drew)

end Go.Proofs.Ytmaemcfcoieejaa
