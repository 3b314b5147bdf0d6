/- The law's own helpers on great numbers with a sign, each by its contract. -/
import Derived.Test.YtnojigofojjopaaDoorWholeR
import Derived.Test.YtnojigofojjopaaDoorBase
import Derived.Laws.ResultCell
namespace Go.Proofs.YtnojigofojjopaaDoor
open Go.RowKit

/-- The block in which the limbs lie. -/
def blkW : Value → List Nat
  | .agg #[_, s] => blkI s
  | _ => []

theorem results_cell1 {fn : Func} {p : Tmp} {ty : TypeId} (h : fn.results = #[.cell p ty]) (tmps : Array Value) (P : Program) (w : World) :
    (results fn tmps).run P w = ((asAddr (tmps.getD p undef)).run P w).andThen fun a w₁ => (loadVar ty a).run P w₁ := by
  simp only [results, h]
  simp [Sem.run_bind, Result.andThen]
theorem cell_made {W : World} {B : Nat} (h : W.heap.size = B) (a b : Value) (t : TypeId) : (W.alloc (.cells #[a, b] t)).cell? ⟨B, 0, none⟩ = some a ∧ (W.alloc (.cells #[a, b] t)).cell? ⟨B, 1, none⟩ = some b ∧ (W.alloc (.cells #[a, b] t)).frozen? ⟨B, 0, none⟩ = false ∧ (W.alloc (.cells #[a, b] t)).frozen? ⟨B, 1, none⟩ = false := by
  subst h
  refine ⟨by simp, by simp, by simp, by simp⟩
theorem ownsRow_mono {w : World} {base base' n : Nat} {e : TypeId} {size : Nat} {v : Value} {xs : List Value} (h : w.ownsRow base e size v n xs) (hb : base' ≤ base) : w.ownsRow base' e size v n xs := by
  obtain ⟨h1, h2⟩ := h
  refine ⟨h1, ?_⟩
  rcases h2 with h | ⟨g, cap, cur, e1, e2, rest⟩
  · exact .inl h
  · exact .inr ⟨g, cap, cur, e1, Nat.le_trans hb e2, rest⟩
theorem below3 (w : World) (o1 o2 o3 : Obj) : Below w.heap.size w (((w.alloc o1).alloc o2).alloc o3) :=
  (((Below.refl w.heap.size w).alloc (Nat.le_refl _) o1).alloc (by simp) o2).alloc (by simp; omega) o3
theorem below2 (w : World) (o1 o2 : Obj) : Below w.heap.size w ((w.alloc o1).alloc o2) :=
  ((Below.refl w.heap.size w).alloc (Nat.le_refl _) o1).alloc (by simp) o2
theorem below1 (w : World) (o1 : Obj) : Below w.heap.size w (w.alloc o1) := (Below.refl w.heap.size w).alloc (Nat.le_refl _) o1

set_option maxHeartbeats 1600000 in
theorem toW (n : Bool) (a0 : Option Addr) (n0 c0 : Nat) (zs0 : List Int) (w : World) (h0 : n0 ≤ 1048576) (hr : IsRow .i64 w a0 n0 c0 zs0) :
    Calls Tryd.prog 12 #[.agg #[.bool n, .slice a0 n0 c0]] w fun e w' => ∃ v, e = .returned v ∧ ownsW w' w.heap.size v (n, zs0.take n0) ∧ Below w.heap.size w w' := by
  have T0 : ∀ W : World, IsRow .i64 W a0 n0 c0 zs0 → Calls Tryd.prog 7 #[.slice a0 n0 c0] W fun e w' => ∃ v, e = .returned v ∧ ownsI w' W.heap.size v (zs0.take n0) ∧ Below W.heap.size W w' := fun W h => toI a0 n0 c0 zs0 W (by omega) h
  go_enter Tryd.func12, Tryd.ntmps12
  go_wp2_with fail
  refine (T0 _ (hr.below (below3 w _ _ _))).mono ?_
  rintro e w4 ⟨v4, rfl, o4, b4⟩
  have CM := cell_made (W := (w.alloc (.cells #[.bool n, .slice a0 n0 c0] 28)).alloc (.cells #[.bool false, .slice none 0 0] 31)) (B := w.heap.size + 1 + 1) (by simp) (.bool n) (.slice none 0 0) 31
  have hc0 : w4.cell? ⟨w.heap.size + 1 + 1, 0, none⟩ = some (.bool n) := (b4.cell (p := ⟨w.heap.size + 1 + 1, 0, none⟩) (by show w.heap.size + 1 + 1 < _; simp)).trans CM.1
  have hc1 : w4.cell? ⟨w.heap.size + 1 + 1, 1, none⟩ = some (.slice none 0 0) := (b4.cell (p := ⟨w.heap.size + 1 + 1, 1, none⟩) (by show w.heap.size + 1 + 1 < _; simp)).trans CM.2.1
  have hf1 : w4.frozen? ⟨w.heap.size + 1 + 1, 1, none⟩ = false := (b4.frozen (p := ⟨w.heap.size + 1 + 1, 1, none⟩) (by show w.heap.size + 1 + 1 < _; simp)).trans CM.2.2.2
  have CN := cell_made (W := w.alloc (.cells #[.bool n, .slice a0 n0 c0] 28)) (B := w.heap.size + 1) (by simp) (.bool false) (.slice none 0 0) 31
  have hB3 := below1 ((w.alloc (.cells #[.bool n, .slice a0 n0 c0] 28)).alloc (.cells #[.bool false, .slice none 0 0] 31)) (.cells #[.bool n, .slice none 0 0] 31)
  have hd0 : w4.cell? ⟨w.heap.size + 1, 0, none⟩ = some (.bool false) := (b4.cell (p := ⟨w.heap.size + 1, 0, none⟩) (by show w.heap.size + 1 < _; simp)).trans ((hB3.cell (p := ⟨w.heap.size + 1, 0, none⟩) (by show w.heap.size + 1 < _; simp)).trans CN.1)
  have hd1 : w4.cell? ⟨w.heap.size + 1, 1, none⟩ = some (.slice none 0 0) := (b4.cell (p := ⟨w.heap.size + 1, 1, none⟩) (by show w.heap.size + 1 < _; simp)).trans ((hB3.cell (p := ⟨w.heap.size + 1, 1, none⟩) (by show w.heap.size + 1 < _; simp)).trans CN.2.1)
  have hg0 : w4.frozen? ⟨w.heap.size + 1, 0, none⟩ = false := (b4.frozen (p := ⟨w.heap.size + 1, 0, none⟩) (by show w.heap.size + 1 < _; simp)).trans ((hB3.frozen (p := ⟨w.heap.size + 1, 0, none⟩) (by show w.heap.size + 1 < _; simp)).trans CN.2.2.1)
  have hg1 : w4.frozen? ⟨w.heap.size + 1, 1, none⟩ = false := (b4.frozen (p := ⟨w.heap.size + 1, 1, none⟩) (by show w.heap.size + 1 < _; simp)).trans ((hB3.frozen (p := ⟨w.heap.size + 1, 1, none⟩) (by show w.heap.size + 1 < _; simp)).trans CN.2.2.2)
  obtain ⟨a4, c4, rfl, -⟩ := o4.row
  clear CM CN hB3
  have B4 := (below3 w (.cells #[.bool n, .slice a0 n0 c0] 28) (.cells #[.bool false, .slice none 0 0] 31) (.cells #[.bool n, .slice none 0 0] 31)).trans (b4.mono (by simp; omega))
  have HB : Hid (Below w.heap.size w w4) := B4
  have HO : Hid (ownsI w4 _ _ _) := o4
  clear T0 hr b4 B4 o4
  go_wp2
  (try simp only [Exit.inBlock, Exit.then])
  refine bodyPost_ret (v := .agg #[.bool n, .slice a4 (min n0 zs0.length) c4]) ?_ rfl ⟨_, rfl, ⟨_, rfl, ?_⟩, ?_⟩
  · rw [results_cell1 rfl]
    go_simp
  · have o5 := ownsRow_setCell_below (a := ⟨w.heap.size + 1 + 1, 1, none⟩) HO.out (by simp) (.slice a4 (min n0 zs0.length) c4)
    have o6 := ownsRow_setCell_below (a := ⟨w.heap.size + 1, 0, none⟩) o5 (by simp) (.bool n)
    have o7 := ownsRow_setCell_below (a := ⟨w.heap.size + 1, 1, none⟩) o6 (by simp) (.slice a4 (min n0 zs0.length) c4)
    rw [List.length_take] at o7
    unfold ownsI
    rw [List.length_take]
    exact ownsRow_mono o7 (by simp; omega)
  · exact ((HB.out.setCell (p := ⟨w.heap.size + 1 + 1, 1, none⟩) (by show w.heap.size ≤ w.heap.size + 1 + 1; omega) _).setCell (p := ⟨w.heap.size + 1, 0, none⟩) (by show w.heap.size ≤ w.heap.size + 1; omega) _).setCell (p := ⟨w.heap.size + 1, 1, none⟩) (by show w.heap.size ≤ w.heap.size + 1; omega) _

set_option maxHeartbeats 1600000 in
theorem szW_yes (n : Bool) (a0 : Option Addr) (n0 c0 : Nat) (left : Int) (w : World) (h1 : left ≤ 1048576) (h : (n0 : Int) ≤ left) :
    Calls Tryd.prog 10 #[.agg #[.bool n, .slice a0 n0 c0], .int .i64 left] w fun e w' => e = .returned (.int .i64 (left - n0)) ∧ Below w.heap.size w w' := by
  have h' : ¬ (left - (n0 : Int) < 0) := by omega
  go_enter Tryd.func10, Tryd.ntmps10
  go_wp2
  go_ret
  exact ⟨rfl, below1 _ _⟩

set_option maxHeartbeats 1600000 in
theorem szW_no (n : Bool) (a0 : Option Addr) (n0 c0 : Nat) (left : Int) (w : World) (h0 : 0 ≤ left) (h1 : left ≤ 1048576) (hn : n0 ≤ 9223372036854775807) (h : left < (n0 : Int)) :
    Calls Tryd.prog 10 #[.agg #[.bool n, .slice a0 n0 c0], .int .i64 left] w fun e w' => e = .returned (.int .i64 (-1)) ∧ Below w.heap.size w w' := by
  have h' : left - (n0 : Int) < 0 := by omega
  go_enter Tryd.func10, Tryd.ntmps10
  go_wp2
  go_ret
  exact ⟨rfl, below1 _ _⟩

set_option maxHeartbeats 1600000 in
theorem eqW' (b1 b2 : Nat) (va vb : Value) (a : Wh) (w : World) (hm : a.2.length ≤ 1048576) (h1 : ownsW w b1 va a) (h2 : ownsW w b2 vb a) :
    Calls Tryd.prog 14 #[va, vb] w fun e w' => e = .returned (.bool true) ∧ Below w.heap.size w w' := by
  obtain ⟨s1, rfl, o1⟩ := h1
  obtain ⟨s2, rfl, o2⟩ := h2
  obtain ⟨n, xs⟩ := a
  have K := fun W (h : Below w.heap.size w W) => eqI' b1 b2 s1 s2 xs W (by show xs.length ≤ _; have : xs.length ≤ 1048576 := hm; omega) (o1.below h (Nat.le_refl _)) (o2.below h (Nat.le_refl _))
  have ebb : (n != n) = false := by simp
  clear o1 o2
  go_enter Tryd.func14, Tryd.ntmps14
  go_wp2_with fail
  refine (K _ (below2 w _ _)).mono ?_
  rintro e w3 ⟨rfl, b3⟩
  have B3 := (below2 w (.cells #[.bool n, s1] 31) (.cells #[.bool n, s2] 31)).trans (b3.mono (by simp; omega))
  go_wp2
  go_ret
  exact ⟨rfl, B3⟩

theorem grown_alloc1 (w : World) (o : Obj) (row : Option Nat) : w.grownBy (w.alloc o) row :=
  ⟨rfl, rfl, rfl, by simp, fun k hk _ => Below.heap_alloc w o k hk⟩

theorem ownsW.ltb {w : World} {base : Nat} {v : Value} {a : Wh} (h : ownsW w base v a) : ∀ k ∈ blkW v, base ≤ k ∧ k < w.heap.size := by
  obtain ⟨s, rfl, h⟩ := h
  exact h.ltb
theorem ownsW.tn {w w' : World} {base : Nat} {v : Value} {a : Wh} {S : List Nat} (h : ownsW w base v a) (ht : Tn S w w') (ha : Apart (blkW v) S) : ownsW w' base v a := by
  obtain ⟨s, rfl, h⟩ := h
  exact ⟨s, rfl, h.tn ht ha⟩

/-- The box of a variable of two cells. -/
structure BoxW (w : World) (base b : Nat) (x y : Value) : Prop where
  lo : base ≤ b
  hi : b < w.heap.size
  c0 : w.cell? ⟨b, 0, none⟩ = some x
  c1 : w.cell? ⟨b, 1, none⟩ = some y
  f0 : w.frozen? ⟨b, 0, none⟩ = false
  f1 : w.frozen? ⟨b, 1, none⟩ = false
theorem BoxW.made (w : World) (x y : Value) (t : TypeId) : BoxW (w.alloc (.cells #[x, y] t)) w.heap.size w.heap.size x y :=
  ⟨Nat.le_refl _, by simp, by simp, by simp, by simp, by simp⟩
theorem BoxW.below {w w' : World} {base b B : Nat} {x y : Value} (h : BoxW w base b x y) (hb : Below B w w') (hB : w.heap.size ≤ B) : BoxW w' base b x y :=
  have hlt : b < B := Nat.lt_of_lt_of_le h.hi hB
  ⟨h.lo, Nat.lt_of_lt_of_le h.hi hb.size, (hb.cell (p := ⟨b, 0, none⟩) hlt).trans h.c0, (hb.cell (p := ⟨b, 1, none⟩) hlt).trans h.c1, (hb.frozen (p := ⟨b, 0, none⟩) hlt).trans h.f0, (hb.frozen (p := ⟨b, 1, none⟩) hlt).trans h.f1⟩
theorem BoxW.ltb {w : World} {base b : Nat} {x y : Value} (h : BoxW w base b x y) : ∀ k ∈ [b], base ≤ k ∧ k < w.heap.size := fun k hk => by
  simp at hk
  subst hk
  exact ⟨h.lo, h.hi⟩
theorem BoxW.tn {w w' : World} {base b : Nat} {x y : Value} {S : List Nat} (h : BoxW w base b x y) (ht : Tn S w w') (ha : Apart [b] S) : BoxW w' base b x y := by
  have hk := ht.block b h.hi (ha b (by simp))
  exact ⟨h.lo, Nat.lt_of_lt_of_le h.hi ht.size, (World.cell?_of_block (w := w) (a := ⟨b, 0, none⟩) hk).trans h.c0, (World.cell?_of_block (w := w) (a := ⟨b, 1, none⟩) hk).trans h.c1, (World.frozen?_of_block (w := w) (a := ⟨b, 0, none⟩) hk).trans h.f0, (World.frozen?_of_block (w := w) (a := ⟨b, 1, none⟩) hk).trans h.f1⟩

end Go.Proofs.YtnojigofojjopaaDoor
