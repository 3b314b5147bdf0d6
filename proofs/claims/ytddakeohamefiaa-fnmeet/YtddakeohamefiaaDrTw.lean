/- l10Two and DrawIvMeet, each by its contract. -/
import Derived.Test.YtddakeohamefiaaDB
import Derived.Test.YtddakeohamefiaaWB
import Derived.Test.YtddakeohamefiaaLawW
namespace Go.Proofs.Ytddakeohamefiaa
open Go.RowKit
set_option linter.unusedSimpArgs false

theorem results_cell2D {fn : Func} {p q : Tmp} {ty ty' : TypeId} (h : fn.results = #[.cell p ty, .cell q ty']) (tmps : Array Value) (P : Program) (w : World) :
    (results fn tmps).run P w = ((asAddr (tmps.getD p undef)).run P w).andThen fun a w₁ => ((loadVar ty a).run P w₁).andThen fun v w₂ => ((asAddr (tmps.getD q undef)).run P w₂).andThen fun b w₃ => ((loadVar ty' b).run P w₃).andThen fun v' w₄ => .ok (.tuple #[v, v']) w₄ := by
  simp only [results, h]
  simp [Sem.run_bind, Result.andThen]
def DrawnWKM (w : World) (e : Ending) (w' : World) : Prop := ∃ v a k m, e = .returned (.tuple #[v, .int .i64 k, .int .i64 m]) ∧ rowW w' v a ∧ a.2.length ≤ 98 ∧ -2000 ≤ k ∧ k ≤ 2000 ∧ -1 ≤ m ∧ m ≤ 5 ∧ Below w.heap.size w w'
def DrawnWK (w : World) (e : Ending) (w' : World) : Prop := ∃ v a k, e = .returned (.tuple #[v, .int .i64 k]) ∧ rowW w' v a ∧ a.2.length ≤ 98 ∧ -2000 ≤ k ∧ k ≤ 2000 ∧ Below w.heap.size w w'
def DrawnWWM (w : World) (e : Ending) (w' : World) : Prop := ∃ v u a b m, e = .returned (.tuple #[v, u, .int .i64 m]) ∧ rowW w' v a ∧ rowW w' u b ∧ a.2.length ≤ 98 ∧ b.2.length ≤ 98 ∧ -1 ≤ m ∧ m ≤ 5 ∧ Below w.heap.size w w'

/-- What a draw of two that are held hands out. -/
def DrawnVV (w : World) (e : Ending) (w' : World) : Prop := ∃ g h p r s t s' t' xs ys us vs, e = .returned (.tuple #[.agg #[.bool g, s, .bool h, t], .agg #[.bool p, s', .bool r, t']]) ∧ ownsI w' (w.heap.size + 1 + 1) s xs ∧ ownsI w' (w.heap.size + 1 + 1) t ys ∧ ownsI w' (w.heap.size + 1 + 1) s' us ∧ ownsI w' (w.heap.size + 1 + 1) t' vs ∧ xs.length ≤ 98 ∧ ys.length ≤ 98 ∧ us.length ≤ 98 ∧ vs.length ≤ 98 ∧ Below w.heap.size w w'
/-- The answers' boxes and the cursor. -/
structure Tw0 (w W : World) : Prop where
  X : BoxV W w.heap.size w.heap.size (.bool false) (.slice none 0 0) (.bool false) (.slice none 0 0)
  Y : BoxV W (w.heap.size + 1) (w.heap.size + 1) (.bool false) (.slice none 0 0) (.bool false) (.slice none 0 0)
  c : CurAt W (w.heap.size + 1 + 1)
  B : Below w.heap.size w W
theorem Tw0.bel {w W W' : World} (k : Tw0 w W) (hb : Below W.heap.size W W') : Tw0 w W' := ⟨k.X.below hb (Nat.le_refl _), k.Y.below hb (Nat.le_refl _), k.c.below hb k.c.lt, k.B.trans (hb.mono k.B.size)⟩
theorem Tw0.cur {w W W' : World} (k : Tw0 w W) (c : CurAt W' (w.heap.size + 1 + 1)) (g' : W.grownBy W' (some (w.heap.size + 1 + 1))) : Tw0 w W' :=
  ⟨k.X.tn (Tn.of_grown g') (fun k hk hs => by simp at hk hs; omega), k.Y.tn (Tn.of_grown g') (fun k hk hs => by simp at hk hs; omega), c, below_cur k.B g' (by omega) k.B.size⟩
/-- The box of a variable that is held, and its limbs. -/
structure VBox (w W : World) (b : Nat) (g h : Bool) (s t : Value) (xs ys : List Int) : Prop where
  A : BoxV W b b (.bool g) s (.bool h) t
  q1 : ownsI W (w.heap.size + 1 + 1 + 1) s xs
  q2 : ownsI W (w.heap.size + 1 + 1 + 1) t ys
theorem VBox.bel {w W W' : World} {b : Nat} {g h : Bool} {s t : Value} {xs ys : List Int} (k : VBox w W b g h s t xs ys) (hb : Below W.heap.size W W') : VBox w W' b g h s t xs ys := ⟨k.A.below hb (Nat.le_refl _), ownsI.below k.q1 hb (Nat.le_refl _), ownsI.below k.q2 hb (Nat.le_refl _)⟩
theorem VBox.cur {w W W' : World} {b : Nat} {g h : Bool} {s t : Value} {xs ys : List Int} (k : VBox w W b g h s t xs ys) (hb : w.heap.size + 1 + 1 < b) (g' : W.grownBy W' (some (w.heap.size + 1 + 1))) : VBox w W' b g h s t xs ys :=
  ⟨k.A.curD g' hb, k.q1.cur g' (by omega), k.q2.cur g' (by omega)⟩
theorem tnD4 (w : World) (b : Nat) (x0 x1 x2 x3 : Value) : Tn [b] w ((((w.setCell ⟨b, 0, none⟩ x0).setCell ⟨b, 1, none⟩ x1).setCell ⟨b, 2, none⟩ x2).setCell ⟨b, 3, none⟩ x3) :=
  ⟨rfl, rfl, rfl, by simp [World.setCell], fun k _ hn => by
    have h1 : k ≠ b := fun e => hn (by simp [e])
    rw [Below.heap_setCell _ _ _ _ h1, Below.heap_setCell _ _ _ _ h1, Below.heap_setCell _ _ _ _ h1, Below.heap_setCell _ _ _ _ h1]⟩
theorem belD4 (w W : World) (b : Nat) (hb : w.heap.size ≤ b) (h : Below w.heap.size w W) (x0 x1 x2 x3 : Value) : Below w.heap.size w ((((W.setCell ⟨b, 0, none⟩ x0).setCell ⟨b, 1, none⟩ x1).setCell ⟨b, 2, none⟩ x2).setCell ⟨b, 3, none⟩ x3) :=
  (((h.setCell (p := ⟨b, 0, none⟩) hb _).setCell (p := ⟨b, 1, none⟩) hb _).setCell (p := ⟨b, 2, none⟩) hb _).setCell (p := ⟨b, 3, none⟩) hb _
theorem ownsI.set4 {w : World} {base : Nat} {v : Value} {l : List Int} (q : ownsI w base v l) (b : Nat) (hb : b < base) (x0 x1 x2 x3 : Value) : ownsI ((((w.setCell ⟨b, 0, none⟩ x0).setCell ⟨b, 1, none⟩ x1).setCell ⟨b, 2, none⟩ x2).setCell ⟨b, 3, none⟩ x3) base v l :=
  (((q.set b 0 hb _).set b 1 hb _).set b 2 hb _).set b 3 hb _
theorem CurAt.set4 {w : World} {B : Nat} (h : CurAt w B) (b : Nat) (hb : B < b) (x0 x1 x2 x3 : Value) : CurAt ((((w.setCell ⟨b, 0, none⟩ x0).setCell ⟨b, 1, none⟩ x1).setCell ⟨b, 2, none⟩ x2).setCell ⟨b, 3, none⟩ x3) B :=
  (((h.set b 0 hb _).set b 1 hb _).set b 2 hb _).set b 3 hb _
/-- The second variable's box written anew. -/
theorem Tw0.put {w W : World} (k : Tw0 w W) (b : Nat) (hb : w.heap.size + 1 + 1 < b) (x0 x1 x2 x3 : Value) : Tw0 w ((((W.setCell ⟨b, 0, none⟩ x0).setCell ⟨b, 1, none⟩ x1).setCell ⟨b, 2, none⟩ x2).setCell ⟨b, 3, none⟩ x3) :=
  ⟨k.X.tn (tnD4 W b _ _ _ _) (fun k hk hs => by simp at hk hs; omega), k.Y.tn (tnD4 W b _ _ _ _) (fun k hk hs => by simp at hk hs; omega), k.c.set4 b hb _ _ _ _, belD4 w W b (by omega) k.B _ _ _ _⟩
theorem VBox.aside {w W : World} {b : Nat} {g h : Bool} {s t : Value} {xs ys : List Int} (k : VBox w W b g h s t xs ys) (b' : Nat) (hb : b ≠ b') (h1 : ∀ k ∈ blkI s, k ≠ b') (h2 : ∀ k ∈ blkI t, k ≠ b') (x0 x1 x2 x3 : Value) : VBox w ((((W.setCell ⟨b', 0, none⟩ x0).setCell ⟨b', 1, none⟩ x1).setCell ⟨b', 2, none⟩ x2).setCell ⟨b', 3, none⟩ x3) b g h s t xs ys :=
  ⟨k.A.tn (tnD4 W b' _ _ _ _) (fun k hk hs => by simp at hk hs; omega), k.q1.tn (tnD4 W b' _ _ _ _) (fun j hj hs => h1 j hj (by simpa using hs)), k.q2.tn (tnD4 W b' _ _ _ _) (fun j hj hs => h2 j hj (by simpa using hs))⟩
theorem VBox.anew {w W : World} {b : Nat} {g h p r : Bool} {s t s' t' : Value} {xs ys us vs : List Int} (k : VBox w W b g h s t xs ys) (hb : w.heap.size + 1 + 1 < b) (n1 : ownsI W (b + 1) s' us) (n2 : ownsI W (b + 1) t' vs) : VBox w ((((W.setCell ⟨b, 0, none⟩ (.bool p)).setCell ⟨b, 1, none⟩ s').setCell ⟨b, 2, none⟩ (.bool r)).setCell ⟨b, 3, none⟩ t') b p r s' t' us vs :=
  ⟨(((k.A.set0 _).set1 _).set2 _).set3 _, ownsI_mono (n1.set4 b (by omega) _ _ _ _) (by omega), ownsI_mono (n2.set4 b (by omega) _ _ _ _) (by omega)⟩
theorem drFinT {w W : World} {b1 b2 : Nat} {g h p r : Bool} {s t s' t' : Value} {xs ys us vs : List Int} (k : Tw0 w W) (ka : VBox w W b1 g h s t xs ys) (kd : VBox w W b2 p r s' t' us vs) (lx : xs.length ≤ 98) (ly : ys.length ≤ 98) (lu : us.length ≤ 98) (lv : vs.length ≤ 98) :
    DrawnVV w (.returned (.tuple #[.agg #[.bool g, s, .bool h, t], .agg #[.bool p, s', .bool r, t']])) ((((((((W.setCell ⟨w.heap.size, 0, none⟩ (.bool g)).setCell ⟨w.heap.size, 1, none⟩ s).setCell ⟨w.heap.size, 2, none⟩ (.bool h)).setCell ⟨w.heap.size, 3, none⟩ t).setCell ⟨w.heap.size + 1, 0, none⟩ (.bool p)).setCell ⟨w.heap.size + 1, 1, none⟩ s').setCell ⟨w.heap.size + 1, 2, none⟩ (.bool r)).setCell ⟨w.heap.size + 1, 3, none⟩ t') :=
  ⟨g, h, p, r, s, t, s', t', xs, ys, us, vs, rfl, ownsI_mono ((ka.q1.set4 _ (by omega) _ _ _ _).set4 _ (by omega) _ _ _ _) (by omega), ownsI_mono ((ka.q2.set4 _ (by omega) _ _ _ _).set4 _ (by omega) _ _ _ _) (by omega), ownsI_mono ((kd.q1.set4 _ (by omega) _ _ _ _).set4 _ (by omega) _ _ _ _) (by omega), ownsI_mono ((kd.q2.set4 _ (by omega) _ _ _ _).set4 _ (by omega) _ _ _ _) (by omega), lx, ly, lu, lv, belD4 w _ _ (by omega) (belD4 w W _ (Nat.le_refl _) k.B _ _ _ _) _ _ _ _⟩

set_option maxRecDepth 20000 in
set_option maxHeartbeats 12800000 in
theorem drIvTwo (a : Option Addr) (len cap : Nat) (zs : List Int) (w : World) (hlen : len ≤ 1048576) (hc : CodeIs w a len cap zs) :
    Calls Try.prog 39 #[.slice a len cap] w (DrawnVV w) := by
  have s1 : (w.alloc (.cells #[.bool false, .slice none 0 0, .bool false, .slice none 0 0] 28)).heap.size = w.heap.size + 1 := by simp
  have X := (BoxV.made w (.bool false) (.slice none 0 0) (.bool false) (.slice none 0 0) 28).below (below1 _ (.cells #[.bool false, .slice none 0 0, .bool false, .slice none 0 0] 28)) (Nat.le_refl _)
  have Y := BoxV.made (w.alloc (.cells #[.bool false, .slice none 0 0, .bool false, .slice none 0 0] 28)) (.bool false) (.slice none 0 0) (.bool false) (.slice none 0 0) 28
  rw [s1] at Y
  have s0 : ((w.alloc (.cells #[.bool false, .slice none 0 0, .bool false, .slice none 0 0] 28)).alloc (.cells #[.bool false, .slice none 0 0, .bool false, .slice none 0 0] 28)).heap.size = w.heap.size + 1 + 1 := by simp
  have B0 := below2 w (.cells #[.bool false, .slice none 0 0, .bool false, .slice none 0 0] 28) (.cells #[.bool false, .slice none 0 0, .bool false, .slice none 0 0] 28)
  have hc := hc.below B0
  clear s1
  go_enter Try.func39, Try.ntmps39
  go_wp2_with fail
  generalize (w.alloc (.cells #[.bool false, .slice none 0 0, .bool false, .slice none 0 0] 28)).alloc (.cells #[.bool false, .slice none 0 0, .bool false, .slice none 0 0] 28) = w0 at *
  refine (curNew a len cap zs w0 hlen hc).mono ?_
  rintro e w1 ⟨rfl, cu, b1⟩
  rw [s0] at cu
  rw [s0]
  have T1 : Tw0 w w1 := ⟨X.below b1 (Nat.le_refl _), Y.below b1 (Nat.le_refl _), cu, B0.trans (b1.mono B0.size)⟩
  have hz1 := cu.lt
  clear hc X Y s0 B0 b1 cu
  go_wp2_with fail
  refine (drIvDraw (w.heap.size + 1 + 1) w1 T1.c).mono ?_
  rintro e w2 ⟨s1, t1, g, h, xs, ys, rfl, q1, q2, lx, ly, c2, g2⟩
  have hz2 : w.heap.size + 1 + 1 < w2.heap.size := by have := g2.size; omega
  obtain ⟨ad, cp, rfl, -⟩ := q1.row
  obtain ⟨ae, cq, rfl, -⟩ := q2.row
  have bb := below1 w2 (.cells #[.bool g, .slice ad xs.length cp, .bool h, .slice ae ys.length cq] 28)
  have T3 := (T1.cur c2 g2).bel bb
  have A3 : VBox w (w2.alloc (.cells #[.bool g, .slice ad xs.length cp, .bool h, .slice ae ys.length cq] 28)) w2.heap.size g h (.slice ad xs.length cp) (.slice ae ys.length cq) xs ys := ⟨BoxV.made w2 _ _ _ _ _, ownsI_mono (ownsI.below q1 bb (Nat.le_refl _)) (by omega), ownsI_mono (ownsI.below q2 bb (Nat.le_refl _)) (by omega)⟩
  clear T1 g2 q1 q2 bb c2 hz1
  go_wp2_with fail
  generalize w2.alloc (.cells #[.bool g, .slice ad xs.length cp, .bool h, .slice ae ys.length cq] 28) = w3 at *
  refine (drIvDraw (w.heap.size + 1 + 1) w3 T3.c).mono ?_
  rintro e w4 ⟨s4, t4, p, r, us, vs, rfl, q4, q5, lu, lv, c4, g4⟩
  have T4 := T3.cur c4 g4
  have A4 := A3.cur hz2 g4
  have hz3 := A3.A.hi
  have hz4' : w2.heap.size < w4.heap.size := A4.A.hi
  have hz4 : w.heap.size + 1 + 1 < w4.heap.size := by omega
  obtain ⟨af, cr, rfl, -⟩ := q4.row
  obtain ⟨ag, cs, rfl, -⟩ := q5.row
  have bb := below1 w4 (.cells #[.bool p, .slice af us.length cr, .bool r, .slice ag vs.length cs] 28)
  have ht1 : ∀ k ∈ blkI (.slice ad xs.length cp), k ≠ w4.heap.size := fun k hk e => by have := (A4.q1.ltb k hk).2; omega
  have ht2 : ∀ k ∈ blkI (.slice ae ys.length cq), k ≠ w4.heap.size := fun k hk e => by have := (A4.q2.ltb k hk).2; omega
  have T5 := T4.bel bb
  have A5 := A4.bel bb
  have D5 : VBox w (w4.alloc (.cells #[.bool p, .slice af us.length cr, .bool r, .slice ag vs.length cs] 28)) w4.heap.size p r (.slice af us.length cr) (.slice ag vs.length cs) us vs := ⟨BoxV.made w4 _ _ _ _ _, ownsI_mono (ownsI.below q4 bb (Nat.le_refl _)) (by omega), ownsI_mono (ownsI.below q5 bb (Nat.le_refl _)) (by omega)⟩
  clear T3 A3 T4 A4 g4 q4 q5 bb c4 hz3
  go_wp2_with fail
  generalize w4.alloc (.cells #[.bool p, .slice af us.length cr, .bool r, .slice ag vs.length cs] 28) = w5 at *
  refine (drOnce (w.heap.size + 1 + 1) 3 w5 T5.c (by omega)).mono ?_
  rintro e w6 ⟨t6, rfl, c6, g6⟩
  have TT := T5.cur c6 g6
  have AA := A5.cur hz2 g6
  have DD := D5.cur hz4 g6
  clear T5 A5 D5 c6 g6
  have kW1 := fun W (h : rowW W (.agg #[.bool g, .slice ad xs.length cp]) (g, xs)) => sWholeOk _ (g, xs) W h (by show xs.length ≤ _; omega)
  have kW2 := fun W (hr : rowW W (.agg #[.bool h, .slice ae ys.length cq]) (h, ys)) => sWholeOk _ (h, ys) W hr (by show ys.length ≤ _; omega)
  have hn1 : ¬ w.heap.size = w2.heap.size := by omega
  have hn2 : ¬ w2.heap.size = w.heap.size := by omega
  have hn3 : ¬ w.heap.size = w4.heap.size := by omega
  have hn4 : ¬ w4.heap.size = w.heap.size := by omega
  have hn5 : ¬ w2.heap.size = w4.heap.size := by omega
  have hn6 : ¬ w4.heap.size = w2.heap.size := by omega
  have hn7 : ¬ w.heap.size + 1 = w2.heap.size := by omega
  have hn8 : ¬ w2.heap.size = w.heap.size + 1 := by omega
  have hn9 : ¬ w.heap.size + 1 = w4.heap.size := by omega
  have hn10 : ¬ w4.heap.size = w.heap.size + 1 := by omega
  have hn11 : ¬ w.heap.size = w.heap.size + 1 := by omega
  have hn12 : ¬ w.heap.size + 1 = w.heap.size := by omega
  cases t6
  · clear kW1 kW2
    have Te := TT.bel ((Below.refl w6.heap.size w6).drew)
    have Ae := AA.bel ((Below.refl w6.heap.size w6).drew)
    have De := DD.bel ((Below.refl w6.heap.size w6).drew)
    have HD : Hid _ := drFinT Te Ae De lx ly lu lv
    clear TT AA DD
    go_wp2_with fail
    refine wp_region_held_drew (S := fun W => W.cell? ⟨w2.heap.size, 0, none⟩ = some (.bool g) ∧ W.cell? ⟨w2.heap.size, 1, none⟩ = some (.slice ad xs.length cp) ∧ W.cell? ⟨w2.heap.size, 2, none⟩ = some (.bool h) ∧ W.cell? ⟨w2.heap.size, 3, none⟩ = some (.slice ae ys.length cq) ∧ W.cell? ⟨w4.heap.size, 0, none⟩ = some (.bool p) ∧ W.cell? ⟨w4.heap.size, 1, none⟩ = some (.slice af us.length cr) ∧ W.cell? ⟨w4.heap.size, 2, none⟩ = some (.bool r) ∧ W.cell? ⟨w4.heap.size, 3, none⟩ = some (.slice ag vs.length cs)) (by kernel_rfl) ⟨Ae.A.c0, Ae.A.c1, Ae.A.c2, Ae.A.c3, De.A.c0, De.A.c1, De.A.c2, De.A.c3⟩ ?_
    intro hHeld
    generalize w6.drew = wE at *
    refine takeH 0 (some 40) (.agg #[.bool g, .slice ad xs.length cp, .bool h, .slice ae ys.length cq]) rfl rfl (by kernel_rfl) (by kernel_rfl) (by kernel_rfl) (fun _ _ _ h => h) (Or.inl ⟨rfl, fun W hW => by obtain ⟨_a0, _a1, _a2, _a3, _d0, _d1, _d2, _d3⟩ := hW; go_simp⟩) (by assumption) ?_
    simp only [Act.put, List.setIfInBounds_toArray, List.set_cons_zero, List.set_cons_succ]
    refine takeH 1 (some 41) (.agg #[.bool p, .slice af us.length cr, .bool r, .slice ag vs.length cs]) rfl rfl (by kernel_rfl) (by kernel_rfl) (by kernel_rfl) (fun _ _ _ h => h) (Or.inl ⟨rfl, fun W hW => by obtain ⟨_a0, _a1, _a2, _a3, _d0, _d1, _d2, _d3⟩ := hW; go_simp⟩) (by assumption) ?_
    simp only [Act.put, List.setIfInBounds_toArray, List.set_cons_zero, List.set_cons_succ]
    clear hHeld
    have x0 := Te.X.c0
    have x1 := Te.X.c1
    have x2 := Te.X.c2
    have x3 := Te.X.c3
    have x_0 := Te.X.f0
    have x_1 := Te.X.f1
    have x_2 := Te.X.f2
    have x_3 := Te.X.f3
    have AX := Ae.A.tn (tnD4 wE w.heap.size (.bool g) (.slice ad xs.length cp) (.bool h) (.slice ae ys.length cq)) (fun k hk hs => by simp at hk hs; omega)
    have DX := De.A.tn (tnD4 wE w.heap.size (.bool g) (.slice ad xs.length cp) (.bool h) (.slice ae ys.length cq)) (fun k hk hs => by simp at hk hs; omega)
    have YX := Te.Y.tn (tnD4 wE w.heap.size (.bool g) (.slice ad xs.length cp) (.bool h) (.slice ae ys.length cq)) (fun k hk hs => by simp at hk hs; omega)
    have XX := (((Te.X.set0 (.bool g)).set1 (.slice ad xs.length cp)).set2 (.bool h)).set3 (.slice ae ys.length cq)
    clear Te Ae De
    refine oneH 2 rfl (by kernel_rfl) (fun K' hK => ?_)
    go_simp
    refine hK _ _ ⟨AX.c0, AX.c1, AX.c2, AX.c3, DX.c0, DX.c1, DX.c2, DX.c3⟩ ?_
    clear hK x0 x1 x2 x3 x_0 x_1 x_2 x_3
    generalize (((wE.setCell ⟨w.heap.size, 0, none⟩ (.bool g)).setCell ⟨w.heap.size, 1, none⟩ (.slice ad xs.length cp)).setCell ⟨w.heap.size, 2, none⟩ (.bool h)).setCell ⟨w.heap.size, 3, none⟩ (.slice ae ys.length cq) = wF at *
    have y0 := YX.c0
    have y1 := YX.c1
    have y2 := YX.c2
    have y3 := YX.c3
    have y_0 := YX.f0
    have y_1 := YX.f1
    have y_2 := YX.f2
    have y_3 := YX.f3
    have AY := AX.tn (tnD4 wF (w.heap.size + 1) (.bool p) (.slice af us.length cr) (.bool r) (.slice ag vs.length cs)) (fun k hk hs => by simp at hk hs; omega)
    have DY := DX.tn (tnD4 wF (w.heap.size + 1) (.bool p) (.slice af us.length cr) (.bool r) (.slice ag vs.length cs)) (fun k hk hs => by simp at hk hs; omega)
    have XY := XX.tn (tnD4 wF (w.heap.size + 1) (.bool p) (.slice af us.length cr) (.bool r) (.slice ag vs.length cs)) (fun k hk hs => by simp at hk hs; omega)
    have YY := (((YX.set0 (.bool p)).set1 (.slice af us.length cr)).set2 (.bool r)).set3 (.slice ag vs.length cs)
    clear AX DX YX XX
    refine oneH 3 rfl (by kernel_rfl) (fun K' hK => ?_)
    go_simp
    refine hK _ _ ⟨AY.c0, AY.c1, AY.c2, AY.c3, DY.c0, DY.c1, DY.c2, DY.c3⟩ ?_
    clear hK y0 y1 y2 y3 y_0 y_1 y_2 y_3
    refine wpAnyH_done (by kernel_rfl) ?_ _
    generalize (((wF.setCell ⟨w.heap.size + 1, 0, none⟩ (.bool p)).setCell ⟨w.heap.size + 1, 1, none⟩ (.slice af us.length cr)).setCell ⟨w.heap.size + 1, 2, none⟩ (.bool r)).setCell ⟨w.heap.size + 1, 3, none⟩ (.slice ag vs.length cs) = wG at *
    have x0 := XY.c0
    have x1 := XY.c1
    have x2 := XY.c2
    have x3 := XY.c3
    have y0 := YY.c0
    have y1 := YY.c1
    have y2 := YY.c2
    have y3 := YY.c3
    clear AY DY XY YY
    go_wp2
    (try simp only [Exit.inBlock, Exit.then])
    refine bodyPost_ret (v := .tuple #[.agg #[.bool g, .slice ad xs.length cp, .bool h, .slice ae ys.length cq], .agg #[.bool p, .slice af us.length cr, .bool r, .slice ag vs.length cs]]) ?_ rfl HD.out
    rw [results_cell2D rfl]
    go_simp
  · have k0 := AA.A.c0
    have k1 := AA.A.c1
    obtain ⟨o1, ho1⟩ : ∃ o, okW (g, xs) = o := ⟨_, rfl⟩
    rw [ho1] at kW1
    go_wp2_with fail
    refine (kW1 w6 ⟨_, rfl, AA.q1.row⟩).mono ?_
    rintro e w7 ⟨rfl, bw7⟩
    replace TT := TT.bel bw7
    replace AA := AA.bel bw7
    replace DD := DD.bel bw7
    clear bw7
    clear k0 k1
    cases o1
    · clear kW1 kW2
      have Te := TT.bel ((Below.refl w7.heap.size w7).drew)
      have Ae := AA.bel ((Below.refl w7.heap.size w7).drew)
      have De := DD.bel ((Below.refl w7.heap.size w7).drew)
      have HD : Hid _ := drFinT Te Ae De lx ly lu lv
      clear TT AA DD
      go_wp2_with fail
      refine wp_region_held_drew (S := fun W => W.cell? ⟨w2.heap.size, 0, none⟩ = some (.bool g) ∧ W.cell? ⟨w2.heap.size, 1, none⟩ = some (.slice ad xs.length cp) ∧ W.cell? ⟨w2.heap.size, 2, none⟩ = some (.bool h) ∧ W.cell? ⟨w2.heap.size, 3, none⟩ = some (.slice ae ys.length cq) ∧ W.cell? ⟨w4.heap.size, 0, none⟩ = some (.bool p) ∧ W.cell? ⟨w4.heap.size, 1, none⟩ = some (.slice af us.length cr) ∧ W.cell? ⟨w4.heap.size, 2, none⟩ = some (.bool r) ∧ W.cell? ⟨w4.heap.size, 3, none⟩ = some (.slice ag vs.length cs)) (by kernel_rfl) ⟨Ae.A.c0, Ae.A.c1, Ae.A.c2, Ae.A.c3, De.A.c0, De.A.c1, De.A.c2, De.A.c3⟩ ?_
      intro hHeld
      generalize w7.drew = wE at *
      refine takeH 0 (some 40) (.agg #[.bool g, .slice ad xs.length cp, .bool h, .slice ae ys.length cq]) rfl rfl (by kernel_rfl) (by kernel_rfl) (by kernel_rfl) (fun _ _ _ h => h) (Or.inl ⟨rfl, fun W hW => by obtain ⟨_a0, _a1, _a2, _a3, _d0, _d1, _d2, _d3⟩ := hW; go_simp⟩) (by assumption) ?_
      simp only [Act.put, List.setIfInBounds_toArray, List.set_cons_zero, List.set_cons_succ]
      refine takeH 1 (some 41) (.agg #[.bool p, .slice af us.length cr, .bool r, .slice ag vs.length cs]) rfl rfl (by kernel_rfl) (by kernel_rfl) (by kernel_rfl) (fun _ _ _ h => h) (Or.inl ⟨rfl, fun W hW => by obtain ⟨_a0, _a1, _a2, _a3, _d0, _d1, _d2, _d3⟩ := hW; go_simp⟩) (by assumption) ?_
      simp only [Act.put, List.setIfInBounds_toArray, List.set_cons_zero, List.set_cons_succ]
      clear hHeld
      have x0 := Te.X.c0
      have x1 := Te.X.c1
      have x2 := Te.X.c2
      have x3 := Te.X.c3
      have x_0 := Te.X.f0
      have x_1 := Te.X.f1
      have x_2 := Te.X.f2
      have x_3 := Te.X.f3
      have AX := Ae.A.tn (tnD4 wE w.heap.size (.bool g) (.slice ad xs.length cp) (.bool h) (.slice ae ys.length cq)) (fun k hk hs => by simp at hk hs; omega)
      have DX := De.A.tn (tnD4 wE w.heap.size (.bool g) (.slice ad xs.length cp) (.bool h) (.slice ae ys.length cq)) (fun k hk hs => by simp at hk hs; omega)
      have YX := Te.Y.tn (tnD4 wE w.heap.size (.bool g) (.slice ad xs.length cp) (.bool h) (.slice ae ys.length cq)) (fun k hk hs => by simp at hk hs; omega)
      have XX := (((Te.X.set0 (.bool g)).set1 (.slice ad xs.length cp)).set2 (.bool h)).set3 (.slice ae ys.length cq)
      clear Te Ae De
      refine oneH 2 rfl (by kernel_rfl) (fun K' hK => ?_)
      go_simp
      refine hK _ _ ⟨AX.c0, AX.c1, AX.c2, AX.c3, DX.c0, DX.c1, DX.c2, DX.c3⟩ ?_
      clear hK x0 x1 x2 x3 x_0 x_1 x_2 x_3
      generalize (((wE.setCell ⟨w.heap.size, 0, none⟩ (.bool g)).setCell ⟨w.heap.size, 1, none⟩ (.slice ad xs.length cp)).setCell ⟨w.heap.size, 2, none⟩ (.bool h)).setCell ⟨w.heap.size, 3, none⟩ (.slice ae ys.length cq) = wF at *
      have y0 := YX.c0
      have y1 := YX.c1
      have y2 := YX.c2
      have y3 := YX.c3
      have y_0 := YX.f0
      have y_1 := YX.f1
      have y_2 := YX.f2
      have y_3 := YX.f3
      have AY := AX.tn (tnD4 wF (w.heap.size + 1) (.bool p) (.slice af us.length cr) (.bool r) (.slice ag vs.length cs)) (fun k hk hs => by simp at hk hs; omega)
      have DY := DX.tn (tnD4 wF (w.heap.size + 1) (.bool p) (.slice af us.length cr) (.bool r) (.slice ag vs.length cs)) (fun k hk hs => by simp at hk hs; omega)
      have XY := XX.tn (tnD4 wF (w.heap.size + 1) (.bool p) (.slice af us.length cr) (.bool r) (.slice ag vs.length cs)) (fun k hk hs => by simp at hk hs; omega)
      have YY := (((YX.set0 (.bool p)).set1 (.slice af us.length cr)).set2 (.bool r)).set3 (.slice ag vs.length cs)
      clear AX DX YX XX
      refine oneH 3 rfl (by kernel_rfl) (fun K' hK => ?_)
      go_simp
      refine hK _ _ ⟨AY.c0, AY.c1, AY.c2, AY.c3, DY.c0, DY.c1, DY.c2, DY.c3⟩ ?_
      clear hK y0 y1 y2 y3 y_0 y_1 y_2 y_3
      refine wpAnyH_done (by kernel_rfl) ?_ _
      generalize (((wF.setCell ⟨w.heap.size + 1, 0, none⟩ (.bool p)).setCell ⟨w.heap.size + 1, 1, none⟩ (.slice af us.length cr)).setCell ⟨w.heap.size + 1, 2, none⟩ (.bool r)).setCell ⟨w.heap.size + 1, 3, none⟩ (.slice ag vs.length cs) = wG at *
      have x0 := XY.c0
      have x1 := XY.c1
      have x2 := XY.c2
      have x3 := XY.c3
      have y0 := YY.c0
      have y1 := YY.c1
      have y2 := YY.c2
      have y3 := YY.c3
      clear AY DY XY YY
      go_wp2
      (try simp only [Exit.inBlock, Exit.then])
      refine bodyPost_ret (v := .tuple #[.agg #[.bool g, .slice ad xs.length cp, .bool h, .slice ae ys.length cq], .agg #[.bool p, .slice af us.length cr, .bool r, .slice ag vs.length cs]]) ?_ rfl HD.out
      rw [results_cell2D rfl]
      go_simp
    · have k2 := AA.A.c2
      have k3 := AA.A.c3
      obtain ⟨o2, ho2⟩ : ∃ o, okW (h, ys) = o := ⟨_, rfl⟩
      rw [ho2] at kW2
      go_wp2_with fail
      refine (kW2 w7 ⟨_, rfl, AA.q2.row⟩).mono ?_
      rintro e w8 ⟨rfl, bw8⟩
      replace TT := TT.bel bw8
      replace AA := AA.bel bw8
      replace DD := DD.bel bw8
      clear bw8
      clear k2 k3 kW1 kW2
      cases o2
      · skip
        have Te := TT.bel ((Below.refl w8.heap.size w8).drew)
        have Ae := AA.bel ((Below.refl w8.heap.size w8).drew)
        have De := DD.bel ((Below.refl w8.heap.size w8).drew)
        have HD : Hid _ := drFinT Te Ae De lx ly lu lv
        clear TT AA DD
        go_wp2_with fail
        refine wp_region_held_drew (S := fun W => W.cell? ⟨w2.heap.size, 0, none⟩ = some (.bool g) ∧ W.cell? ⟨w2.heap.size, 1, none⟩ = some (.slice ad xs.length cp) ∧ W.cell? ⟨w2.heap.size, 2, none⟩ = some (.bool h) ∧ W.cell? ⟨w2.heap.size, 3, none⟩ = some (.slice ae ys.length cq) ∧ W.cell? ⟨w4.heap.size, 0, none⟩ = some (.bool p) ∧ W.cell? ⟨w4.heap.size, 1, none⟩ = some (.slice af us.length cr) ∧ W.cell? ⟨w4.heap.size, 2, none⟩ = some (.bool r) ∧ W.cell? ⟨w4.heap.size, 3, none⟩ = some (.slice ag vs.length cs)) (by kernel_rfl) ⟨Ae.A.c0, Ae.A.c1, Ae.A.c2, Ae.A.c3, De.A.c0, De.A.c1, De.A.c2, De.A.c3⟩ ?_
        intro hHeld
        generalize w8.drew = wE at *
        refine takeH 0 (some 40) (.agg #[.bool g, .slice ad xs.length cp, .bool h, .slice ae ys.length cq]) rfl rfl (by kernel_rfl) (by kernel_rfl) (by kernel_rfl) (fun _ _ _ h => h) (Or.inl ⟨rfl, fun W hW => by obtain ⟨_a0, _a1, _a2, _a3, _d0, _d1, _d2, _d3⟩ := hW; go_simp⟩) (by assumption) ?_
        simp only [Act.put, List.setIfInBounds_toArray, List.set_cons_zero, List.set_cons_succ]
        refine takeH 1 (some 41) (.agg #[.bool p, .slice af us.length cr, .bool r, .slice ag vs.length cs]) rfl rfl (by kernel_rfl) (by kernel_rfl) (by kernel_rfl) (fun _ _ _ h => h) (Or.inl ⟨rfl, fun W hW => by obtain ⟨_a0, _a1, _a2, _a3, _d0, _d1, _d2, _d3⟩ := hW; go_simp⟩) (by assumption) ?_
        simp only [Act.put, List.setIfInBounds_toArray, List.set_cons_zero, List.set_cons_succ]
        clear hHeld
        have x0 := Te.X.c0
        have x1 := Te.X.c1
        have x2 := Te.X.c2
        have x3 := Te.X.c3
        have x_0 := Te.X.f0
        have x_1 := Te.X.f1
        have x_2 := Te.X.f2
        have x_3 := Te.X.f3
        have AX := Ae.A.tn (tnD4 wE w.heap.size (.bool g) (.slice ad xs.length cp) (.bool h) (.slice ae ys.length cq)) (fun k hk hs => by simp at hk hs; omega)
        have DX := De.A.tn (tnD4 wE w.heap.size (.bool g) (.slice ad xs.length cp) (.bool h) (.slice ae ys.length cq)) (fun k hk hs => by simp at hk hs; omega)
        have YX := Te.Y.tn (tnD4 wE w.heap.size (.bool g) (.slice ad xs.length cp) (.bool h) (.slice ae ys.length cq)) (fun k hk hs => by simp at hk hs; omega)
        have XX := (((Te.X.set0 (.bool g)).set1 (.slice ad xs.length cp)).set2 (.bool h)).set3 (.slice ae ys.length cq)
        clear Te Ae De
        refine oneH 2 rfl (by kernel_rfl) (fun K' hK => ?_)
        go_simp
        refine hK _ _ ⟨AX.c0, AX.c1, AX.c2, AX.c3, DX.c0, DX.c1, DX.c2, DX.c3⟩ ?_
        clear hK x0 x1 x2 x3 x_0 x_1 x_2 x_3
        generalize (((wE.setCell ⟨w.heap.size, 0, none⟩ (.bool g)).setCell ⟨w.heap.size, 1, none⟩ (.slice ad xs.length cp)).setCell ⟨w.heap.size, 2, none⟩ (.bool h)).setCell ⟨w.heap.size, 3, none⟩ (.slice ae ys.length cq) = wF at *
        have y0 := YX.c0
        have y1 := YX.c1
        have y2 := YX.c2
        have y3 := YX.c3
        have y_0 := YX.f0
        have y_1 := YX.f1
        have y_2 := YX.f2
        have y_3 := YX.f3
        have AY := AX.tn (tnD4 wF (w.heap.size + 1) (.bool p) (.slice af us.length cr) (.bool r) (.slice ag vs.length cs)) (fun k hk hs => by simp at hk hs; omega)
        have DY := DX.tn (tnD4 wF (w.heap.size + 1) (.bool p) (.slice af us.length cr) (.bool r) (.slice ag vs.length cs)) (fun k hk hs => by simp at hk hs; omega)
        have XY := XX.tn (tnD4 wF (w.heap.size + 1) (.bool p) (.slice af us.length cr) (.bool r) (.slice ag vs.length cs)) (fun k hk hs => by simp at hk hs; omega)
        have YY := (((YX.set0 (.bool p)).set1 (.slice af us.length cr)).set2 (.bool r)).set3 (.slice ag vs.length cs)
        clear AX DX YX XX
        refine oneH 3 rfl (by kernel_rfl) (fun K' hK => ?_)
        go_simp
        refine hK _ _ ⟨AY.c0, AY.c1, AY.c2, AY.c3, DY.c0, DY.c1, DY.c2, DY.c3⟩ ?_
        clear hK y0 y1 y2 y3 y_0 y_1 y_2 y_3
        refine wpAnyH_done (by kernel_rfl) ?_ _
        generalize (((wF.setCell ⟨w.heap.size + 1, 0, none⟩ (.bool p)).setCell ⟨w.heap.size + 1, 1, none⟩ (.slice af us.length cr)).setCell ⟨w.heap.size + 1, 2, none⟩ (.bool r)).setCell ⟨w.heap.size + 1, 3, none⟩ (.slice ag vs.length cs) = wG at *
        have x0 := XY.c0
        have x1 := XY.c1
        have x2 := XY.c2
        have x3 := XY.c3
        have y0 := YY.c0
        have y1 := YY.c1
        have y2 := YY.c2
        have y3 := YY.c3
        clear AY DY XY YY
        go_wp2
        (try simp only [Exit.inBlock, Exit.then])
        refine bodyPost_ret (v := .tuple #[.agg #[.bool g, .slice ad xs.length cp, .bool h, .slice ae ys.length cq], .agg #[.bool p, .slice af us.length cr, .bool r, .slice ag vs.length cs]]) ?_ rfl HD.out
        rw [results_cell2D rfl]
        go_simp
      · have TR := TT.bel ((Below.refl w8.heap.size w8).drew)
        have AR := AA.bel ((Below.refl w8.heap.size w8).drew)
        have DR := DD.bel ((Below.refl w8.heap.size w8).drew)
        clear TT AA DD
        have k0 := AR.A.c0
        have k1 := AR.A.c1
        have k2 := AR.A.c2
        have k3 := AR.A.c3
        go_wp2_with fail
        go_region_held (fun W => W.cell? ⟨w2.heap.size, 0, none⟩ = some (.bool g) ∧ W.cell? ⟨w2.heap.size, 1, none⟩ = some (.slice ad xs.length cp) ∧ W.cell? ⟨w2.heap.size, 2, none⟩ = some (.bool h) ∧ W.cell? ⟨w2.heap.size, 3, none⟩ = some (.slice ae ys.length cq)) (go_keep) (first
          | (go_at_call 28; have hq := oLo; refine (curBelow (w.heap.size + 1 + 1) 5 _ TR.c (by omega)).mono ?_; rintro e wd ⟨z, rfl, z0, z1, -, cd, gd⟩; have z2 := z1 (by omega); have oLo2 := ownsI.cur oLo gd (by omega); have oZ : 0 = 0 := rfl; have hzz : IntKind.i64.wrap (z - 2) = z - 2 := (by rw [IntKind.wrap_i64]; omega); clear oLo hq z1; replace TR := TR.cur cd gd; replace AR := AR.cur hz2 gd; replace DR := DR.cur hz4 gd; have k0 := AR.A.c0; have k1 := AR.A.c1; have k2 := AR.A.c2; have k3 := AR.A.c3; clear gd cd)
          | (go_at_call 50; have hq := oZ; (try simp only [hzz]); refine (sWholeOf (z - 2) _ (by omega) (by omega)).mono ?_; rintro e we ⟨ve, rfl, oe, be⟩; have oe' : ownsW we wd.heap.size ve (mkW (z - 2)) := oe; have oLo3 := ownsI.below oLo2 be (Nat.le_refl _); clear oe oLo2 oZ hq; replace TR := TR.bel be; replace AR := AR.bel be; replace DR := DR.bel be; have k0 := AR.A.c0; have k1 := AR.A.c1; have k2 := AR.A.c2; have k3 := AR.A.c3; clear be)
          | (go_at_call 67; have hq := oLo3; refine (sWAdd _ _ (valW (h, ys)) (z - 2) _ (by rw [← mkW_of ho2]; exact ⟨_, rfl, AR.q2.row⟩) oe'.row (by have := okW_abs ho2; omega) (by have := limbs_len3 (n := (z - 2).natAbs) (by omega); omega)).mono ?_; rintro e wf ⟨vf, rfl, of', bf⟩; have h49 := add_len49 (valW (h, ys)) (z - 2) (okW_abs ho2) (by omega); obtain ⟨r2, hm2⟩ : ∃ r, mkW (valW (h, ys) + (z - 2)) = r := ⟨_, rfl⟩; rw [hm2] at of'; obtain ⟨i2, ms⟩ := r2; have hy98 : ms.length ≤ 98 := (by have : limbs (valW (h, ys) + (z - 2)).natAbs = ms := congrArg Prod.snd hm2; rw [← this]; exact h49); obtain ⟨s2, rfl, n2⟩ := of'; obtain ⟨aj, cj, rfl, -⟩ := n2.row; have n1 := ownsI.below oLo3 bf (Nat.le_refl _); have hwe := AR.A.hi; have hwd := DR.A.hi; clear h49 hm2 hq oLo3; replace TR := TR.bel bf; replace AR := AR.bel bf; replace DR := DR.bel bf; have k0 := AR.A.c0; have k1 := AR.A.c1; have k2 := AR.A.c2; have k3 := AR.A.c3; have d0 := DR.A.c0; have dx0 := DR.A.f0; have d1 := DR.A.c1; have dx1 := DR.A.f1; have d2 := DR.A.c2; have dx2 := DR.A.f2; have d3 := DR.A.c3; have dx3 := DR.A.f3; have n2' := ownsI_mono n2 (show w4.heap.size + 1 ≤ _ by omega); clear bf oe' n2 z0 z2 hzz)
          | (go_at_call 28; refine (curBelow (w.heap.size + 1 + 1) 5 _ TR.c (by omega)).mono ?_; rintro e wa ⟨y, rfl, y0, y1, -, ca, ga⟩; have y2 := y1 (by omega); have hyy : IntKind.i64.wrap (y - 2) = y - 2 := (by rw [IntKind.wrap_i64]; omega); clear y1; replace TR := TR.cur ca ga; replace AR := AR.cur hz2 ga; replace DR := DR.cur hz4 ga; have k0 := AR.A.c0; have k1 := AR.A.c1; have k2 := AR.A.c2; have k3 := AR.A.c3; clear ga ca)
          | (go_at_call 50; (try simp only [hyy]); refine (sWholeOf (y - 2) _ (by omega) (by omega)).mono ?_; rintro e wb ⟨vb, rfl, ob, bb⟩; have ob' : ownsW wb wa.heap.size vb (mkW (y - 2)) := ob; clear ob; replace TR := TR.bel bb; replace AR := AR.bel bb; replace DR := DR.bel bb; have k0 := AR.A.c0; have k1 := AR.A.c1; have k2 := AR.A.c2; have k3 := AR.A.c3; clear bb)
          | (go_at_call 67; refine (sWAdd _ _ (valW (g, xs)) (y - 2) _ (by rw [← mkW_of ho1]; exact ⟨_, rfl, AR.q1.row⟩) ob'.row (by have := okW_abs ho1; omega) (by have := limbs_len3 (n := (y - 2).natAbs) (by omega); omega)).mono ?_; rintro e wc ⟨vc, rfl, oc, bc⟩; have h49 := add_len49 (valW (g, xs)) (y - 2) (okW_abs ho1) (by omega); obtain ⟨r1, hm1⟩ : ∃ r, mkW (valW (g, xs) + (y - 2)) = r := ⟨_, rfl⟩; rw [hm1] at oc; obtain ⟨i1, ls⟩ := r1; have hx98 : ls.length ≤ 98 := (by have : limbs (valW (g, xs) + (y - 2)).natAbs = ls := congrArg Prod.snd hm1; rw [← this]; exact h49); obtain ⟨s1', rfl, oLo'⟩ := oc; obtain ⟨ai, ci, rfl, -⟩ := oLo'.row; have hwc := DR.A.hi; have oLo := ownsI_mono oLo' (show w4.heap.size + 1 ≤ _ by omega); clear h49 hm1 oLo' ob'; replace TR := TR.bel bc; replace AR := AR.bel bc; replace DR := DR.bel bc; have k0 := AR.A.c0; have k1 := AR.A.c1; have k2 := AR.A.c2; have k3 := AR.A.c3; clear bc y0 y2 hyy))
        clear k0 k1 k2 k3 d0 d1 d2 d3 dx0 dx1 dx2 dx3
        have TZ := TR.put w4.heap.size hz4 (.bool i1) (.slice ai ls.length ci) (.bool i2) (.slice aj ms.length cj)
        have AZ := AR.aside w4.heap.size (by omega) ht1 ht2 (.bool i1) (.slice ai ls.length ci) (.bool i2) (.slice aj ms.length cj)
        have DZ := DR.anew (p := i1) (r := i2) hz4 n1 n2'
        clear TR AR DR n1 n2' lu lv
        have lu := hx98
        have lv := hy98
        generalize (((wf.setCell ⟨w4.heap.size, 0, none⟩ (.bool i1)).setCell ⟨w4.heap.size, 1, none⟩ (.slice ai ls.length ci)).setCell ⟨w4.heap.size, 2, none⟩ (.bool i2)).setCell ⟨w4.heap.size, 3, none⟩ (.slice aj ms.length cj) = w9 at *
        have Te := TZ.bel ((Below.refl w9.heap.size w9).drew)
        have Ae := AZ.bel ((Below.refl w9.heap.size w9).drew)
        have De := DZ.bel ((Below.refl w9.heap.size w9).drew)
        have HD : Hid _ := drFinT Te Ae De lx ly lu lv
        clear TZ AZ DZ
        go_wp2_with fail
        refine wp_region_held_drew (S := fun W => W.cell? ⟨w2.heap.size, 0, none⟩ = some (.bool g) ∧ W.cell? ⟨w2.heap.size, 1, none⟩ = some (.slice ad xs.length cp) ∧ W.cell? ⟨w2.heap.size, 2, none⟩ = some (.bool h) ∧ W.cell? ⟨w2.heap.size, 3, none⟩ = some (.slice ae ys.length cq) ∧ W.cell? ⟨w4.heap.size, 0, none⟩ = some (.bool i1) ∧ W.cell? ⟨w4.heap.size, 1, none⟩ = some (.slice ai ls.length ci) ∧ W.cell? ⟨w4.heap.size, 2, none⟩ = some (.bool i2) ∧ W.cell? ⟨w4.heap.size, 3, none⟩ = some (.slice aj ms.length cj)) (by kernel_rfl) ⟨Ae.A.c0, Ae.A.c1, Ae.A.c2, Ae.A.c3, De.A.c0, De.A.c1, De.A.c2, De.A.c3⟩ ?_
        intro hHeld
        generalize w9.drew = wE at *
        refine takeH 0 (some 40) (.agg #[.bool g, .slice ad xs.length cp, .bool h, .slice ae ys.length cq]) rfl rfl (by kernel_rfl) (by kernel_rfl) (by kernel_rfl) (fun _ _ _ h => h) (Or.inl ⟨rfl, fun W hW => by obtain ⟨_a0, _a1, _a2, _a3, _d0, _d1, _d2, _d3⟩ := hW; go_simp⟩) (by assumption) ?_
        simp only [Act.put, List.setIfInBounds_toArray, List.set_cons_zero, List.set_cons_succ]
        refine takeH 1 (some 41) (.agg #[.bool i1, .slice ai ls.length ci, .bool i2, .slice aj ms.length cj]) rfl rfl (by kernel_rfl) (by kernel_rfl) (by kernel_rfl) (fun _ _ _ h => h) (Or.inl ⟨rfl, fun W hW => by obtain ⟨_a0, _a1, _a2, _a3, _d0, _d1, _d2, _d3⟩ := hW; go_simp⟩) (by assumption) ?_
        simp only [Act.put, List.setIfInBounds_toArray, List.set_cons_zero, List.set_cons_succ]
        clear hHeld
        have x0 := Te.X.c0
        have x1 := Te.X.c1
        have x2 := Te.X.c2
        have x3 := Te.X.c3
        have x_0 := Te.X.f0
        have x_1 := Te.X.f1
        have x_2 := Te.X.f2
        have x_3 := Te.X.f3
        have AX := Ae.A.tn (tnD4 wE w.heap.size (.bool g) (.slice ad xs.length cp) (.bool h) (.slice ae ys.length cq)) (fun k hk hs => by simp at hk hs; omega)
        have DX := De.A.tn (tnD4 wE w.heap.size (.bool g) (.slice ad xs.length cp) (.bool h) (.slice ae ys.length cq)) (fun k hk hs => by simp at hk hs; omega)
        have YX := Te.Y.tn (tnD4 wE w.heap.size (.bool g) (.slice ad xs.length cp) (.bool h) (.slice ae ys.length cq)) (fun k hk hs => by simp at hk hs; omega)
        have XX := (((Te.X.set0 (.bool g)).set1 (.slice ad xs.length cp)).set2 (.bool h)).set3 (.slice ae ys.length cq)
        clear Te Ae De
        refine oneH 2 rfl (by kernel_rfl) (fun K' hK => ?_)
        go_simp
        refine hK _ _ ⟨AX.c0, AX.c1, AX.c2, AX.c3, DX.c0, DX.c1, DX.c2, DX.c3⟩ ?_
        clear hK x0 x1 x2 x3 x_0 x_1 x_2 x_3
        generalize (((wE.setCell ⟨w.heap.size, 0, none⟩ (.bool g)).setCell ⟨w.heap.size, 1, none⟩ (.slice ad xs.length cp)).setCell ⟨w.heap.size, 2, none⟩ (.bool h)).setCell ⟨w.heap.size, 3, none⟩ (.slice ae ys.length cq) = wF at *
        have y0 := YX.c0
        have y1 := YX.c1
        have y2 := YX.c2
        have y3 := YX.c3
        have y_0 := YX.f0
        have y_1 := YX.f1
        have y_2 := YX.f2
        have y_3 := YX.f3
        have AY := AX.tn (tnD4 wF (w.heap.size + 1) (.bool i1) (.slice ai ls.length ci) (.bool i2) (.slice aj ms.length cj)) (fun k hk hs => by simp at hk hs; omega)
        have DY := DX.tn (tnD4 wF (w.heap.size + 1) (.bool i1) (.slice ai ls.length ci) (.bool i2) (.slice aj ms.length cj)) (fun k hk hs => by simp at hk hs; omega)
        have XY := XX.tn (tnD4 wF (w.heap.size + 1) (.bool i1) (.slice ai ls.length ci) (.bool i2) (.slice aj ms.length cj)) (fun k hk hs => by simp at hk hs; omega)
        have YY := (((YX.set0 (.bool i1)).set1 (.slice ai ls.length ci)).set2 (.bool i2)).set3 (.slice aj ms.length cj)
        clear AX DX YX XX
        refine oneH 3 rfl (by kernel_rfl) (fun K' hK => ?_)
        go_simp
        refine hK _ _ ⟨AY.c0, AY.c1, AY.c2, AY.c3, DY.c0, DY.c1, DY.c2, DY.c3⟩ ?_
        clear hK y0 y1 y2 y3 y_0 y_1 y_2 y_3
        refine wpAnyH_done (by kernel_rfl) ?_ _
        generalize (((wF.setCell ⟨w.heap.size + 1, 0, none⟩ (.bool i1)).setCell ⟨w.heap.size + 1, 1, none⟩ (.slice ai ls.length ci)).setCell ⟨w.heap.size + 1, 2, none⟩ (.bool i2)).setCell ⟨w.heap.size + 1, 3, none⟩ (.slice aj ms.length cj) = wG at *
        have x0 := XY.c0
        have x1 := XY.c1
        have x2 := XY.c2
        have x3 := XY.c3
        have y0 := YY.c0
        have y1 := YY.c1
        have y2 := YY.c2
        have y3 := YY.c3
        clear AY DY XY YY
        go_wp2
        (try simp only [Exit.inBlock, Exit.then])
        refine bodyPost_ret (v := .tuple #[.agg #[.bool g, .slice ad xs.length cp, .bool h, .slice ae ys.length cq], .agg #[.bool i1, .slice ai ls.length ci, .bool i2, .slice aj ms.length cj]]) ?_ rfl HD.out
        rw [results_cell2D rfl]
        go_simp

end Go.Proofs.Ytddakeohamefiaa
