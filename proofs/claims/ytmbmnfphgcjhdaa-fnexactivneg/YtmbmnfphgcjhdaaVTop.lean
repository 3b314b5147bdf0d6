/- Several small texts in one: ITwoSp, IFrom, Spans. -/
import Derived.Test.YtmbmnfphgcjhdaaISpan
import Derived.Test.YtmbmnfphgcjhdaaGTop
import Derived.Test.YtmbmnfphgcjhdaaSOf
/- The program's twoSpans, by its contract. -/
namespace Go.Proofs.Ytmbmnfphgcjhdaa
open Go.RowKit
set_option linter.unusedSimpArgs false

theorem results_cell2_tmp {fn : Func} {p q u : Tmp} {ty ty' : TypeId} (h : fn.results = #[.cell p ty, .cell q ty', .tmp u]) (tmps : Array Value) (P : Program) (w : World) :
    (results fn tmps).run P w = ((asAddr (tmps.getD p undef)).run P w).andThen fun a w₁ => ((loadVar ty a).run P w₁).andThen fun v w₂ => ((asAddr (tmps.getD q undef)).run P w₂).andThen fun b w₃ => ((loadVar ty' b).run P w₃).andThen fun v' w₄ => .ok (.tuple #[v, v', tmps.getD u undef]) w₄ := by
  simp only [results, h]
  simp [Sem.run_bind, Result.andThen]

/-- What spanFrom answers, in one form. -/
theorem spanFrom_b (va : Value) (a : Vh) (w : World) (ha : rowV w va a) (hla : a.1.2.length ≤ 1048576) (hlb : a.2.2.length ≤ 1048576) :
    Calls Try.prog 60 #[va] w fun e w' => ∃ (X Y : Option Addr), e = .returned (.tuple #[.agg #[.pointer X, .pointer Y], .bool (okV a)]) ∧ Below w.heap.size w w' ∧ (okV a = true → ∃ p q, X = some ⟨p, 0, none⟩ ∧ Y = some ⟨q, 0, none⟩ ∧ SG w' p (valW a.1) ∧ SG w' q (valW a.2) ∧ w.heap.size ≤ p ∧ w.heap.size ≤ q) := by
  refine (spanFrom_c va a w ha hla hlb).mono ?_
  rintro e w' (⟨hv, p, q, rfl, h1, h2, h3, h4, hb⟩ | ⟨hv, x, y, rfl, hb⟩)
  · exact ⟨_, _, by rw [hv], hb, fun _ => ⟨p, q, rfl, rfl, h1, h2, h3, h4⟩⟩
  · exact ⟨x, y, by rw [hv], hb, fun h => by rw [hv] at h; cases h⟩
theorem SG.tn {w w' : World} {b : Nat} {z : Int} {S : List Nat} (h : SG w b z) (ht : Tn S w w') (hS : b ∉ S) : SG w' b z :=
  ⟨(World.cell?_of_block (w := w) (a := ⟨b, 0, none⟩) (ht.block b h.lt hS)).trans h.sign, h.mag.tn ht hS⟩

/-- What twoSpans answers. -/
def spansA (a b : Vh) (w : World) (e : Ending) (w' : World) : Prop := ∃ (X Y X' Y' : Option Addr), e = .returned (.tuple #[.agg #[.pointer X, .pointer Y], .agg #[.pointer X', .pointer Y'], .bool (okV a && okV b)]) ∧ Below w.heap.size w w' ∧
  (okV a = true → okV b = true → ∃ p q p' q', X = some ⟨p, 0, none⟩ ∧ Y = some ⟨q, 0, none⟩ ∧ X' = some ⟨p', 0, none⟩ ∧ Y' = some ⟨q', 0, none⟩ ∧ SG w' p (valW a.1) ∧ SG w' q (valW a.2) ∧ SG w' p' (valW b.1) ∧ SG w' q' (valW b.2) ∧ w.heap.size ≤ p ∧ w.heap.size ≤ q ∧ w.heap.size ≤ p' ∧ w.heap.size ≤ q')

set_option maxRecDepth 20000 in
set_option maxHeartbeats 6400000 in
theorem twoSpans_c (va vb : Value) (a b : Vh) (w : World) (ha : rowV w va a) (hb : rowV w vb b) (hl0 : a.1.2.length ≤ 1048576) (hl1 : a.2.2.length ≤ 1048576) (hl2 : b.1.2.length ≤ 1048576) (hl3 : b.2.2.length ≤ 1048576) :
    Calls Try.prog 55 #[va, vb] w (spansA a b w) := by
  have kA := fun W (h : Below w.heap.size w W) => spanFrom_b va a W (ha.below h (Nat.le_refl _)) hl0 hl1
  have kB := fun W (h : Below w.heap.size w W) => spanFrom_b vb b W (hb.below h (Nat.le_refl _)) hl2 hl3
  have HS : Hid (∀ (o1 o2 : Bool) (X Y X' Y' : Option Addr) w', okV a = o1 → okV b = o2 → Below w.heap.size w w' → (o1 = true → o2 = true → ∃ p q p' q', X = some ⟨p, 0, none⟩ ∧ Y = some ⟨q, 0, none⟩ ∧ X' = some ⟨p', 0, none⟩ ∧ Y' = some ⟨q', 0, none⟩ ∧ SG w' p (valW a.1) ∧ SG w' q (valW a.2) ∧ SG w' p' (valW b.1) ∧ SG w' q' (valW b.2) ∧ w.heap.size ≤ p ∧ w.heap.size ≤ q ∧ w.heap.size ≤ p' ∧ w.heap.size ≤ q') → spansA a b w (.returned (.tuple #[.agg #[.pointer X, .pointer Y], .agg #[.pointer X', .pointer Y'], .bool (o1 && o2)])) w') := by
    intro o1 o2 X Y X' Y' w' e1 e2 hb h
    subst e1 e2
    exact ⟨X, Y, X', Y', rfl, hb, h⟩
  obtain ⟨o1, ho1⟩ : ∃ o, okV a = o := ⟨_, rfl⟩
  obtain ⟨o2, ho2⟩ : ∃ o, okV b = o := ⟨_, rfl⟩
  have HT := HS.out o1 o2
  have HT : Hid (∀ (X Y X' Y' : Option Addr) w', Below w.heap.size w w' → (o1 = true → o2 = true → ∃ p q p' q', X = some ⟨p, 0, none⟩ ∧ Y = some ⟨q, 0, none⟩ ∧ X' = some ⟨p', 0, none⟩ ∧ Y' = some ⟨q', 0, none⟩ ∧ SG w' p (valW a.1) ∧ SG w' q (valW a.2) ∧ SG w' p' (valW b.1) ∧ SG w' q' (valW b.2) ∧ w.heap.size ≤ p ∧ w.heap.size ≤ q ∧ w.heap.size ≤ p' ∧ w.heap.size ≤ q') → spansA a b w (.returned (.tuple #[.agg #[.pointer X, .pointer Y], .agg #[.pointer X', .pointer Y'], .bool (o1 && o2)])) w') := fun X Y X' Y' w' h1 h2 => HT X Y X' Y' w' ho1 ho2 h1 h2
  rw [ho1] at kA
  rw [ho2] at kB
  clear HS ho1 ho2
  obtain ⟨s, t, rfl, hs, ht⟩ := ha
  obtain ⟨u, v, rfl, hu, hv⟩ := hb
  obtain ⟨ad, cap, rfl, -⟩ := id hs
  obtain ⟨ae, cbp, rfl, -⟩ := id ht
  obtain ⟨bd, cap2, rfl, -⟩ := id hu
  obtain ⟨be, cbp2, rfl, -⟩ := id hv
  clear hs ht hu hv
  generalize valW a.1 = x1 at *
  generalize valW a.2 = y1 at *
  generalize valW b.1 = x2 at *
  generalize valW b.2 = y2 at *
  have s1 : (w.alloc (.cells #[.bool a.1.1, .slice ad a.1.2.length cap, .bool a.2.1, .slice ae a.2.2.length cbp] 28)).heap.size = w.heap.size + 1 := by simp
  have s2 : ((w.alloc (.cells #[.bool a.1.1, .slice ad a.1.2.length cap, .bool a.2.1, .slice ae a.2.2.length cbp] 28)).alloc (.cells #[.bool b.1.1, .slice bd b.1.2.length cap2, .bool b.2.1, .slice be b.2.2.length cbp2] 28)).heap.size = w.heap.size + 1 + 1 := by simp
  have s3 : (((w.alloc (.cells #[.bool a.1.1, .slice ad a.1.2.length cap, .bool a.2.1, .slice ae a.2.2.length cbp] 28)).alloc (.cells #[.bool b.1.1, .slice bd b.1.2.length cap2, .bool b.2.1, .slice be b.2.2.length cbp2] 28)).alloc (.cells #[.pointer none, .pointer none] 75)).heap.size = w.heap.size + 1 + 1 + 1 := by simp
  have D0 := ((BoxV.made (w.alloc (.cells #[.bool a.1.1, .slice ad a.1.2.length cap, .bool a.2.1, .slice ae a.2.2.length cbp] 28)) (.bool b.1.1) (.slice bd b.1.2.length cap2) (.bool b.2.1) (.slice be b.2.2.length cbp2) 28).below (below1 _ (.cells #[.pointer none, .pointer none] 75)) (Nat.le_refl _)).below (below1 _ (.cells #[.pointer none, .pointer none] 75)) (Nat.le_refl _)
  rw [s1] at D0
  have R0 := (BoxW.made ((w.alloc (.cells #[.bool a.1.1, .slice ad a.1.2.length cap, .bool a.2.1, .slice ae a.2.2.length cbp] 28)).alloc (.cells #[.bool b.1.1, .slice bd b.1.2.length cap2, .bool b.2.1, .slice be b.2.2.length cbp2] 28)) (.pointer none) (.pointer none) 75).below (below1 _ (.cells #[.pointer none, .pointer none] 75)) (Nat.le_refl _)
  rw [s2] at R0
  have Q0 := BoxW.made (((w.alloc (.cells #[.bool a.1.1, .slice ad a.1.2.length cap, .bool a.2.1, .slice ae a.2.2.length cbp] 28)).alloc (.cells #[.bool b.1.1, .slice bd b.1.2.length cap2, .bool b.2.1, .slice be b.2.2.length cbp2] 28)).alloc (.cells #[.pointer none, .pointer none] 75)) (.pointer none) (.pointer none) 75
  rw [s3] at Q0
  have B0 := (below3 w (.cells #[.bool a.1.1, .slice ad a.1.2.length cap, .bool a.2.1, .slice ae a.2.2.length cbp] 28) (.cells #[.bool b.1.1, .slice bd b.1.2.length cap2, .bool b.2.1, .slice be b.2.2.length cbp2] 28) (.cells #[.pointer none, .pointer none] 75)).alloc (by simp; omega) (.cells #[.pointer none, .pointer none] 75)
  clear s1 s2 s3
  go_enter Try.func55, Try.ntmps55
  go_wp2_with fail
  refine (kA _ B0).mono ?_
  generalize (((w.alloc (.cells #[.bool a.1.1, .slice ad a.1.2.length cap, .bool a.2.1, .slice ae a.2.2.length cbp] 28)).alloc (.cells #[.bool b.1.1, .slice bd b.1.2.length cap2, .bool b.2.1, .slice be b.2.2.length cbp2] 28)).alloc (.cells #[.pointer none, .pointer none] 75)).alloc (.cells #[.pointer none, .pointer none] 75) = w0 at *
  rintro e w1 ⟨X, Y, rfl, b1, h1⟩
  have hQ0 := Q0.hi
  have D1 := (D0.below b1 (Nat.le_refl _)).below (below1 w1 (.cells #[.pointer X, .pointer Y] 75)) (Nat.le_refl _)
  have R1 := (R0.below b1 (Nat.le_refl _)).below (below1 w1 (.cells #[.pointer X, .pointer Y] 75)) (Nat.le_refl _)
  have Q1 := (Q0.below b1 (Nat.le_refl _)).below (below1 w1 (.cells #[.pointer X, .pointer Y] 75)) (Nat.le_refl _)
  have E1 := BoxW.made w1 (.pointer X) (.pointer Y) 75
  have B1 := (B0.trans (b1.mono B0.size)).trans ((below1 w1 (.cells #[.pointer X, .pointer Y] 75)).mono (B0.trans (b1.mono B0.size)).size)
  have hf7 : w0.heap.size ≤ w1.heap.size := b1.size
  have H1 : Hid (o1 = true → ∃ p q, X = some ⟨p, 0, none⟩ ∧ Y = some ⟨q, 0, none⟩ ∧ SG (w1.alloc (.cells #[.pointer X, .pointer Y] 75)) p x1 ∧ SG (w1.alloc (.cells #[.pointer X, .pointer Y] 75)) q y1 ∧ w0.heap.size ≤ p ∧ w0.heap.size ≤ q) := fun ho => by
    obtain ⟨p, q, e1, e2, s1, s2, g1, g2⟩ := h1 ho
    exact ⟨p, q, e1, e2, s1.below (below1 w1 (.cells #[.pointer X, .pointer Y] 75)) s1.lt, s2.below (below1 w1 (.cells #[.pointer X, .pointer Y] 75)) s2.lt, g1, g2⟩
  clear h1 b1 D0 R0 Q0 kA
  have c0 := D1.c0
  have c1 := D1.c1
  have c2 := D1.c2
  have c3 := D1.c3
  go_wp2_with fail
  clear c0 c1 c2 c3
  refine (kB _ B1).mono ?_
  generalize w1.alloc (.cells #[.pointer X, .pointer Y] 75) = w2 at *
  generalize w1.heap.size = f7 at *
  rintro e w3 ⟨X', Y', rfl, b3, h3⟩
  have R3 := (R1.below b3 (Nat.le_refl _)).below (below1 w3 (.cells #[.pointer X', .pointer Y'] 75)) (Nat.le_refl _)
  have Q3 := (Q1.below b3 (Nat.le_refl _)).below (below1 w3 (.cells #[.pointer X', .pointer Y'] 75)) (Nat.le_refl _)
  have E3 := (E1.below b3 (Nat.le_refl _)).below (below1 w3 (.cells #[.pointer X', .pointer Y'] 75)) (Nat.le_refl _)
  have G3 := BoxW.made w3 (.pointer X') (.pointer Y') 75
  have B3 := (B1.trans (b3.mono B1.size)).trans ((below1 w3 (.cells #[.pointer X', .pointer Y'] 75)).mono (B1.trans (b3.mono B1.size)).size)
  have hE1 := E1.hi
  have hf9 : w2.heap.size ≤ w3.heap.size := b3.size
  have H3 : Hid (o1 = true → o2 = true → ∃ p q p' q', X = some ⟨p, 0, none⟩ ∧ Y = some ⟨q, 0, none⟩ ∧ X' = some ⟨p', 0, none⟩ ∧ Y' = some ⟨q', 0, none⟩ ∧ SG (w3.alloc (.cells #[.pointer X', .pointer Y'] 75)) p x1 ∧ SG (w3.alloc (.cells #[.pointer X', .pointer Y'] 75)) q y1 ∧ SG (w3.alloc (.cells #[.pointer X', .pointer Y'] 75)) p' x2 ∧ SG (w3.alloc (.cells #[.pointer X', .pointer Y'] 75)) q' y2 ∧ w0.heap.size ≤ p ∧ w0.heap.size ≤ q ∧ w0.heap.size ≤ p' ∧ w0.heap.size ≤ q') := fun hA hB => by
    obtain ⟨p, q, e1, e2, s1, s2, g1, g2⟩ := H1.out hA
    obtain ⟨p', q', e3, e4, s3, s4, g3, g4⟩ := h3 hB
    have s1' := s1.below b3 s1.lt
    have s2' := s2.below b3 s2.lt
    exact ⟨p, q, p', q', e1, e2, e3, e4, s1'.below (below1 w3 (.cells #[.pointer X', .pointer Y'] 75)) s1'.lt, s2'.below (below1 w3 (.cells #[.pointer X', .pointer Y'] 75)) s2'.lt, s3.below (below1 w3 (.cells #[.pointer X', .pointer Y'] 75)) s3.lt, s4.below (below1 w3 (.cells #[.pointer X', .pointer Y'] 75)) s4.lt, g1, g2, by omega, by omega⟩
  clear h3 b3 D1 R1 Q1 E1 kB H1
  go_wp2_with fail
  generalize w3.alloc (.cells #[.pointer X', .pointer Y'] 75) = w4 at *
  generalize w3.heap.size = f9 at *
  have bd' := (Below.refl w4.heap.size w4).drew
  refine wp_region_held_drew (S := fun W => W.cell? ⟨f7, 0, none⟩ = some (.pointer X) ∧ W.cell? ⟨f7, 1, none⟩ = some (.pointer Y) ∧ W.cell? ⟨f9, 0, none⟩ = some (.pointer X') ∧ W.cell? ⟨f9, 1, none⟩ = some (.pointer Y')) (by kernel_rfl) ⟨(E3.below bd' (Nat.le_refl _)).c0, (E3.below bd' (Nat.le_refl _)).c1, (G3.below bd' (Nat.le_refl _)).c0, (G3.below bd' (Nat.le_refl _)).c1⟩ ?_
  intro hHeld
  generalize w4.drew = w5 at *
  have R4 := R3.below bd' (Nat.le_refl _)
  have Q4 := Q3.below bd' (Nat.le_refl _)
  have E4 := E3.below bd' (Nat.le_refl _)
  have G4 := G3.below bd' (Nat.le_refl _)
  have B4 := B3.trans (bd'.mono B3.size)
  have tn5 : Tn [w.heap.size + 1 + 1] w5 ((w5.setCell ⟨w.heap.size + 1 + 1, 0, none⟩ (.pointer X)).setCell ⟨w.heap.size + 1 + 1, 1, none⟩ (.pointer Y)) := (tnC _ (w.heap.size + 1 + 1) 0 _).trans (tnC _ (w.heap.size + 1 + 1) 1 _)
  have E5 := E4.tn tn5 (fun k hk hs => by simp at hk hs; omega)
  have G5 := G4.tn tn5 (fun k hk hs => by simp at hk hs; omega)
  have Q5 := Q4.tn tn5 (fun k hk hs => by simp at hk hs; omega)
  have B5 := (B4.setCell (p := ⟨w.heap.size + 1 + 1, 0, none⟩) (by show w.heap.size ≤ w.heap.size + 1 + 1; omega) (.pointer X)).setCell (p := ⟨w.heap.size + 1 + 1, 1, none⟩) (by show w.heap.size ≤ w.heap.size + 1 + 1; omega) (.pointer Y)
  have tn6 : Tn [w.heap.size + 1 + 1 + 1] ((w5.setCell ⟨w.heap.size + 1 + 1, 0, none⟩ (.pointer X)).setCell ⟨w.heap.size + 1 + 1, 1, none⟩ (.pointer Y)) ((((w5.setCell ⟨w.heap.size + 1 + 1, 0, none⟩ (.pointer X)).setCell ⟨w.heap.size + 1 + 1, 1, none⟩ (.pointer Y)).setCell ⟨w.heap.size + 1 + 1 + 1, 0, none⟩ (.pointer X')).setCell ⟨w.heap.size + 1 + 1 + 1, 1, none⟩ (.pointer Y')) := (tnC _ (w.heap.size + 1 + 1 + 1) 0 _).trans (tnC _ (w.heap.size + 1 + 1 + 1) 1 _)
  have E6 := E5.tn tn6 (fun k hk hs => by simp at hk hs; omega)
  have G6 := G5.tn tn6 (fun k hk hs => by simp at hk hs; omega)
  have B6 := (B5.setCell (p := ⟨w.heap.size + 1 + 1 + 1, 0, none⟩) (by show w.heap.size ≤ w.heap.size + 1 + 1 + 1; omega) (.pointer X')).setCell (p := ⟨w.heap.size + 1 + 1 + 1, 1, none⟩) (by show w.heap.size ≤ w.heap.size + 1 + 1 + 1; omega) (.pointer Y')
  have HF : Hid (Below w.heap.size w _ ∧ (o1 = true → o2 = true → ∃ p q p' q', X = some ⟨p, 0, none⟩ ∧ Y = some ⟨q, 0, none⟩ ∧ X' = some ⟨p', 0, none⟩ ∧ Y' = some ⟨q', 0, none⟩ ∧ SG _ p x1 ∧ SG _ q y1 ∧ SG _ p' x2 ∧ SG _ q' y2 ∧ w.heap.size ≤ p ∧ w.heap.size ≤ q ∧ w.heap.size ≤ p' ∧ w.heap.size ≤ q')) := ⟨B6, fun hA hB => by
    obtain ⟨p, q, p', q', e1, e2, e3, e4, s1, s2, s3, s4, g1, g2, g3, g4⟩ := H3.out hA hB
    have up : ∀ r z, w0.heap.size ≤ r → SG w4 r z → SG ((((w5.setCell ⟨w.heap.size + 1 + 1, 0, none⟩ (.pointer X)).setCell ⟨w.heap.size + 1 + 1, 1, none⟩ (.pointer Y)).setCell ⟨w.heap.size + 1 + 1 + 1, 0, none⟩ (.pointer X')).setCell ⟨w.heap.size + 1 + 1 + 1, 1, none⟩ (.pointer Y')) r z := fun r z hr h => ((h.below bd' h.lt).tn tn5 (by simp; omega)).tn tn6 (by simp; omega)
    exact ⟨p, q, p', q', e1, e2, e3, e4, up _ _ g1 s1, up _ _ g2 s2, up _ _ g3 s3, up _ _ g4 s4, by omega, by omega, by omega, by omega⟩⟩
  have r0 := R4.c0
  have r1 := R4.c1
  have r2 := R4.f0
  have r3 := R4.f1
  have q0 := Q5.c0
  have q1 := Q5.c1
  have q2 := Q5.f0
  have q3 := Q5.f1
  refine takeH 0 (some 21) (.agg #[.pointer X, .pointer Y]) rfl rfl (by kernel_rfl) (by kernel_rfl) (by kernel_rfl) (fun _ _ _ h => h) (Or.inl ⟨rfl, fun W hW => by obtain ⟨_c, _d, _, _⟩ := hW; go_simp⟩) (by assumption) ?_
  simp only [Act.put, List.setIfInBounds_toArray, List.set_cons_zero, List.set_cons_succ]
  refine takeH 1 (some 22) (.agg #[.pointer X', .pointer Y']) rfl rfl (by kernel_rfl) (by kernel_rfl) (by kernel_rfl) (fun _ _ _ h => h) (Or.inl ⟨rfl, fun W hW => by obtain ⟨_, _, _c, _d⟩ := hW; go_simp⟩) (by assumption) ?_
  simp only [Act.put, List.setIfInBounds_toArray, List.set_cons_zero, List.set_cons_succ]
  refine takeH 2 (some 23) (.bool o1) rfl rfl (by kernel_rfl) (by kernel_rfl) (by kernel_rfl) (fun _ _ _ h => h) (yg_move rfl (.tmp 8) rfl _ rfl) (by assumption) ?_
  simp only [Act.put, List.setIfInBounds_toArray, List.set_cons_zero, List.set_cons_succ]
  refine takeH 3 (some 24) (.bool o1) rfl rfl (by kernel_rfl) (by kernel_rfl) (by kernel_rfl) (fun _ _ _ h => h) (yg_move rfl (.tmp 23) rfl _ rfl) (by assumption) ?_
  simp only [Act.put, List.setIfInBounds_toArray, List.set_cons_zero, List.set_cons_succ]
  cases o1
  · skip
    refine takeH 4 (some 25) (undef) rfl rfl (by kernel_rfl) (by kernel_rfl) (by kernel_rfl) (fun _ _ _ h => h) (yg_skip rfl) (by assumption) ?_
    simp only [Act.put, List.setIfInBounds_toArray, List.set_cons_zero, List.set_cons_succ]
    refine takeH 5 (some 26) (.bool false) rfl rfl (by kernel_rfl) (by kernel_rfl) (by kernel_rfl) (fun _ _ _ h => h) (yg_pick rfl (.tmp 24) (.tmp 25) (.const (.bool false)) rfl false rfl _ rfl) (by assumption) ?_
    simp only [Act.put, List.setIfInBounds_toArray, List.set_cons_zero, List.set_cons_succ]
    refine oneH 6 rfl (by kernel_rfl) (fun K' hK => ?_)
    go_simp
    refine hK _ _ ⟨E5.c0, E5.c1, G5.c0, G5.c1⟩ ?_
    clear hK
    refine oneH 7 rfl (by kernel_rfl) (fun K' hK => ?_)
    go_simp
    refine hK _ _ ⟨E6.c0, E6.c1, G6.c0, G6.c1⟩ ?_
    clear hK
    refine takeH 8 (some 6) (.bool false) rfl rfl (by kernel_rfl) (by kernel_rfl) (by kernel_rfl) (fun _ _ _ h => h) (yg_assign rfl (.tmp 26) rfl _ rfl) ⟨E6.c0, E6.c1, G6.c0, G6.c1⟩ ?_
    simp only [Act.put, List.setIfInBounds_toArray, List.set_cons_zero, List.set_cons_succ]
    refine wpAnyH_done (by kernel_rfl) ?_ _
    clear hHeld R3 Q3 E3 G3 B3 bd' R4 Q4 E4 G4 B4 tn5 E5 G5 Q5 B5 tn6 E6 G6 B6 H3
    have hn1 : ¬ (w.heap.size + 1 + 1 = w.heap.size + 1 + 1 + 1) := by omega
    have hn2 : ¬ (w.heap.size + 1 + 1 + 1 = w.heap.size + 1 + 1) := by omega
    go_wp2
    (try simp only [Exit.inBlock, Exit.then])
    refine bodyPost_ret (v := .tuple #[.agg #[.pointer X, .pointer Y], .agg #[.pointer X', .pointer Y'], .bool false]) ?_ rfl (HT.out X Y X' Y' _ HF.out.1 HF.out.2)
    rw [results_cell2_tmp rfl]
    go_simp
  · skip
    refine takeH 4 (some 25) (.bool o2) rfl rfl (by kernel_rfl) (by kernel_rfl) (by kernel_rfl) (fun _ _ _ h => h) (yg_move rfl (.tmp 10) rfl _ rfl) (by assumption) ?_
    simp only [Act.put, List.setIfInBounds_toArray, List.set_cons_zero, List.set_cons_succ]
    refine takeH 5 (some 26) (.bool o2) rfl rfl (by kernel_rfl) (by kernel_rfl) (by kernel_rfl) (fun _ _ _ h => h) (yg_pick rfl (.tmp 24) (.tmp 25) (.const (.bool false)) rfl true rfl _ rfl) (by assumption) ?_
    simp only [Act.put, List.setIfInBounds_toArray, List.set_cons_zero, List.set_cons_succ]
    refine oneH 6 rfl (by kernel_rfl) (fun K' hK => ?_)
    go_simp
    refine hK _ _ ⟨E5.c0, E5.c1, G5.c0, G5.c1⟩ ?_
    clear hK
    refine oneH 7 rfl (by kernel_rfl) (fun K' hK => ?_)
    go_simp
    refine hK _ _ ⟨E6.c0, E6.c1, G6.c0, G6.c1⟩ ?_
    clear hK
    refine takeH 8 (some 6) (.bool o2) rfl rfl (by kernel_rfl) (by kernel_rfl) (by kernel_rfl) (fun _ _ _ h => h) (yg_assign rfl (.tmp 26) rfl _ rfl) ⟨E6.c0, E6.c1, G6.c0, G6.c1⟩ ?_
    simp only [Act.put, List.setIfInBounds_toArray, List.set_cons_zero, List.set_cons_succ]
    refine wpAnyH_done (by kernel_rfl) ?_ _
    clear hHeld R3 Q3 E3 G3 B3 bd' R4 Q4 E4 G4 B4 tn5 E5 G5 Q5 B5 tn6 E6 G6 B6 H3
    have hn1 : ¬ (w.heap.size + 1 + 1 = w.heap.size + 1 + 1 + 1) := by omega
    have hn2 : ¬ (w.heap.size + 1 + 1 + 1 = w.heap.size + 1 + 1) := by omega
    go_wp2
    (try simp only [Exit.inBlock, Exit.then])
    refine bodyPost_ret (v := .tuple #[.agg #[.pointer X, .pointer Y], .agg #[.pointer X', .pointer Y'], .bool o2]) ?_ rfl (HT.out X Y X' Y' _ HF.out.1 HF.out.2)
    rw [results_cell2_tmp rfl]
    go_simp

end Go.Proofs.Ytmbmnfphgcjhdaa

/- The program's ivFrom, by its contract. -/
namespace Go.Proofs.Ytmbmnfphgcjhdaa
open Go.RowKit
set_option linter.unusedSimpArgs false

/-- What fits is answered, else nothing and no. -/
def fitV (x y : Int) : Vh × Bool := if (fitW x).2 = true ∧ (fitW y).2 = true then (((fitW x).1, (fitW y).1), true) else (((false, []), (false, [])), false)
theorem fitV_len (x y : Int) : (fitV x y).1.1.2.length ≤ 1048576 ∧ (fitV x y).1.2.2.length ≤ 1048576 := by
  unfold fitV
  split
  · exact ⟨fitW_len x, fitW_len y⟩
  · simp

set_option maxRecDepth 20000 in
set_option maxHeartbeats 6400000 in
theorem ivFrom_c (p q : Nat) (x y : Int) (w : World) (hp : SG w p x) (hq : SG w q y) :
    Calls Try.prog 47 #[.agg #[.pointer (some ⟨p, 0, none⟩), .pointer (some ⟨q, 0, none⟩)]] w fun e w' => ∃ v, e = .returned (.tuple #[v, .bool (fitV x y).2]) ∧ ownsV w' w.heap.size v (fitV x y).1 ∧ Below w.heap.size w w' := by
  have kA := fun W (h : Below w.heap.size w W) => sWhole p x W (hp.below h hp.lt)
  have kB := fun W (h : Below w.heap.size w W) => sWhole q y W (hq.below h hq.lt)
  have HF : Hid (fitV x y = if (fitW x).2 = true ∧ (fitW y).2 = true then (((fitW x).1, (fitW y).1), true) else (((false, []), (false, [])), false)) := rfl
  obtain ⟨fv, hfv⟩ : ∃ f, fitV x y = f := ⟨_, rfl⟩
  rw [hfv] at HF
  rw [hfv]
  obtain ⟨⟨⟨ga, la⟩, oa⟩, hfa⟩ : ∃ f, fitW x = f := ⟨_, rfl⟩
  obtain ⟨⟨⟨gb, lb⟩, ob⟩, hfb⟩ : ∃ f, fitW y = f := ⟨_, rfl⟩
  rw [hfa] at kA HF
  rw [hfb] at kB HF
  clear hp hq hfv hfa hfb
  have s1 : (w.alloc (.cells #[.pointer (some ⟨p, 0, none⟩), .pointer (some ⟨q, 0, none⟩)] 75)).heap.size = w.heap.size + 1 := by simp
  have X0 := (BoxW.made w (.pointer (some ⟨p, 0, none⟩)) (.pointer (some ⟨q, 0, none⟩)) 75).below (below1 _ (.cells #[.bool false, .slice none 0 0, .bool false, .slice none 0 0] 28)) (Nat.le_refl _)
  have R0 := BoxV.made (w.alloc (.cells #[.pointer (some ⟨p, 0, none⟩), .pointer (some ⟨q, 0, none⟩)] 75)) (.bool false) (.slice none 0 0) (.bool false) (.slice none 0 0) 28
  rw [s1] at R0
  have B0 := below2 w (.cells #[.pointer (some ⟨p, 0, none⟩), .pointer (some ⟨q, 0, none⟩)] 75) (.cells #[.bool false, .slice none 0 0, .bool false, .slice none 0 0] 28)
  clear s1
  go_enter Try.func47, Try.ntmps47
  go_wp2_with fail
  refine (kA _ B0).mono ?_
  generalize (w.alloc (.cells #[.pointer (some ⟨p, 0, none⟩), .pointer (some ⟨q, 0, none⟩)] 75)).alloc (.cells #[.bool false, .slice none 0 0, .bool false, .slice none 0 0] 28) = w0 at *
  rintro e w1 ⟨v1, rfl, o1, b1⟩
  obtain ⟨sa, rfl, q1⟩ := o1
  obtain ⟨ad, cp, rfl, -⟩ := q1.row
  have q1' : ownsI w1 w0.heap.size (.slice ad la.length cp) la := q1
  have hR0 := R0.hi
  have bA := below1 w1 (.cells #[.bool ga, .slice ad la.length cp] 26)
  have X1 := (X0.below b1 (Nat.le_refl _)).below bA (Nat.le_refl _)
  have R1 := (R0.below b1 (Nat.le_refl _)).below bA (Nat.le_refl _)
  have E1 := BoxW.made w1 (.bool ga) (.slice ad la.length cp) 26
  have B1 := (B0.trans (b1.mono B0.size)).trans (bA.mono (B0.trans (b1.mono B0.size)).size)
  have q2 := ownsI.below q1' bA (Nat.le_refl _)
  have hw01 := b1.size
  clear q1 q1' b1 X0 R0 kA bA
  have c0 := X1.c0
  have c1 := X1.c1
  go_wp2_with fail
  clear c0 c1
  refine (kB _ B1).mono ?_
  generalize w1.alloc (.cells #[.bool ga, .slice ad la.length cp] 26) = w2 at *
  generalize w1.heap.size = f4 at *
  rintro e w3 ⟨v3, rfl, o3, b3⟩
  obtain ⟨sb, rfl, q3⟩ := o3
  obtain ⟨ae, cq, rfl, -⟩ := q3.row
  have q3' : ownsI w3 w2.heap.size (.slice ae lb.length cq) lb := q3
  have hE1 := E1.hi
  have hR1 := R1.hi
  have bB := below1 w3 (.cells #[.bool gb, .slice ae lb.length cq] 26)
  have R3 := (R1.below b3 (Nat.le_refl _)).below bB (Nat.le_refl _)
  have E3 := (E1.below b3 (Nat.le_refl _)).below bB (Nat.le_refl _)
  have G3 := BoxW.made w3 (.bool gb) (.slice ae lb.length cq) 26
  have B3 := (B1.trans (b3.mono B1.size)).trans (bB.mono (B1.trans (b3.mono B1.size)).size)
  have z2 := ownsI.below (ownsI.below q2 b3 (Nat.le_refl _)) bB (Nat.le_refl _)
  have z3 := ownsI.below q3' bB (Nat.le_refl _)
  have hap : Apart (blkI (.slice ad la.length cp)) (blkI (.slice ae lb.length cq)) := apart_of (fun k hk => (q2.ltb k hk).2) (fun k hk => (q3'.ltb k hk).1)
  have hw23 := b3.size
  clear q2 q3 q3' b3 X1 R1 E1 B1 kB bB
  have e0 := E3.c0
  have e1 := E3.c1
  have g0 := G3.c0
  have g1 := G3.c1
  have r0 := R3.c0
  have r1 := R3.c1
  have r2 := R3.c2
  have r3 := R3.c3
  have t0 := R3.f0
  have t1 := R3.f1
  have t2 := R3.f2
  have t3 := R3.f3
  by_cases hok : oa = true ∧ ob = true
  · obtain ⟨rfl, rfl⟩ := hok
    have HV : Hid (fv = (((ga, la), (gb, lb)), true)) := by show _ = _; rw [HF.out]; simp
    have HA : Hid (ownsI _ w0.heap.size (.slice ad la.length cp) la) := (((z2.other (w.heap.size + 1) 0 (by omega) (.bool ga)).other (w.heap.size + 1) 1 (by omega) (.slice ad la.length cp)).other (w.heap.size + 1) 2 (by omega) (.bool gb)).other (w.heap.size + 1) 3 (by omega) (.slice ae lb.length cq)
    have HZ : Hid (ownsI _ w2.heap.size (.slice ae lb.length cq) lb) := (((z3.other (w.heap.size + 1) 0 (by omega) (.bool ga)).other (w.heap.size + 1) 1 (by omega) (.slice ad la.length cp)).other (w.heap.size + 1) 2 (by omega) (.bool gb)).other (w.heap.size + 1) 3 (by omega) (.slice ae lb.length cq)
    have HB : Hid (Below w.heap.size w _) := (((B3.setCell (p := ⟨w.heap.size + 1, 0, none⟩) (by show w.heap.size ≤ w.heap.size + 1; omega) (.bool ga)).setCell (p := ⟨w.heap.size + 1, 1, none⟩) (by show w.heap.size ≤ w.heap.size + 1; omega) (.slice ad la.length cp)).setCell (p := ⟨w.heap.size + 1, 2, none⟩) (by show w.heap.size ≤ w.heap.size + 1; omega) (.bool gb)).setCell (p := ⟨w.heap.size + 1, 3, none⟩) (by show w.heap.size ≤ w.heap.size + 1; omega) (.slice ae lb.length cq)
    have HP : Hid (Apart (blkI (.slice ad la.length cp)) (blkI (.slice ae lb.length cq))) := hap
    have hb2 : w.heap.size ≤ w2.heap.size := by omega
    have hb0 : w.heap.size ≤ w0.heap.size := by omega
    clear z2 z3 R3 E3 G3 B3 hap HF
    go_wp2
    (try simp only [Exit.inBlock, Exit.then])
    refine bodyPost_ret (v := .tuple #[.agg #[.bool ga, .slice ad la.length cp, .bool gb, .slice ae lb.length cq], .bool true]) ?_ rfl ⟨_, by rw [HV.out], by rw [HV.out]; exact ⟨_, _, rfl, ownsI_mono HA.out hb0, ownsI_mono HZ.out hb2, HP.out⟩, HB.out⟩
    rw [results_cell_tmp rfl]
    go_simp
  · have HV : Hid (fv = (((false, []), (false, [])), false)) := by show _ = _; rw [HF.out, if_neg hok]
    have HB : Hid (Below w.heap.size w _) := (((B3.setCell (p := ⟨w.heap.size + 1, 0, none⟩) (by show w.heap.size ≤ w.heap.size + 1; omega) (.bool false)).setCell (p := ⟨w.heap.size + 1, 1, none⟩) (by show w.heap.size ≤ w.heap.size + 1; omega) (.slice none 0 0)).setCell (p := ⟨w.heap.size + 1, 2, none⟩) (by show w.heap.size ≤ w.heap.size + 1; omega) (.bool false)).setCell (p := ⟨w.heap.size + 1, 3, none⟩) (by show w.heap.size ≤ w.heap.size + 1; omega) (.slice none 0 0)
    clear z2 z3 R3 E3 G3 B3 hap HF
    cases oa
    · clear hok
      go_wp2
      (try simp only [Exit.inBlock, Exit.then])
      refine bodyPost_ret (v := .tuple #[.agg #[.bool false, .slice none 0 0, .bool false, .slice none 0 0], .bool false]) ?_ rfl ⟨_, by rw [HV.out], by rw [HV.out]; exact nilV _ _, HB.out⟩
      rw [results_cell_tmp rfl]
      go_simp
    · cases ob
      · clear hok
        go_wp2
        (try simp only [Exit.inBlock, Exit.then])
        refine bodyPost_ret (v := .tuple #[.agg #[.bool false, .slice none 0 0, .bool false, .slice none 0 0], .bool false]) ?_ rfl ⟨_, by rw [HV.out], by rw [HV.out]; exact nilV _ _, HB.out⟩
        rw [results_cell_tmp rfl]
        go_simp
      · exact absurd ⟨rfl, rfl⟩ hok

end Go.Proofs.Ytmbmnfphgcjhdaa

/- The program's spans made of spans: alone, addSpans, subSpans, negSpan, widerSpan, each by its contract. -/
namespace Go.Proofs.Ytmbmnfphgcjhdaa
open Go.RowKit
set_option linter.unusedSimpArgs false

/-- A span whose ends are these two. -/
def spanE (x y : Int) (w : World) (e : Ending) (w' : World) : Prop := ∃ c d : Nat, e = .returned (.agg #[.pointer (some ⟨c, 0, none⟩), .pointer (some ⟨d, 0, none⟩)]) ∧ SG w' c x ∧ SG w' d y ∧ Below w.heap.size w w'

set_option maxRecDepth 20000 in
set_option maxHeartbeats 1600000 in
theorem alone_c (p : Nat) (x : Int) (w : World) (sp : SG w p x) :
    Calls Try.prog 48 #[.pointer (some ⟨p, 0, none⟩)] w (spanE x x w) := by
  unfold spanE
  have hlt := sp.lt
  have HB : Hid (Below w.heap.size w _) := below1 w (.cells #[.pointer (some ⟨p, 0, none⟩), .pointer (some ⟨p, 0, none⟩)] 75)
  have HS : Hid (SG _ p x) := sp.below (below1 w (.cells #[.pointer (some ⟨p, 0, none⟩), .pointer (some ⟨p, 0, none⟩)] 75)) sp.lt
  clear sp
  go_enter Try.func48, Try.ntmps48
  go_wp2
  (try simp only [Exit.inBlock, Exit.then])
  refine bodyPost_ret (v := .agg #[.pointer (some ⟨p, 0, none⟩), .pointer (some ⟨p, 0, none⟩)]) ?_ rfl ⟨_, _, rfl, HS.out, HS.out, HB.out⟩
  rw [results_cell1 rfl]
  go_simp


set_option maxRecDepth 20000 in
set_option maxHeartbeats 6400000 in
theorem addSpans_c (p q r s : Nat) (x1 y1 x2 y2 : Int) (w : World) (sp : SG w p x1) (sq : SG w q y1) (sr : SG w r x2) (ss : SG w s y2) (m1 : (limbs x1.natAbs).length ≤ 97) (m2 : (limbs y1.natAbs).length ≤ 97) (m3 : (limbs x2.natAbs).length ≤ 97) (m4 : (limbs y2.natAbs).length ≤ 97) :
    Calls Try.prog 56 #[.agg #[.pointer (some ⟨p, 0, none⟩), .pointer (some ⟨q, 0, none⟩)], .agg #[.pointer (some ⟨r, 0, none⟩), .pointer (some ⟨s, 0, none⟩)]] w (spanE (x1 + x2) (y1 + y2) w) := by
  have kS := fun W h1 h2 => sgPlus p r x1 x2 W h1 h2 m1 m3
  have kP := fun W h1 h2 => sgPlus q s y1 y2 W h1 h2 m2 m4
  unfold spanE
  clear m1 m2 m3 m4
  generalize x1 + x2 = d1 at *
  generalize y1 + y2 = d2 at *
  have s1 : (w.alloc (.cells #[.pointer (some ⟨p, 0, none⟩), .pointer (some ⟨q, 0, none⟩)] 75)).heap.size = w.heap.size + 1 := by simp
  have s2 : ((w.alloc (.cells #[.pointer (some ⟨p, 0, none⟩), .pointer (some ⟨q, 0, none⟩)] 75)).alloc (.cells #[.pointer (some ⟨r, 0, none⟩), .pointer (some ⟨s, 0, none⟩)] 75)).heap.size = w.heap.size + 1 + 1 := by simp
  have E0 := (((BoxW.made w (.pointer (some ⟨p, 0, none⟩)) (.pointer (some ⟨q, 0, none⟩)) 75).below (below1 _ (.cells #[.pointer (some ⟨r, 0, none⟩), .pointer (some ⟨s, 0, none⟩)] 75)) (Nat.le_refl _)).below (below1 _ (.cells #[.pointer none, .pointer none] 75)) (Nat.le_refl _))
  have G0 := ((BoxW.made (w.alloc (.cells #[.pointer (some ⟨p, 0, none⟩), .pointer (some ⟨q, 0, none⟩)] 75)) (.pointer (some ⟨r, 0, none⟩)) (.pointer (some ⟨s, 0, none⟩)) 75).below (below1 _ (.cells #[.pointer none, .pointer none] 75)) (Nat.le_refl _))
  rw [s1] at G0
  have R0 := BoxW.made ((w.alloc (.cells #[.pointer (some ⟨p, 0, none⟩), .pointer (some ⟨q, 0, none⟩)] 75)).alloc (.cells #[.pointer (some ⟨r, 0, none⟩), .pointer (some ⟨s, 0, none⟩)] 75)) (.pointer none) (.pointer none) 75
  rw [s2] at R0
  have B0 := below3 w (.cells #[.pointer (some ⟨p, 0, none⟩), .pointer (some ⟨q, 0, none⟩)] 75) (.cells #[.pointer (some ⟨r, 0, none⟩), .pointer (some ⟨s, 0, none⟩)] 75) (.cells #[.pointer none, .pointer none] 75)
  have sp0 := sp.below B0 sp.lt
  have sq0 := sq.below B0 sq.lt
  have sr0 := sr.below B0 sr.lt
  have ss0 := ss.below B0 ss.lt
  clear s1 s2 sp sq sr ss
  go_enter Try.func56, Try.ntmps56
  go_wp2_with fail
  generalize ((w.alloc (.cells #[.pointer (some ⟨p, 0, none⟩), .pointer (some ⟨q, 0, none⟩)] 75)).alloc (.cells #[.pointer (some ⟨r, 0, none⟩), .pointer (some ⟨s, 0, none⟩)] 75)).alloc (.cells #[.pointer none, .pointer none] 75) = w0 at *
  have bd' := (Below.refl w0.heap.size w0).drew
  have E3 := E0.below bd' (Nat.le_refl _)
  have G3 := G0.below bd' (Nat.le_refl _)
  have R3 := R0.below bd' (Nat.le_refl _)
  have B3 := B0.trans (bd'.mono B0.size)
  have sp3 := sp0.below bd' sp0.lt
  have sq3 := sq0.below bd' sq0.lt
  have sr3 := sr0.below bd' sr0.lt
  have ss3 := ss0.below bd' ss0.lt
  refine wp_region_held_drew (S := fun W => W.cell? ⟨w.heap.size, 0, none⟩ = some (.pointer (some ⟨p, 0, none⟩)) ∧ W.cell? ⟨w.heap.size, 1, none⟩ = some (.pointer (some ⟨q, 0, none⟩)) ∧ W.cell? ⟨w.heap.size + 1, 0, none⟩ = some (.pointer (some ⟨r, 0, none⟩)) ∧ W.cell? ⟨w.heap.size + 1, 1, none⟩ = some (.pointer (some ⟨s, 0, none⟩))) (by kernel_rfl) ⟨E3.c0, E3.c1, G3.c0, G3.c1⟩ ?_
  intro hHeld
  generalize w0.drew = w3 at *
  refine takeH 0 (some 5) (.pointer (some ⟨w.heap.size, 0, none⟩)) rfl rfl (by kernel_rfl) (by kernel_rfl) (by kernel_rfl) (fun _ _ _ h => h) (Or.inl ⟨rfl, fun W hW => by obtain _ := hW; go_simp⟩) (by assumption) ?_
  simp only [Act.put, List.setIfInBounds_toArray, List.set_cons_zero, List.set_cons_succ]
  refine takeH 1 (some 6) (.pointer (some ⟨p, 0, none⟩)) rfl rfl (by kernel_rfl) (by kernel_rfl) (by kernel_rfl) (fun _ _ _ h => h) (Or.inl ⟨rfl, fun W hW => by obtain ⟨_c, _⟩ := hW; go_simp⟩) (by assumption) ?_
  simp only [Act.put, List.setIfInBounds_toArray, List.set_cons_zero, List.set_cons_succ]
  refine takeH 2 (some 7) (.pointer (some ⟨w.heap.size + 1, 0, none⟩)) rfl rfl (by kernel_rfl) (by kernel_rfl) (by kernel_rfl) (fun _ _ _ h => h) (Or.inl ⟨rfl, fun W hW => by obtain _ := hW; go_simp⟩) (by assumption) ?_
  simp only [Act.put, List.setIfInBounds_toArray, List.set_cons_zero, List.set_cons_succ]
  refine takeH 3 (some 8) (.pointer (some ⟨r, 0, none⟩)) rfl rfl (by kernel_rfl) (by kernel_rfl) (by kernel_rfl) (fun _ _ _ h => h) (Or.inl ⟨rfl, fun W hW => by obtain ⟨_, _, _c, _⟩ := hW; go_simp⟩) (by assumption) ?_
  simp only [Act.put, List.setIfInBounds_toArray, List.set_cons_zero, List.set_cons_succ]
  refine takeH 5 (some 10) (.pointer (some ⟨w.heap.size, 1, none⟩)) rfl rfl (by kernel_rfl) (by kernel_rfl) (by kernel_rfl) (fun _ _ _ h => h) (Or.inl ⟨rfl, fun W hW => by obtain _ := hW; go_simp⟩) (by assumption) ?_
  simp only [Act.put, List.setIfInBounds_toArray, List.set_cons_zero, List.set_cons_succ]
  refine takeH 6 (some 11) (.pointer (some ⟨q, 0, none⟩)) rfl rfl (by kernel_rfl) (by kernel_rfl) (by kernel_rfl) (fun _ _ _ h => h) (Or.inl ⟨rfl, fun W hW => by obtain ⟨_, _c, _⟩ := hW; go_simp⟩) (by assumption) ?_
  simp only [Act.put, List.setIfInBounds_toArray, List.set_cons_zero, List.set_cons_succ]
  refine takeH 7 (some 12) (.pointer (some ⟨w.heap.size + 1, 1, none⟩)) rfl rfl (by kernel_rfl) (by kernel_rfl) (by kernel_rfl) (fun _ _ _ h => h) (Or.inl ⟨rfl, fun W hW => by obtain _ := hW; go_simp⟩) (by assumption) ?_
  simp only [Act.put, List.setIfInBounds_toArray, List.set_cons_zero, List.set_cons_succ]
  refine takeH 8 (some 13) (.pointer (some ⟨s, 0, none⟩)) rfl rfl (by kernel_rfl) (by kernel_rfl) (by kernel_rfl) (fun _ _ _ h => h) (Or.inl ⟨rfl, fun W hW => by obtain ⟨_, _, _, _c⟩ := hW; go_simp⟩) (by assumption) ?_
  simp only [Act.put, List.setIfInBounds_toArray, List.set_cons_zero, List.set_cons_succ]
  refine oneH 4 rfl (by kernel_rfl) (fun K' hK => ?_)
  go_simp
  refine (kS _ sp3 sr3).mono ?_
  rintro e w4 ⟨c, rfl, hc, sc, b4⟩
  have E4 := E3.below b4 (Nat.le_refl _)
  have G4 := G3.below b4 (Nat.le_refl _)
  have R4 := R3.below b4 (Nat.le_refl _)
  have B4 := B3.trans (b4.mono B3.size)
  have sp4 := sp3.below b4 sp3.lt
  have sq4 := sq3.below b4 sq3.lt
  have sr4 := sr3.below b4 sr3.lt
  have ss4 := ss3.below b4 ss3.lt
  refine hK _ _ ⟨E4.c0, E4.c1, G4.c0, G4.c1⟩ ?_
  clear hK
  refine oneH 9 rfl (by kernel_rfl) (fun K' hK => ?_)
  go_simp
  refine (kP _ sq4 ss4).mono ?_
  rintro e w5 ⟨d, rfl, hd, sd, b5⟩
  have E5 := E4.below b5 (Nat.le_refl _)
  have G5 := G4.below b5 (Nat.le_refl _)
  have R5 := R4.below b5 (Nat.le_refl _)
  have B5 := B4.trans (b5.mono B4.size)
  have sp5 := sp4.below b5 sp4.lt
  have sq5 := sq4.below b5 sq4.lt
  have sr5 := sr4.below b5 sr4.lt
  have ss5 := ss4.below b5 ss4.lt
  have sc5 := sc.below b5 sc.lt
  refine hK _ _ ⟨E5.c0, E5.c1, G5.c0, G5.c1⟩ ?_
  clear hK
  have H5 : (fun W => W.cell? ⟨w.heap.size, 0, none⟩ = some (.pointer (some ⟨p, 0, none⟩)) ∧ W.cell? ⟨w.heap.size, 1, none⟩ = some (.pointer (some ⟨q, 0, none⟩)) ∧ W.cell? ⟨w.heap.size + 1, 0, none⟩ = some (.pointer (some ⟨r, 0, none⟩)) ∧ W.cell? ⟨w.heap.size + 1, 1, none⟩ = some (.pointer (some ⟨s, 0, none⟩))) w5 := ⟨E5.c0, E5.c1, G5.c0, G5.c1⟩
  refine takeH 10 (some 15) (.agg #[.pointer (some ⟨c, 0, none⟩), .pointer (some ⟨d, 0, none⟩)]) rfl rfl (by kernel_rfl) (by kernel_rfl) (by kernel_rfl) (fun _ _ _ h => h) (Or.inl ⟨rfl, fun W hW => by obtain _ := hW; go_simp⟩) (by assumption) ?_
  simp only [Act.put, List.setIfInBounds_toArray, List.set_cons_zero, List.set_cons_succ]
  have hR5 := R5.hi
  have hR3 := R3.hi
  have hR4 := R4.hi
  have E7 := E5.tn ((tnC w5 (w.heap.size + 1 + 1) 0 (.pointer (some ⟨c, 0, none⟩))).trans (tnC _ (w.heap.size + 1 + 1) 1 (.pointer (some ⟨d, 0, none⟩)))) (fun k hk hs => by simp at hk hs; omega)
  have G7 := G5.tn ((tnC w5 (w.heap.size + 1 + 1) 0 (.pointer (some ⟨c, 0, none⟩))).trans (tnC _ (w.heap.size + 1 + 1) 1 (.pointer (some ⟨d, 0, none⟩)))) (fun k hk hs => by simp at hk hs; omega)
  have r0 := R5.c0
  have f0 := R5.f0
  have r1 := R5.c1
  have f1 := R5.f1
  refine oneH 11 rfl (by kernel_rfl) (fun K' hK => ?_)
  go_simp
  refine hK _ _ ⟨E7.c0, E7.c1, G7.c0, G7.c1⟩ ?_
  clear hK
  refine wpAnyH_done (by kernel_rfl) ?_ _
  have HC : Hid (SG _ c _) := sc5.tn ((tnC w5 (w.heap.size + 1 + 1) 0 (.pointer (some ⟨c, 0, none⟩))).trans (tnC _ (w.heap.size + 1 + 1) 1 (.pointer (some ⟨d, 0, none⟩)))) (fun h => by simp at h; omega)
  have HD : Hid (SG _ d _) := sd.tn ((tnC w5 (w.heap.size + 1 + 1) 0 (.pointer (some ⟨c, 0, none⟩))).trans (tnC _ (w.heap.size + 1 + 1) 1 (.pointer (some ⟨d, 0, none⟩)))) (fun h => by simp at h; omega)
  have HB : Hid (Below w.heap.size w _) := ((B5.setCell (p := ⟨w.heap.size + 1 + 1, 0, none⟩) (by show w.heap.size ≤ w.heap.size + 1 + 1; omega) (.pointer (some ⟨c, 0, none⟩))).setCell (p := ⟨w.heap.size + 1 + 1, 1, none⟩) (by show w.heap.size ≤ w.heap.size + 1 + 1; omega) (.pointer (some ⟨d, 0, none⟩)))
  clear hHeld H5 E0 E3 E4 E5 G0 G3 G4 G5 R0 R3 R4 R5 E7 G7 B0 B3 B4 B5 b4 b5 bd' sc sc5 sd kS kP sp0 sp3 sp4 sp5 sq0 sq3 sq4 sq5 sr0 sr3 sr4 sr5 ss0 ss3 ss4 ss5
  go_wp2
  (try simp only [Exit.inBlock, Exit.then])
  refine bodyPost_ret (v := .agg #[.pointer (some ⟨c, 0, none⟩), .pointer (some ⟨d, 0, none⟩)]) ?_ rfl ⟨_, _, rfl, HC.out, HD.out, HB.out⟩
  rw [results_cell1 rfl]
  go_simp


set_option maxRecDepth 20000 in
set_option maxHeartbeats 6400000 in
theorem subSpans_c (p q r s : Nat) (x1 y1 x2 y2 : Int) (w : World) (sp : SG w p x1) (sq : SG w q y1) (sr : SG w r x2) (ss : SG w s y2) (m1 : (limbs x1.natAbs).length ≤ 97) (m2 : (limbs y1.natAbs).length ≤ 97) (m3 : (limbs x2.natAbs).length ≤ 97) (m4 : (limbs y2.natAbs).length ≤ 97) :
    Calls Try.prog 58 #[.agg #[.pointer (some ⟨p, 0, none⟩), .pointer (some ⟨q, 0, none⟩)], .agg #[.pointer (some ⟨r, 0, none⟩), .pointer (some ⟨s, 0, none⟩)]] w (spanE (x1 - y2) (y1 - x2) w) := by
  have kS := fun W h1 h2 => sgMinus p s x1 y2 W h1 h2 m1 m4
  have kP := fun W h1 h2 => sgMinus q r y1 x2 W h1 h2 m2 m3
  unfold spanE
  clear m1 m2 m3 m4
  generalize x1 - y2 = d1 at *
  generalize y1 - x2 = d2 at *
  have s1 : (w.alloc (.cells #[.pointer (some ⟨p, 0, none⟩), .pointer (some ⟨q, 0, none⟩)] 75)).heap.size = w.heap.size + 1 := by simp
  have s2 : ((w.alloc (.cells #[.pointer (some ⟨p, 0, none⟩), .pointer (some ⟨q, 0, none⟩)] 75)).alloc (.cells #[.pointer (some ⟨r, 0, none⟩), .pointer (some ⟨s, 0, none⟩)] 75)).heap.size = w.heap.size + 1 + 1 := by simp
  have E0 := (((BoxW.made w (.pointer (some ⟨p, 0, none⟩)) (.pointer (some ⟨q, 0, none⟩)) 75).below (below1 _ (.cells #[.pointer (some ⟨r, 0, none⟩), .pointer (some ⟨s, 0, none⟩)] 75)) (Nat.le_refl _)).below (below1 _ (.cells #[.pointer none, .pointer none] 75)) (Nat.le_refl _))
  have G0 := ((BoxW.made (w.alloc (.cells #[.pointer (some ⟨p, 0, none⟩), .pointer (some ⟨q, 0, none⟩)] 75)) (.pointer (some ⟨r, 0, none⟩)) (.pointer (some ⟨s, 0, none⟩)) 75).below (below1 _ (.cells #[.pointer none, .pointer none] 75)) (Nat.le_refl _))
  rw [s1] at G0
  have R0 := BoxW.made ((w.alloc (.cells #[.pointer (some ⟨p, 0, none⟩), .pointer (some ⟨q, 0, none⟩)] 75)).alloc (.cells #[.pointer (some ⟨r, 0, none⟩), .pointer (some ⟨s, 0, none⟩)] 75)) (.pointer none) (.pointer none) 75
  rw [s2] at R0
  have B0 := below3 w (.cells #[.pointer (some ⟨p, 0, none⟩), .pointer (some ⟨q, 0, none⟩)] 75) (.cells #[.pointer (some ⟨r, 0, none⟩), .pointer (some ⟨s, 0, none⟩)] 75) (.cells #[.pointer none, .pointer none] 75)
  have sp0 := sp.below B0 sp.lt
  have sq0 := sq.below B0 sq.lt
  have sr0 := sr.below B0 sr.lt
  have ss0 := ss.below B0 ss.lt
  clear s1 s2 sp sq sr ss
  go_enter Try.func58, Try.ntmps58
  go_wp2_with fail
  generalize ((w.alloc (.cells #[.pointer (some ⟨p, 0, none⟩), .pointer (some ⟨q, 0, none⟩)] 75)).alloc (.cells #[.pointer (some ⟨r, 0, none⟩), .pointer (some ⟨s, 0, none⟩)] 75)).alloc (.cells #[.pointer none, .pointer none] 75) = w0 at *
  have bd' := (Below.refl w0.heap.size w0).drew
  have E3 := E0.below bd' (Nat.le_refl _)
  have G3 := G0.below bd' (Nat.le_refl _)
  have R3 := R0.below bd' (Nat.le_refl _)
  have B3 := B0.trans (bd'.mono B0.size)
  have sp3 := sp0.below bd' sp0.lt
  have sq3 := sq0.below bd' sq0.lt
  have sr3 := sr0.below bd' sr0.lt
  have ss3 := ss0.below bd' ss0.lt
  refine wp_region_held_drew (S := fun W => W.cell? ⟨w.heap.size, 0, none⟩ = some (.pointer (some ⟨p, 0, none⟩)) ∧ W.cell? ⟨w.heap.size, 1, none⟩ = some (.pointer (some ⟨q, 0, none⟩)) ∧ W.cell? ⟨w.heap.size + 1, 0, none⟩ = some (.pointer (some ⟨r, 0, none⟩)) ∧ W.cell? ⟨w.heap.size + 1, 1, none⟩ = some (.pointer (some ⟨s, 0, none⟩))) (by kernel_rfl) ⟨E3.c0, E3.c1, G3.c0, G3.c1⟩ ?_
  intro hHeld
  generalize w0.drew = w3 at *
  refine takeH 0 (some 5) (.pointer (some ⟨w.heap.size, 0, none⟩)) rfl rfl (by kernel_rfl) (by kernel_rfl) (by kernel_rfl) (fun _ _ _ h => h) (Or.inl ⟨rfl, fun W hW => by obtain _ := hW; go_simp⟩) (by assumption) ?_
  simp only [Act.put, List.setIfInBounds_toArray, List.set_cons_zero, List.set_cons_succ]
  refine takeH 1 (some 6) (.pointer (some ⟨p, 0, none⟩)) rfl rfl (by kernel_rfl) (by kernel_rfl) (by kernel_rfl) (fun _ _ _ h => h) (Or.inl ⟨rfl, fun W hW => by obtain ⟨_c, _⟩ := hW; go_simp⟩) (by assumption) ?_
  simp only [Act.put, List.setIfInBounds_toArray, List.set_cons_zero, List.set_cons_succ]
  refine takeH 2 (some 7) (.pointer (some ⟨w.heap.size + 1, 1, none⟩)) rfl rfl (by kernel_rfl) (by kernel_rfl) (by kernel_rfl) (fun _ _ _ h => h) (Or.inl ⟨rfl, fun W hW => by obtain _ := hW; go_simp⟩) (by assumption) ?_
  simp only [Act.put, List.setIfInBounds_toArray, List.set_cons_zero, List.set_cons_succ]
  refine takeH 3 (some 8) (.pointer (some ⟨s, 0, none⟩)) rfl rfl (by kernel_rfl) (by kernel_rfl) (by kernel_rfl) (fun _ _ _ h => h) (Or.inl ⟨rfl, fun W hW => by obtain ⟨_, _, _, _c⟩ := hW; go_simp⟩) (by assumption) ?_
  simp only [Act.put, List.setIfInBounds_toArray, List.set_cons_zero, List.set_cons_succ]
  refine takeH 5 (some 10) (.pointer (some ⟨w.heap.size, 1, none⟩)) rfl rfl (by kernel_rfl) (by kernel_rfl) (by kernel_rfl) (fun _ _ _ h => h) (Or.inl ⟨rfl, fun W hW => by obtain _ := hW; go_simp⟩) (by assumption) ?_
  simp only [Act.put, List.setIfInBounds_toArray, List.set_cons_zero, List.set_cons_succ]
  refine takeH 6 (some 11) (.pointer (some ⟨q, 0, none⟩)) rfl rfl (by kernel_rfl) (by kernel_rfl) (by kernel_rfl) (fun _ _ _ h => h) (Or.inl ⟨rfl, fun W hW => by obtain ⟨_, _c, _⟩ := hW; go_simp⟩) (by assumption) ?_
  simp only [Act.put, List.setIfInBounds_toArray, List.set_cons_zero, List.set_cons_succ]
  refine takeH 7 (some 12) (.pointer (some ⟨w.heap.size + 1, 0, none⟩)) rfl rfl (by kernel_rfl) (by kernel_rfl) (by kernel_rfl) (fun _ _ _ h => h) (Or.inl ⟨rfl, fun W hW => by obtain _ := hW; go_simp⟩) (by assumption) ?_
  simp only [Act.put, List.setIfInBounds_toArray, List.set_cons_zero, List.set_cons_succ]
  refine takeH 8 (some 13) (.pointer (some ⟨r, 0, none⟩)) rfl rfl (by kernel_rfl) (by kernel_rfl) (by kernel_rfl) (fun _ _ _ h => h) (Or.inl ⟨rfl, fun W hW => by obtain ⟨_, _, _c, _⟩ := hW; go_simp⟩) (by assumption) ?_
  simp only [Act.put, List.setIfInBounds_toArray, List.set_cons_zero, List.set_cons_succ]
  refine oneH 4 rfl (by kernel_rfl) (fun K' hK => ?_)
  go_simp
  refine (kS _ sp3 ss3).mono ?_
  rintro e w4 ⟨c, rfl, hc, sc, b4⟩
  have E4 := E3.below b4 (Nat.le_refl _)
  have G4 := G3.below b4 (Nat.le_refl _)
  have R4 := R3.below b4 (Nat.le_refl _)
  have B4 := B3.trans (b4.mono B3.size)
  have sp4 := sp3.below b4 sp3.lt
  have sq4 := sq3.below b4 sq3.lt
  have sr4 := sr3.below b4 sr3.lt
  have ss4 := ss3.below b4 ss3.lt
  refine hK _ _ ⟨E4.c0, E4.c1, G4.c0, G4.c1⟩ ?_
  clear hK
  refine oneH 9 rfl (by kernel_rfl) (fun K' hK => ?_)
  go_simp
  refine (kP _ sq4 sr4).mono ?_
  rintro e w5 ⟨d, rfl, hd, sd, b5⟩
  have E5 := E4.below b5 (Nat.le_refl _)
  have G5 := G4.below b5 (Nat.le_refl _)
  have R5 := R4.below b5 (Nat.le_refl _)
  have B5 := B4.trans (b5.mono B4.size)
  have sp5 := sp4.below b5 sp4.lt
  have sq5 := sq4.below b5 sq4.lt
  have sr5 := sr4.below b5 sr4.lt
  have ss5 := ss4.below b5 ss4.lt
  have sc5 := sc.below b5 sc.lt
  refine hK _ _ ⟨E5.c0, E5.c1, G5.c0, G5.c1⟩ ?_
  clear hK
  have H5 : (fun W => W.cell? ⟨w.heap.size, 0, none⟩ = some (.pointer (some ⟨p, 0, none⟩)) ∧ W.cell? ⟨w.heap.size, 1, none⟩ = some (.pointer (some ⟨q, 0, none⟩)) ∧ W.cell? ⟨w.heap.size + 1, 0, none⟩ = some (.pointer (some ⟨r, 0, none⟩)) ∧ W.cell? ⟨w.heap.size + 1, 1, none⟩ = some (.pointer (some ⟨s, 0, none⟩))) w5 := ⟨E5.c0, E5.c1, G5.c0, G5.c1⟩
  refine takeH 10 (some 15) (.agg #[.pointer (some ⟨c, 0, none⟩), .pointer (some ⟨d, 0, none⟩)]) rfl rfl (by kernel_rfl) (by kernel_rfl) (by kernel_rfl) (fun _ _ _ h => h) (Or.inl ⟨rfl, fun W hW => by obtain _ := hW; go_simp⟩) (by assumption) ?_
  simp only [Act.put, List.setIfInBounds_toArray, List.set_cons_zero, List.set_cons_succ]
  have hR5 := R5.hi
  have hR3 := R3.hi
  have hR4 := R4.hi
  have E7 := E5.tn ((tnC w5 (w.heap.size + 1 + 1) 0 (.pointer (some ⟨c, 0, none⟩))).trans (tnC _ (w.heap.size + 1 + 1) 1 (.pointer (some ⟨d, 0, none⟩)))) (fun k hk hs => by simp at hk hs; omega)
  have G7 := G5.tn ((tnC w5 (w.heap.size + 1 + 1) 0 (.pointer (some ⟨c, 0, none⟩))).trans (tnC _ (w.heap.size + 1 + 1) 1 (.pointer (some ⟨d, 0, none⟩)))) (fun k hk hs => by simp at hk hs; omega)
  have r0 := R5.c0
  have f0 := R5.f0
  have r1 := R5.c1
  have f1 := R5.f1
  refine oneH 11 rfl (by kernel_rfl) (fun K' hK => ?_)
  go_simp
  refine hK _ _ ⟨E7.c0, E7.c1, G7.c0, G7.c1⟩ ?_
  clear hK
  refine wpAnyH_done (by kernel_rfl) ?_ _
  have HC : Hid (SG _ c _) := sc5.tn ((tnC w5 (w.heap.size + 1 + 1) 0 (.pointer (some ⟨c, 0, none⟩))).trans (tnC _ (w.heap.size + 1 + 1) 1 (.pointer (some ⟨d, 0, none⟩)))) (fun h => by simp at h; omega)
  have HD : Hid (SG _ d _) := sd.tn ((tnC w5 (w.heap.size + 1 + 1) 0 (.pointer (some ⟨c, 0, none⟩))).trans (tnC _ (w.heap.size + 1 + 1) 1 (.pointer (some ⟨d, 0, none⟩)))) (fun h => by simp at h; omega)
  have HB : Hid (Below w.heap.size w _) := ((B5.setCell (p := ⟨w.heap.size + 1 + 1, 0, none⟩) (by show w.heap.size ≤ w.heap.size + 1 + 1; omega) (.pointer (some ⟨c, 0, none⟩))).setCell (p := ⟨w.heap.size + 1 + 1, 1, none⟩) (by show w.heap.size ≤ w.heap.size + 1 + 1; omega) (.pointer (some ⟨d, 0, none⟩)))
  clear hHeld H5 E0 E3 E4 E5 G0 G3 G4 G5 R0 R3 R4 R5 E7 G7 B0 B3 B4 B5 b4 b5 bd' sc sc5 sd kS kP sp0 sp3 sp4 sp5 sq0 sq3 sq4 sq5 sr0 sr3 sr4 sr5 ss0 ss3 ss4 ss5
  go_wp2
  (try simp only [Exit.inBlock, Exit.then])
  refine bodyPost_ret (v := .agg #[.pointer (some ⟨c, 0, none⟩), .pointer (some ⟨d, 0, none⟩)]) ?_ rfl ⟨_, _, rfl, HC.out, HD.out, HB.out⟩
  rw [results_cell1 rfl]
  go_simp


set_option maxRecDepth 20000 in
set_option maxHeartbeats 6400000 in
theorem negSpan_c (p q : Nat) (x y : Int) (w : World) (sp : SG w p x) (sq : SG w q y) :
    Calls Try.prog 61 #[.agg #[.pointer (some ⟨p, 0, none⟩), .pointer (some ⟨q, 0, none⟩)]] w (spanE (-y) (-x) w) := by
  have kS := fun W h1 => sNegated q y W h1
  have kP := fun W h1 => sNegated p x W h1
  unfold spanE
  generalize -x = d1 at *
  generalize -y = d2 at *
  have s1 : (w.alloc (.cells #[.pointer (some ⟨p, 0, none⟩), .pointer (some ⟨q, 0, none⟩)] 75)).heap.size = w.heap.size + 1 := by simp
  have E0 := ((BoxW.made w (.pointer (some ⟨p, 0, none⟩)) (.pointer (some ⟨q, 0, none⟩)) 75).below (below1 _ (.cells #[.pointer none, .pointer none] 75)) (Nat.le_refl _))
  have R0 := BoxW.made (w.alloc (.cells #[.pointer (some ⟨p, 0, none⟩), .pointer (some ⟨q, 0, none⟩)] 75)) (.pointer none) (.pointer none) 75
  rw [s1] at R0
  have B0 := below2 w (.cells #[.pointer (some ⟨p, 0, none⟩), .pointer (some ⟨q, 0, none⟩)] 75) (.cells #[.pointer none, .pointer none] 75)
  have sp0 := sp.below B0 sp.lt
  have sq0 := sq.below B0 sq.lt
  clear s1 sp sq
  go_enter Try.func61, Try.ntmps61
  go_wp2_with fail
  generalize (w.alloc (.cells #[.pointer (some ⟨p, 0, none⟩), .pointer (some ⟨q, 0, none⟩)] 75)).alloc (.cells #[.pointer none, .pointer none] 75) = w0 at *
  have bd' := (Below.refl w0.heap.size w0).drew
  have E3 := E0.below bd' (Nat.le_refl _)
  have R3 := R0.below bd' (Nat.le_refl _)
  have B3 := B0.trans (bd'.mono B0.size)
  have sp3 := sp0.below bd' sp0.lt
  have sq3 := sq0.below bd' sq0.lt
  refine wp_region_held_drew (S := fun W => W.cell? ⟨w.heap.size, 0, none⟩ = some (.pointer (some ⟨p, 0, none⟩)) ∧ W.cell? ⟨w.heap.size, 1, none⟩ = some (.pointer (some ⟨q, 0, none⟩))) (by kernel_rfl) ⟨E3.c0, E3.c1⟩ ?_
  intro hHeld
  generalize w0.drew = w3 at *
  refine takeH 0 (some 3) (.pointer (some ⟨w.heap.size, 1, none⟩)) rfl rfl (by kernel_rfl) (by kernel_rfl) (by kernel_rfl) (fun _ _ _ h => h) (Or.inl ⟨rfl, fun W hW => by obtain _ := hW; go_simp⟩) (by assumption) ?_
  simp only [Act.put, List.setIfInBounds_toArray, List.set_cons_zero, List.set_cons_succ]
  refine takeH 1 (some 4) (.pointer (some ⟨q, 0, none⟩)) rfl rfl (by kernel_rfl) (by kernel_rfl) (by kernel_rfl) (fun _ _ _ h => h) (Or.inl ⟨rfl, fun W hW => by obtain ⟨_, _c⟩ := hW; go_simp⟩) (by assumption) ?_
  simp only [Act.put, List.setIfInBounds_toArray, List.set_cons_zero, List.set_cons_succ]
  refine takeH 3 (some 6) (.pointer (some ⟨w.heap.size, 0, none⟩)) rfl rfl (by kernel_rfl) (by kernel_rfl) (by kernel_rfl) (fun _ _ _ h => h) (Or.inl ⟨rfl, fun W hW => by obtain _ := hW; go_simp⟩) (by assumption) ?_
  simp only [Act.put, List.setIfInBounds_toArray, List.set_cons_zero, List.set_cons_succ]
  refine takeH 4 (some 7) (.pointer (some ⟨p, 0, none⟩)) rfl rfl (by kernel_rfl) (by kernel_rfl) (by kernel_rfl) (fun _ _ _ h => h) (Or.inl ⟨rfl, fun W hW => by obtain ⟨_c, _⟩ := hW; go_simp⟩) (by assumption) ?_
  simp only [Act.put, List.setIfInBounds_toArray, List.set_cons_zero, List.set_cons_succ]
  refine oneH 2 rfl (by kernel_rfl) (fun K' hK => ?_)
  go_simp
  refine (kS _ sq3).mono ?_
  rintro e w4 ⟨c, rfl, hc, sc, b4⟩
  have E4 := E3.below b4 (Nat.le_refl _)
  have R4 := R3.below b4 (Nat.le_refl _)
  have B4 := B3.trans (b4.mono B3.size)
  have sp4 := sp3.below b4 sp3.lt
  have sq4 := sq3.below b4 sq3.lt
  refine hK _ _ ⟨E4.c0, E4.c1⟩ ?_
  clear hK
  refine oneH 5 rfl (by kernel_rfl) (fun K' hK => ?_)
  go_simp
  refine (kP _ sp4).mono ?_
  rintro e w5 ⟨d, rfl, hd, sd, b5⟩
  have E5 := E4.below b5 (Nat.le_refl _)
  have R5 := R4.below b5 (Nat.le_refl _)
  have B5 := B4.trans (b5.mono B4.size)
  have sp5 := sp4.below b5 sp4.lt
  have sq5 := sq4.below b5 sq4.lt
  have sc5 := sc.below b5 sc.lt
  refine hK _ _ ⟨E5.c0, E5.c1⟩ ?_
  clear hK
  have H5 : (fun W => W.cell? ⟨w.heap.size, 0, none⟩ = some (.pointer (some ⟨p, 0, none⟩)) ∧ W.cell? ⟨w.heap.size, 1, none⟩ = some (.pointer (some ⟨q, 0, none⟩))) w5 := ⟨E5.c0, E5.c1⟩
  refine takeH 6 (some 9) (.agg #[.pointer (some ⟨c, 0, none⟩), .pointer (some ⟨d, 0, none⟩)]) rfl rfl (by kernel_rfl) (by kernel_rfl) (by kernel_rfl) (fun _ _ _ h => h) (Or.inl ⟨rfl, fun W hW => by obtain _ := hW; go_simp⟩) (by assumption) ?_
  simp only [Act.put, List.setIfInBounds_toArray, List.set_cons_zero, List.set_cons_succ]
  have hR5 := R5.hi
  have hR3 := R3.hi
  have hR4 := R4.hi
  have E7 := E5.tn ((tnC w5 (w.heap.size + 1) 0 (.pointer (some ⟨c, 0, none⟩))).trans (tnC _ (w.heap.size + 1) 1 (.pointer (some ⟨d, 0, none⟩)))) (fun k hk hs => by simp at hk hs; omega)
  have r0 := R5.c0
  have f0 := R5.f0
  have r1 := R5.c1
  have f1 := R5.f1
  refine oneH 7 rfl (by kernel_rfl) (fun K' hK => ?_)
  go_simp
  refine hK _ _ ⟨E7.c0, E7.c1⟩ ?_
  clear hK
  refine wpAnyH_done (by kernel_rfl) ?_ _
  have HC : Hid (SG _ c _) := sc5.tn ((tnC w5 (w.heap.size + 1) 0 (.pointer (some ⟨c, 0, none⟩))).trans (tnC _ (w.heap.size + 1) 1 (.pointer (some ⟨d, 0, none⟩)))) (fun h => by simp at h; omega)
  have HD : Hid (SG _ d _) := sd.tn ((tnC w5 (w.heap.size + 1) 0 (.pointer (some ⟨c, 0, none⟩))).trans (tnC _ (w.heap.size + 1) 1 (.pointer (some ⟨d, 0, none⟩)))) (fun h => by simp at h; omega)
  have HB : Hid (Below w.heap.size w _) := ((B5.setCell (p := ⟨w.heap.size + 1, 0, none⟩) (by show w.heap.size ≤ w.heap.size + 1; omega) (.pointer (some ⟨c, 0, none⟩))).setCell (p := ⟨w.heap.size + 1, 1, none⟩) (by show w.heap.size ≤ w.heap.size + 1; omega) (.pointer (some ⟨d, 0, none⟩)))
  clear hHeld H5 E0 E3 E4 E5 R0 R3 R4 R5 E7 B0 B3 B4 B5 b4 b5 bd' sc sc5 sd kS kP sp0 sp3 sp4 sp5 sq0 sq3 sq4 sq5
  go_wp2
  (try simp only [Exit.inBlock, Exit.then])
  refine bodyPost_ret (v := .agg #[.pointer (some ⟨c, 0, none⟩), .pointer (some ⟨d, 0, none⟩)]) ?_ rfl ⟨_, _, rfl, HC.out, HD.out, HB.out⟩
  rw [results_cell1 rfl]
  go_simp


set_option maxRecDepth 20000 in
set_option maxHeartbeats 6400000 in
theorem widerSpan_c (p q : Nat) (x y k : Int) (w : World) (sp : SG w p x) (sq : SG w q y) (m1 : (limbs x.natAbs).length ≤ 97) (m2 : (limbs y.natAbs).length ≤ 97) (h0 : -9223372036854775808 ≤ k) (h1 : k ≤ 9223372036854775807) (m3 : (limbs k.natAbs).length ≤ 97) :
    Calls Try.prog 64 #[.agg #[.pointer (some ⟨p, 0, none⟩), .pointer (some ⟨q, 0, none⟩)], .int .i64 k] w (spanE (x - k) (y + k) w) := by
  have kO := fun W => sOf k W h0 h1
  have kS := fun {m} W h1 h2 => sgMinus p m x k W h1 h2 m1 m3
  have kP := fun {m} W h1 h2 => sgPlus q m y k W h1 h2 m2 m3
  unfold spanE
  clear m1 m2 m3
  generalize x - k = d1 at *
  generalize y + k = d2 at *
  have s1 : (w.alloc (.cells #[.pointer (some ⟨p, 0, none⟩), .pointer (some ⟨q, 0, none⟩)] 75)).heap.size = w.heap.size + 1 := by simp
  have E0 := ((BoxW.made w (.pointer (some ⟨p, 0, none⟩)) (.pointer (some ⟨q, 0, none⟩)) 75).below (below1 _ (.cells #[.pointer none, .pointer none] 75)) (Nat.le_refl _))
  have R0 := BoxW.made (w.alloc (.cells #[.pointer (some ⟨p, 0, none⟩), .pointer (some ⟨q, 0, none⟩)] 75)) (.pointer none) (.pointer none) 75
  rw [s1] at R0
  have B0 := below2 w (.cells #[.pointer (some ⟨p, 0, none⟩), .pointer (some ⟨q, 0, none⟩)] 75) (.cells #[.pointer none, .pointer none] 75)
  have sp0 := sp.below B0 sp.lt
  have sq0 := sq.below B0 sq.lt
  clear s1 sp sq
  go_enter Try.func64, Try.ntmps64
  go_wp2_with fail
  refine (kO _).mono ?_
  generalize (w.alloc (.cells #[.pointer (some ⟨p, 0, none⟩), .pointer (some ⟨q, 0, none⟩)] 75)).alloc (.cells #[.pointer none, .pointer none] 75) = w0 at *
  rintro e w1 ⟨m, rfl, hm, sm, b1⟩
  have E1 := E0.below b1 (Nat.le_refl _)
  have R1 := R0.below b1 (Nat.le_refl _)
  have B1 := B0.trans (b1.mono B0.size)
  have sp1 := sp0.below b1 sp0.lt
  have sq1 := sq0.below b1 sq0.lt
  have sm1 := sm
  clear E0 R0 B0 b1 sm kO sp0 sq0
  go_wp2_with fail
  have bd' := (Below.refl w1.heap.size w1).drew
  have E3 := E1.below bd' (Nat.le_refl _)
  have R3 := R1.below bd' (Nat.le_refl _)
  have B3 := B1.trans (bd'.mono B1.size)
  have sp3 := sp1.below bd' sp1.lt
  have sq3 := sq1.below bd' sq1.lt
  have sm3 := sm1.below bd' sm1.lt
  refine wp_region_held_drew (S := fun W => W.cell? ⟨w.heap.size, 0, none⟩ = some (.pointer (some ⟨p, 0, none⟩)) ∧ W.cell? ⟨w.heap.size, 1, none⟩ = some (.pointer (some ⟨q, 0, none⟩))) (by kernel_rfl) ⟨E3.c0, E3.c1⟩ ?_
  intro hHeld
  generalize w1.drew = w3 at *
  refine takeH 0 (some 8) (.pointer (some ⟨w.heap.size, 0, none⟩)) rfl rfl (by kernel_rfl) (by kernel_rfl) (by kernel_rfl) (fun _ _ _ h => h) (Or.inl ⟨rfl, fun W hW => by obtain _ := hW; go_simp⟩) (by assumption) ?_
  simp only [Act.put, List.setIfInBounds_toArray, List.set_cons_zero, List.set_cons_succ]
  refine takeH 1 (some 9) (.pointer (some ⟨p, 0, none⟩)) rfl rfl (by kernel_rfl) (by kernel_rfl) (by kernel_rfl) (fun _ _ _ h => h) (Or.inl ⟨rfl, fun W hW => by obtain ⟨_c, _⟩ := hW; go_simp⟩) (by assumption) ?_
  simp only [Act.put, List.setIfInBounds_toArray, List.set_cons_zero, List.set_cons_succ]
  refine takeH 2 (some 10) (.pointer (some ⟨m, 0, none⟩)) rfl rfl (by kernel_rfl) (by kernel_rfl) (by kernel_rfl) (fun _ _ _ h => h) (Or.inl ⟨rfl, fun W hW => by obtain _ := hW; go_simp⟩) (by assumption) ?_
  simp only [Act.put, List.setIfInBounds_toArray, List.set_cons_zero, List.set_cons_succ]
  refine takeH 4 (some 12) (.pointer (some ⟨w.heap.size, 1, none⟩)) rfl rfl (by kernel_rfl) (by kernel_rfl) (by kernel_rfl) (fun _ _ _ h => h) (Or.inl ⟨rfl, fun W hW => by obtain _ := hW; go_simp⟩) (by assumption) ?_
  simp only [Act.put, List.setIfInBounds_toArray, List.set_cons_zero, List.set_cons_succ]
  refine takeH 5 (some 13) (.pointer (some ⟨q, 0, none⟩)) rfl rfl (by kernel_rfl) (by kernel_rfl) (by kernel_rfl) (fun _ _ _ h => h) (Or.inl ⟨rfl, fun W hW => by obtain ⟨_, _c⟩ := hW; go_simp⟩) (by assumption) ?_
  simp only [Act.put, List.setIfInBounds_toArray, List.set_cons_zero, List.set_cons_succ]
  refine takeH 6 (some 14) (.pointer (some ⟨m, 0, none⟩)) rfl rfl (by kernel_rfl) (by kernel_rfl) (by kernel_rfl) (fun _ _ _ h => h) (Or.inl ⟨rfl, fun W hW => by obtain _ := hW; go_simp⟩) (by assumption) ?_
  simp only [Act.put, List.setIfInBounds_toArray, List.set_cons_zero, List.set_cons_succ]
  refine oneH 3 rfl (by kernel_rfl) (fun K' hK => ?_)
  go_simp
  refine (kS _ sp3 sm3).mono ?_
  rintro e w4 ⟨c, rfl, hc, sc, b4⟩
  have E4 := E3.below b4 (Nat.le_refl _)
  have R4 := R3.below b4 (Nat.le_refl _)
  have B4 := B3.trans (b4.mono B3.size)
  have sp4 := sp3.below b4 sp3.lt
  have sq4 := sq3.below b4 sq3.lt
  have sm4 := sm3.below b4 sm3.lt
  refine hK _ _ ⟨E4.c0, E4.c1⟩ ?_
  clear hK
  refine oneH 7 rfl (by kernel_rfl) (fun K' hK => ?_)
  go_simp
  refine (kP _ sq4 sm4).mono ?_
  rintro e w5 ⟨d, rfl, hd, sd, b5⟩
  have E5 := E4.below b5 (Nat.le_refl _)
  have R5 := R4.below b5 (Nat.le_refl _)
  have B5 := B4.trans (b5.mono B4.size)
  have sp5 := sp4.below b5 sp4.lt
  have sq5 := sq4.below b5 sq4.lt
  have sm5 := sm4.below b5 sm4.lt
  have sc5 := sc.below b5 sc.lt
  refine hK _ _ ⟨E5.c0, E5.c1⟩ ?_
  clear hK
  have H5 : (fun W => W.cell? ⟨w.heap.size, 0, none⟩ = some (.pointer (some ⟨p, 0, none⟩)) ∧ W.cell? ⟨w.heap.size, 1, none⟩ = some (.pointer (some ⟨q, 0, none⟩))) w5 := ⟨E5.c0, E5.c1⟩
  refine takeH 8 (some 16) (.agg #[.pointer (some ⟨c, 0, none⟩), .pointer (some ⟨d, 0, none⟩)]) rfl rfl (by kernel_rfl) (by kernel_rfl) (by kernel_rfl) (fun _ _ _ h => h) (Or.inl ⟨rfl, fun W hW => by obtain _ := hW; go_simp⟩) (by assumption) ?_
  simp only [Act.put, List.setIfInBounds_toArray, List.set_cons_zero, List.set_cons_succ]
  have hR5 := R5.hi
  have hR3 := R3.hi
  have hR4 := R4.hi
  have E7 := E5.tn ((tnC w5 (w.heap.size + 1) 0 (.pointer (some ⟨c, 0, none⟩))).trans (tnC _ (w.heap.size + 1) 1 (.pointer (some ⟨d, 0, none⟩)))) (fun k hk hs => by simp at hk hs; omega)
  have r0 := R5.c0
  have f0 := R5.f0
  have r1 := R5.c1
  have f1 := R5.f1
  refine oneH 9 rfl (by kernel_rfl) (fun K' hK => ?_)
  go_simp
  refine hK _ _ ⟨E7.c0, E7.c1⟩ ?_
  clear hK
  refine wpAnyH_done (by kernel_rfl) ?_ _
  have HC : Hid (SG _ c _) := sc5.tn ((tnC w5 (w.heap.size + 1) 0 (.pointer (some ⟨c, 0, none⟩))).trans (tnC _ (w.heap.size + 1) 1 (.pointer (some ⟨d, 0, none⟩)))) (fun h => by simp at h; omega)
  have HD : Hid (SG _ d _) := sd.tn ((tnC w5 (w.heap.size + 1) 0 (.pointer (some ⟨c, 0, none⟩))).trans (tnC _ (w.heap.size + 1) 1 (.pointer (some ⟨d, 0, none⟩)))) (fun h => by simp at h; omega)
  have HB : Hid (Below w.heap.size w _) := ((B5.setCell (p := ⟨w.heap.size + 1, 0, none⟩) (by show w.heap.size ≤ w.heap.size + 1; omega) (.pointer (some ⟨c, 0, none⟩))).setCell (p := ⟨w.heap.size + 1, 1, none⟩) (by show w.heap.size ≤ w.heap.size + 1; omega) (.pointer (some ⟨d, 0, none⟩)))
  clear hHeld H5 E1 E3 E4 E5 R1 R3 R4 R5 E7 B1 B3 B4 B5 b4 b5 bd' sc sc5 sd kS kP sp1 sp3 sp4 sp5 sq1 sq3 sq4 sq5 sm1 sm3 sm4 sm5
  go_wp2
  (try simp only [Exit.inBlock, Exit.then])
  refine bodyPost_ret (v := .agg #[.pointer (some ⟨c, 0, none⟩), .pointer (some ⟨d, 0, none⟩)]) ?_ rfl ⟨_, _, rfl, HC.out, HD.out, HB.out⟩
  rw [results_cell1 rfl]
  go_simp


end Go.Proofs.Ytmbmnfphgcjhdaa
