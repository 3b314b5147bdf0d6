/- Several small texts in one: ITwoSp. -/
import Derived.Test.YtlpfjpbnedankaaSC
/- The program's twoSpans, by its contract. -/
namespace Go.Proofs.Ytlpfjpbnedankaa
open Go.RowKit
set_option linter.unusedSimpArgs false

theorem results_cell2_tmp {fn : Func} {p q u : Tmp} {ty ty' : TypeId} (h : fn.results = #[.cell p ty, .cell q ty', .tmp u]) (tmps : Array Value) (P : Program) (w : World) :
    (results fn tmps).run P w = ((asAddr (tmps.getD p undef)).run P w).andThen fun a w₁ => ((loadVar ty a).run P w₁).andThen fun v w₂ => ((asAddr (tmps.getD q undef)).run P w₂).andThen fun b w₃ => ((loadVar ty' b).run P w₃).andThen fun v' w₄ => .ok (.tuple #[v, v', tmps.getD u undef]) w₄ := by
  simp only [results, h]
  simp [Sem.run_bind, Result.andThen]

/-- What spanFrom answers, in one form. -/
theorem spanFrom_b (va : Value) (a : Vh) (w : World) (ha : rowV w va a) (hla : a.1.2.length ≤ 1048576) (hlb : a.2.2.length ≤ 1048576) :
    Calls Try.prog 60 #[va] w fun e w' => ∃ (X Y : Option Addr), e = .returned (.tuple #[.agg #[.pointer X, .pointer Y], .bool (okV a)]) ∧ Below w.heap.size w w' ∧ (okV a = true → ∃ p q, X = some ⟨p, 0, none⟩ ∧ Y = some ⟨q, 0, none⟩ ∧ SG w' p (valW a.1) ∧ SG w' q (valW a.2) ∧ w.heap.size ≤ p ∧ w.heap.size ≤ q) := by
  refine (spanFrom_c va a w ha hla hlb).mono ?_
  rintro e w' (⟨hv, p, q, rfl, h1, h2, h3, h4, hb⟩ | ⟨hv, x, y, rfl, hb⟩)
  · exact ⟨_, _, by rw [hv], hb, fun _ => ⟨p, q, rfl, rfl, h1, h2, h3, h4⟩⟩
  · exact ⟨x, y, by rw [hv], hb, fun h => by rw [hv] at h; cases h⟩
theorem SG.tn {w w' : World} {b : Nat} {z : Int} {S : List Nat} (h : SG w b z) (ht : Tn S w w') (hS : b ∉ S) : SG w' b z :=
  ⟨(World.cell?_of_block (w := w) (a := ⟨b, 0, none⟩) (ht.block b h.lt hS)).trans h.sign, h.mag.tn ht hS⟩

/-- What twoSpans answers. -/
def spansA (a b : Vh) (w : World) (e : Ending) (w' : World) : Prop := ∃ (X Y X' Y' : Option Addr), e = .returned (.tuple #[.agg #[.pointer X, .pointer Y], .agg #[.pointer X', .pointer Y'], .bool (okV a && okV b)]) ∧ Below w.heap.size w w' ∧
  (okV a = true → okV b = true → ∃ p q p' q', X = some ⟨p, 0, none⟩ ∧ Y = some ⟨q, 0, none⟩ ∧ X' = some ⟨p', 0, none⟩ ∧ Y' = some ⟨q', 0, none⟩ ∧ SG w' p (valW a.1) ∧ SG w' q (valW a.2) ∧ SG w' p' (valW b.1) ∧ SG w' q' (valW b.2) ∧ w.heap.size ≤ p ∧ w.heap.size ≤ q ∧ w.heap.size ≤ p' ∧ w.heap.size ≤ q')

set_option maxRecDepth 20000 in
set_option maxHeartbeats 6400000 in
theorem twoSpans_c (va vb : Value) (a b : Vh) (w : World) (ha : rowV w va a) (hb : rowV w vb b) (hl0 : a.1.2.length ≤ 1048576) (hl1 : a.2.2.length ≤ 1048576) (hl2 : b.1.2.length ≤ 1048576) (hl3 : b.2.2.length ≤ 1048576) :
    Calls Try.prog 27 #[va, vb] w (spansA a b w) := by
  have kA := fun W (h : Below w.heap.size w W) => spanFrom_b va a W (ha.below h (Nat.le_refl _)) hl0 hl1
  have kB := fun W (h : Below w.heap.size w W) => spanFrom_b vb b W (hb.below h (Nat.le_refl _)) hl2 hl3
  have HS : Hid (∀ (o1 o2 : Bool) (X Y X' Y' : Option Addr) w', okV a = o1 → okV b = o2 → Below w.heap.size w w' → (o1 = true → o2 = true → ∃ p q p' q', X = some ⟨p, 0, none⟩ ∧ Y = some ⟨q, 0, none⟩ ∧ X' = some ⟨p', 0, none⟩ ∧ Y' = some ⟨q', 0, none⟩ ∧ SG w' p (valW a.1) ∧ SG w' q (valW a.2) ∧ SG w' p' (valW b.1) ∧ SG w' q' (valW b.2) ∧ w.heap.size ≤ p ∧ w.heap.size ≤ q ∧ w.heap.size ≤ p' ∧ w.heap.size ≤ q') → spansA a b w (.returned (.tuple #[.agg #[.pointer X, .pointer Y], .agg #[.pointer X', .pointer Y'], .bool (o1 && o2)])) w') := by
    intro o1 o2 X Y X' Y' w' e1 e2 hb h
    subst e1 e2
    exact ⟨X, Y, X', Y', rfl, hb, h⟩
  obtain ⟨o1, ho1⟩ : ∃ o, okV a = o := ⟨_, rfl⟩
  obtain ⟨o2, ho2⟩ : ∃ o, okV b = o := ⟨_, rfl⟩
  have HT := HS.out o1 o2
  have HT : Hid (∀ (X Y X' Y' : Option Addr) w', Below w.heap.size w w' → (o1 = true → o2 = true → ∃ p q p' q', X = some ⟨p, 0, none⟩ ∧ Y = some ⟨q, 0, none⟩ ∧ X' = some ⟨p', 0, none⟩ ∧ Y' = some ⟨q', 0, none⟩ ∧ SG w' p (valW a.1) ∧ SG w' q (valW a.2) ∧ SG w' p' (valW b.1) ∧ SG w' q' (valW b.2) ∧ w.heap.size ≤ p ∧ w.heap.size ≤ q ∧ w.heap.size ≤ p' ∧ w.heap.size ≤ q') → spansA a b w (.returned (.tuple #[.agg #[.pointer X, .pointer Y], .agg #[.pointer X', .pointer Y'], .bool (o1 && o2)])) w') := fun X Y X' Y' w' h1 h2 => HT X Y X' Y' w' ho1 ho2 h1 h2
  rw [ho1] at kA
  rw [ho2] at kB
  clear HS ho1 ho2
  obtain ⟨s, t, rfl, hs, ht⟩ := ha
  obtain ⟨u, v, rfl, hu, hv⟩ := hb
  obtain ⟨ad, cap, rfl, -⟩ := id hs
  obtain ⟨ae, cbp, rfl, -⟩ := id ht
  obtain ⟨bd, cap2, rfl, -⟩ := id hu
  obtain ⟨be, cbp2, rfl, -⟩ := id hv
  clear hs ht hu hv
  generalize valW a.1 = x1 at *
  generalize valW a.2 = y1 at *
  generalize valW b.1 = x2 at *
  generalize valW b.2 = y2 at *
  have s1 : (w.alloc (.cells #[.bool a.1.1, .slice ad a.1.2.length cap, .bool a.2.1, .slice ae a.2.2.length cbp] 29)).heap.size = w.heap.size + 1 := by simp
  have s2 : ((w.alloc (.cells #[.bool a.1.1, .slice ad a.1.2.length cap, .bool a.2.1, .slice ae a.2.2.length cbp] 29)).alloc (.cells #[.bool b.1.1, .slice bd b.1.2.length cap2, .bool b.2.1, .slice be b.2.2.length cbp2] 29)).heap.size = w.heap.size + 1 + 1 := by simp
  have s3 : (((w.alloc (.cells #[.bool a.1.1, .slice ad a.1.2.length cap, .bool a.2.1, .slice ae a.2.2.length cbp] 29)).alloc (.cells #[.bool b.1.1, .slice bd b.1.2.length cap2, .bool b.2.1, .slice be b.2.2.length cbp2] 29)).alloc (.cells #[.pointer none, .pointer none] 52)).heap.size = w.heap.size + 1 + 1 + 1 := by simp
  have D0 := ((BoxV.made (w.alloc (.cells #[.bool a.1.1, .slice ad a.1.2.length cap, .bool a.2.1, .slice ae a.2.2.length cbp] 29)) (.bool b.1.1) (.slice bd b.1.2.length cap2) (.bool b.2.1) (.slice be b.2.2.length cbp2) 29).below (below1 _ (.cells #[.pointer none, .pointer none] 52)) (Nat.le_refl _)).below (below1 _ (.cells #[.pointer none, .pointer none] 52)) (Nat.le_refl _)
  rw [s1] at D0
  have R0 := (BoxW.made ((w.alloc (.cells #[.bool a.1.1, .slice ad a.1.2.length cap, .bool a.2.1, .slice ae a.2.2.length cbp] 29)).alloc (.cells #[.bool b.1.1, .slice bd b.1.2.length cap2, .bool b.2.1, .slice be b.2.2.length cbp2] 29)) (.pointer none) (.pointer none) 52).below (below1 _ (.cells #[.pointer none, .pointer none] 52)) (Nat.le_refl _)
  rw [s2] at R0
  have Q0 := BoxW.made (((w.alloc (.cells #[.bool a.1.1, .slice ad a.1.2.length cap, .bool a.2.1, .slice ae a.2.2.length cbp] 29)).alloc (.cells #[.bool b.1.1, .slice bd b.1.2.length cap2, .bool b.2.1, .slice be b.2.2.length cbp2] 29)).alloc (.cells #[.pointer none, .pointer none] 52)) (.pointer none) (.pointer none) 52
  rw [s3] at Q0
  have B0 := (below3 w (.cells #[.bool a.1.1, .slice ad a.1.2.length cap, .bool a.2.1, .slice ae a.2.2.length cbp] 29) (.cells #[.bool b.1.1, .slice bd b.1.2.length cap2, .bool b.2.1, .slice be b.2.2.length cbp2] 29) (.cells #[.pointer none, .pointer none] 52)).alloc (by simp; omega) (.cells #[.pointer none, .pointer none] 52)
  clear s1 s2 s3
  go_enter Try.func27, Try.ntmps27
  go_wp2_with fail
  refine (kA _ B0).mono ?_
  generalize (((w.alloc (.cells #[.bool a.1.1, .slice ad a.1.2.length cap, .bool a.2.1, .slice ae a.2.2.length cbp] 29)).alloc (.cells #[.bool b.1.1, .slice bd b.1.2.length cap2, .bool b.2.1, .slice be b.2.2.length cbp2] 29)).alloc (.cells #[.pointer none, .pointer none] 52)).alloc (.cells #[.pointer none, .pointer none] 52) = w0 at *
  rintro e w1 ⟨X, Y, rfl, b1, h1⟩
  have hQ0 := Q0.hi
  have D1 := (D0.below b1 (Nat.le_refl _)).below (below1 w1 (.cells #[.pointer X, .pointer Y] 52)) (Nat.le_refl _)
  have R1 := (R0.below b1 (Nat.le_refl _)).below (below1 w1 (.cells #[.pointer X, .pointer Y] 52)) (Nat.le_refl _)
  have Q1 := (Q0.below b1 (Nat.le_refl _)).below (below1 w1 (.cells #[.pointer X, .pointer Y] 52)) (Nat.le_refl _)
  have E1 := BoxW.made w1 (.pointer X) (.pointer Y) 52
  have B1 := (B0.trans (b1.mono B0.size)).trans ((below1 w1 (.cells #[.pointer X, .pointer Y] 52)).mono (B0.trans (b1.mono B0.size)).size)
  have hf7 : w0.heap.size ≤ w1.heap.size := b1.size
  have H1 : Hid (o1 = true → ∃ p q, X = some ⟨p, 0, none⟩ ∧ Y = some ⟨q, 0, none⟩ ∧ SG (w1.alloc (.cells #[.pointer X, .pointer Y] 52)) p x1 ∧ SG (w1.alloc (.cells #[.pointer X, .pointer Y] 52)) q y1 ∧ w0.heap.size ≤ p ∧ w0.heap.size ≤ q) := fun ho => by
    obtain ⟨p, q, e1, e2, s1, s2, g1, g2⟩ := h1 ho
    exact ⟨p, q, e1, e2, s1.below (below1 w1 (.cells #[.pointer X, .pointer Y] 52)) s1.lt, s2.below (below1 w1 (.cells #[.pointer X, .pointer Y] 52)) s2.lt, g1, g2⟩
  clear h1 b1 D0 R0 Q0 kA
  have c0 := D1.c0
  have c1 := D1.c1
  have c2 := D1.c2
  have c3 := D1.c3
  go_wp2_with fail
  clear c0 c1 c2 c3
  refine (kB _ B1).mono ?_
  generalize w1.alloc (.cells #[.pointer X, .pointer Y] 52) = w2 at *
  generalize w1.heap.size = f7 at *
  rintro e w3 ⟨X', Y', rfl, b3, h3⟩
  have R3 := (R1.below b3 (Nat.le_refl _)).below (below1 w3 (.cells #[.pointer X', .pointer Y'] 52)) (Nat.le_refl _)
  have Q3 := (Q1.below b3 (Nat.le_refl _)).below (below1 w3 (.cells #[.pointer X', .pointer Y'] 52)) (Nat.le_refl _)
  have E3 := (E1.below b3 (Nat.le_refl _)).below (below1 w3 (.cells #[.pointer X', .pointer Y'] 52)) (Nat.le_refl _)
  have G3 := BoxW.made w3 (.pointer X') (.pointer Y') 52
  have B3 := (B1.trans (b3.mono B1.size)).trans ((below1 w3 (.cells #[.pointer X', .pointer Y'] 52)).mono (B1.trans (b3.mono B1.size)).size)
  have hE1 := E1.hi
  have hf9 : w2.heap.size ≤ w3.heap.size := b3.size
  have H3 : Hid (o1 = true → o2 = true → ∃ p q p' q', X = some ⟨p, 0, none⟩ ∧ Y = some ⟨q, 0, none⟩ ∧ X' = some ⟨p', 0, none⟩ ∧ Y' = some ⟨q', 0, none⟩ ∧ SG (w3.alloc (.cells #[.pointer X', .pointer Y'] 52)) p x1 ∧ SG (w3.alloc (.cells #[.pointer X', .pointer Y'] 52)) q y1 ∧ SG (w3.alloc (.cells #[.pointer X', .pointer Y'] 52)) p' x2 ∧ SG (w3.alloc (.cells #[.pointer X', .pointer Y'] 52)) q' y2 ∧ w0.heap.size ≤ p ∧ w0.heap.size ≤ q ∧ w0.heap.size ≤ p' ∧ w0.heap.size ≤ q') := fun hA hB => by
    obtain ⟨p, q, e1, e2, s1, s2, g1, g2⟩ := H1.out hA
    obtain ⟨p', q', e3, e4, s3, s4, g3, g4⟩ := h3 hB
    have s1' := s1.below b3 s1.lt
    have s2' := s2.below b3 s2.lt
    exact ⟨p, q, p', q', e1, e2, e3, e4, s1'.below (below1 w3 (.cells #[.pointer X', .pointer Y'] 52)) s1'.lt, s2'.below (below1 w3 (.cells #[.pointer X', .pointer Y'] 52)) s2'.lt, s3.below (below1 w3 (.cells #[.pointer X', .pointer Y'] 52)) s3.lt, s4.below (below1 w3 (.cells #[.pointer X', .pointer Y'] 52)) s4.lt, g1, g2, by omega, by omega⟩
  clear h3 b3 D1 R1 Q1 E1 kB H1
  go_wp2_with fail
  generalize w3.alloc (.cells #[.pointer X', .pointer Y'] 52) = w4 at *
  generalize w3.heap.size = f9 at *
  have bd' := (Below.refl w4.heap.size w4).drew
  refine wp_region_held_drew (S := fun W => W.cell? ⟨f7, 0, none⟩ = some (.pointer X) ∧ W.cell? ⟨f7, 1, none⟩ = some (.pointer Y) ∧ W.cell? ⟨f9, 0, none⟩ = some (.pointer X') ∧ W.cell? ⟨f9, 1, none⟩ = some (.pointer Y')) (by kernel_rfl) ⟨(E3.below bd' (Nat.le_refl _)).c0, (E3.below bd' (Nat.le_refl _)).c1, (G3.below bd' (Nat.le_refl _)).c0, (G3.below bd' (Nat.le_refl _)).c1⟩ ?_
  intro hHeld
  generalize w4.drew = w5 at *
  have R4 := R3.below bd' (Nat.le_refl _)
  have Q4 := Q3.below bd' (Nat.le_refl _)
  have E4 := E3.below bd' (Nat.le_refl _)
  have G4 := G3.below bd' (Nat.le_refl _)
  have B4 := B3.trans (bd'.mono B3.size)
  have tn5 : Tn [w.heap.size + 1 + 1] w5 ((w5.setCell ⟨w.heap.size + 1 + 1, 0, none⟩ (.pointer X)).setCell ⟨w.heap.size + 1 + 1, 1, none⟩ (.pointer Y)) := (tnC _ (w.heap.size + 1 + 1) 0 _).trans (tnC _ (w.heap.size + 1 + 1) 1 _)
  have E5 := E4.tn tn5 (fun k hk hs => by simp at hk hs; omega)
  have G5 := G4.tn tn5 (fun k hk hs => by simp at hk hs; omega)
  have Q5 := Q4.tn tn5 (fun k hk hs => by simp at hk hs; omega)
  have B5 := (B4.setCell (p := ⟨w.heap.size + 1 + 1, 0, none⟩) (by show w.heap.size ≤ w.heap.size + 1 + 1; omega) (.pointer X)).setCell (p := ⟨w.heap.size + 1 + 1, 1, none⟩) (by show w.heap.size ≤ w.heap.size + 1 + 1; omega) (.pointer Y)
  have tn6 : Tn [w.heap.size + 1 + 1 + 1] ((w5.setCell ⟨w.heap.size + 1 + 1, 0, none⟩ (.pointer X)).setCell ⟨w.heap.size + 1 + 1, 1, none⟩ (.pointer Y)) ((((w5.setCell ⟨w.heap.size + 1 + 1, 0, none⟩ (.pointer X)).setCell ⟨w.heap.size + 1 + 1, 1, none⟩ (.pointer Y)).setCell ⟨w.heap.size + 1 + 1 + 1, 0, none⟩ (.pointer X')).setCell ⟨w.heap.size + 1 + 1 + 1, 1, none⟩ (.pointer Y')) := (tnC _ (w.heap.size + 1 + 1 + 1) 0 _).trans (tnC _ (w.heap.size + 1 + 1 + 1) 1 _)
  have E6 := E5.tn tn6 (fun k hk hs => by simp at hk hs; omega)
  have G6 := G5.tn tn6 (fun k hk hs => by simp at hk hs; omega)
  have B6 := (B5.setCell (p := ⟨w.heap.size + 1 + 1 + 1, 0, none⟩) (by show w.heap.size ≤ w.heap.size + 1 + 1 + 1; omega) (.pointer X')).setCell (p := ⟨w.heap.size + 1 + 1 + 1, 1, none⟩) (by show w.heap.size ≤ w.heap.size + 1 + 1 + 1; omega) (.pointer Y')
  have HF : Hid (Below w.heap.size w _ ∧ (o1 = true → o2 = true → ∃ p q p' q', X = some ⟨p, 0, none⟩ ∧ Y = some ⟨q, 0, none⟩ ∧ X' = some ⟨p', 0, none⟩ ∧ Y' = some ⟨q', 0, none⟩ ∧ SG _ p x1 ∧ SG _ q y1 ∧ SG _ p' x2 ∧ SG _ q' y2 ∧ w.heap.size ≤ p ∧ w.heap.size ≤ q ∧ w.heap.size ≤ p' ∧ w.heap.size ≤ q')) := ⟨B6, fun hA hB => by
    obtain ⟨p, q, p', q', e1, e2, e3, e4, s1, s2, s3, s4, g1, g2, g3, g4⟩ := H3.out hA hB
    have up : ∀ r z, w0.heap.size ≤ r → SG w4 r z → SG ((((w5.setCell ⟨w.heap.size + 1 + 1, 0, none⟩ (.pointer X)).setCell ⟨w.heap.size + 1 + 1, 1, none⟩ (.pointer Y)).setCell ⟨w.heap.size + 1 + 1 + 1, 0, none⟩ (.pointer X')).setCell ⟨w.heap.size + 1 + 1 + 1, 1, none⟩ (.pointer Y')) r z := fun r z hr h => ((h.below bd' h.lt).tn tn5 (by simp; omega)).tn tn6 (by simp; omega)
    exact ⟨p, q, p', q', e1, e2, e3, e4, up _ _ g1 s1, up _ _ g2 s2, up _ _ g3 s3, up _ _ g4 s4, by omega, by omega, by omega, by omega⟩⟩
  have r0 := R4.c0
  have r1 := R4.c1
  have r2 := R4.f0
  have r3 := R4.f1
  have q0 := Q5.c0
  have q1 := Q5.c1
  have q2 := Q5.f0
  have q3 := Q5.f1
  refine takeH 0 (some 21) (.agg #[.pointer X, .pointer Y]) rfl rfl (by kernel_rfl) (by kernel_rfl) (by kernel_rfl) (fun _ _ _ h => h) (Or.inl ⟨rfl, fun W hW => by obtain ⟨_c, _d, _, _⟩ := hW; go_simp⟩) (by assumption) ?_
  simp only [Act.put, List.setIfInBounds_toArray, List.set_cons_zero, List.set_cons_succ]
  refine takeH 1 (some 22) (.agg #[.pointer X', .pointer Y']) rfl rfl (by kernel_rfl) (by kernel_rfl) (by kernel_rfl) (fun _ _ _ h => h) (Or.inl ⟨rfl, fun W hW => by obtain ⟨_, _, _c, _d⟩ := hW; go_simp⟩) (by assumption) ?_
  simp only [Act.put, List.setIfInBounds_toArray, List.set_cons_zero, List.set_cons_succ]
  refine takeH 2 (some 23) (.bool o1) rfl rfl (by kernel_rfl) (by kernel_rfl) (by kernel_rfl) (fun _ _ _ h => h) (yg_move rfl (.tmp 8) rfl _ rfl) (by assumption) ?_
  simp only [Act.put, List.setIfInBounds_toArray, List.set_cons_zero, List.set_cons_succ]
  refine takeH 3 (some 24) (.bool o1) rfl rfl (by kernel_rfl) (by kernel_rfl) (by kernel_rfl) (fun _ _ _ h => h) (yg_move rfl (.tmp 23) rfl _ rfl) (by assumption) ?_
  simp only [Act.put, List.setIfInBounds_toArray, List.set_cons_zero, List.set_cons_succ]
  cases o1
  · skip
    refine takeH 4 (some 25) (undef) rfl rfl (by kernel_rfl) (by kernel_rfl) (by kernel_rfl) (fun _ _ _ h => h) (yg_skip rfl) (by assumption) ?_
    simp only [Act.put, List.setIfInBounds_toArray, List.set_cons_zero, List.set_cons_succ]
    refine takeH 5 (some 26) (.bool false) rfl rfl (by kernel_rfl) (by kernel_rfl) (by kernel_rfl) (fun _ _ _ h => h) (yg_pick rfl (.tmp 24) (.tmp 25) (.const (.bool false)) rfl false rfl _ rfl) (by assumption) ?_
    simp only [Act.put, List.setIfInBounds_toArray, List.set_cons_zero, List.set_cons_succ]
    refine oneH 6 rfl (by kernel_rfl) (fun K' hK => ?_)
    go_simp
    refine hK _ _ ⟨E5.c0, E5.c1, G5.c0, G5.c1⟩ ?_
    clear hK
    refine oneH 7 rfl (by kernel_rfl) (fun K' hK => ?_)
    go_simp
    refine hK _ _ ⟨E6.c0, E6.c1, G6.c0, G6.c1⟩ ?_
    clear hK
    refine takeH 8 (some 6) (.bool false) rfl rfl (by kernel_rfl) (by kernel_rfl) (by kernel_rfl) (fun _ _ _ h => h) (yg_assign rfl (.tmp 26) rfl _ rfl) ⟨E6.c0, E6.c1, G6.c0, G6.c1⟩ ?_
    simp only [Act.put, List.setIfInBounds_toArray, List.set_cons_zero, List.set_cons_succ]
    refine wpAnyH_done (by kernel_rfl) ?_ _
    clear hHeld R3 Q3 E3 G3 B3 bd' R4 Q4 E4 G4 B4 tn5 E5 G5 Q5 B5 tn6 E6 G6 B6 H3
    have hn1 : ¬ (w.heap.size + 1 + 1 = w.heap.size + 1 + 1 + 1) := by omega
    have hn2 : ¬ (w.heap.size + 1 + 1 + 1 = w.heap.size + 1 + 1) := by omega
    go_wp2
    (try simp only [Exit.inBlock, Exit.then])
    refine bodyPost_ret (v := .tuple #[.agg #[.pointer X, .pointer Y], .agg #[.pointer X', .pointer Y'], .bool false]) ?_ rfl (HT.out X Y X' Y' _ HF.out.1 HF.out.2)
    rw [results_cell2_tmp rfl]
    go_simp
  · skip
    refine takeH 4 (some 25) (.bool o2) rfl rfl (by kernel_rfl) (by kernel_rfl) (by kernel_rfl) (fun _ _ _ h => h) (yg_move rfl (.tmp 10) rfl _ rfl) (by assumption) ?_
    simp only [Act.put, List.setIfInBounds_toArray, List.set_cons_zero, List.set_cons_succ]
    refine takeH 5 (some 26) (.bool o2) rfl rfl (by kernel_rfl) (by kernel_rfl) (by kernel_rfl) (fun _ _ _ h => h) (yg_pick rfl (.tmp 24) (.tmp 25) (.const (.bool false)) rfl true rfl _ rfl) (by assumption) ?_
    simp only [Act.put, List.setIfInBounds_toArray, List.set_cons_zero, List.set_cons_succ]
    refine oneH 6 rfl (by kernel_rfl) (fun K' hK => ?_)
    go_simp
    refine hK _ _ ⟨E5.c0, E5.c1, G5.c0, G5.c1⟩ ?_
    clear hK
    refine oneH 7 rfl (by kernel_rfl) (fun K' hK => ?_)
    go_simp
    refine hK _ _ ⟨E6.c0, E6.c1, G6.c0, G6.c1⟩ ?_
    clear hK
    refine takeH 8 (some 6) (.bool o2) rfl rfl (by kernel_rfl) (by kernel_rfl) (by kernel_rfl) (fun _ _ _ h => h) (yg_assign rfl (.tmp 26) rfl _ rfl) ⟨E6.c0, E6.c1, G6.c0, G6.c1⟩ ?_
    simp only [Act.put, List.setIfInBounds_toArray, List.set_cons_zero, List.set_cons_succ]
    refine wpAnyH_done (by kernel_rfl) ?_ _
    clear hHeld R3 Q3 E3 G3 B3 bd' R4 Q4 E4 G4 B4 tn5 E5 G5 Q5 B5 tn6 E6 G6 B6 H3
    have hn1 : ¬ (w.heap.size + 1 + 1 = w.heap.size + 1 + 1 + 1) := by omega
    have hn2 : ¬ (w.heap.size + 1 + 1 + 1 = w.heap.size + 1 + 1) := by omega
    go_wp2
    (try simp only [Exit.inBlock, Exit.then])
    refine bodyPost_ret (v := .tuple #[.agg #[.pointer X, .pointer Y], .agg #[.pointer X', .pointer Y'], .bool o2]) ?_ rfl (HT.out X Y X' Y' _ HF.out.1 HF.out.2)
    rw [results_cell2_tmp rfl]
    go_simp

end Go.Proofs.Ytlpfjpbnedankaa
