/- Several small texts in one: ITwoSp, Spans, IFrom. -/
import Derived.Test.YtnngmkgkphkmhaaISpan
import Derived.Test.YtnngmkgkphkmhaaSgPM
import Derived.Test.YtnngmkgkphkmhaaSWhole
import Derived.Test.YtnngmkgkphkmhaaSOf
/- The program's twoSpans, by its contract. -/
namespace Go.Proofs.Ytnngmkgkphkmhaa
open Go.RowKit
set_option linter.unusedSimpArgs false

theorem results_cell2_tmp {fn : Func} {p q u : Tmp} {ty ty' : TypeId} (h : fn.results = #[.cell p ty, .cell q ty', .tmp u]) (tmps : Array Value) (P : Program) (w : World) :
    (results fn tmps).run P w = ((asAddr (tmps.getD p undef)).run P w).andThen fun a w₁ => ((loadVar ty a).run P w₁).andThen fun v w₂ => ((asAddr (tmps.getD q undef)).run P w₂).andThen fun b w₃ => ((loadVar ty' b).run P w₃).andThen fun v' w₄ => .ok (.tuple #[v, v', tmps.getD u undef]) w₄ := by
  simp only [results, h]
  simp [Sem.run_bind, Result.andThen]

/-- What spanFrom answers, in one form. -/
theorem spanFrom_b (va : Value) (a : Vh) (w : World) (ha : rowV w va a) (hla : a.1.2.length ≤ 1048576) (hlb : a.2.2.length ≤ 1048576) :
    Calls Try.prog 35 #[va] w fun e w' => ∃ (X Y : Option Addr), e = .returned (.tuple #[.agg #[.pointer X, .pointer Y], .bool (okV a)]) ∧ Below w.heap.size w w' ∧ (okV a = true → ∃ p q, X = some ⟨p, 0, none⟩ ∧ Y = some ⟨q, 0, none⟩ ∧ SG w' p (valW a.1) ∧ SG w' q (valW a.2) ∧ w.heap.size ≤ p ∧ w.heap.size ≤ q) := by
  refine (spanFrom_c va a w ha hla hlb).mono ?_
  rintro e w' (⟨hv, p, q, rfl, h1, h2, h3, h4, hb⟩ | ⟨hv, x, y, rfl, hb⟩)
  · exact ⟨_, _, by rw [hv], hb, fun _ => ⟨p, q, rfl, rfl, h1, h2, h3, h4⟩⟩
  · exact ⟨x, y, by rw [hv], hb, fun h => by rw [hv] at h; cases h⟩
theorem SG.tn {w w' : World} {b : Nat} {z : Int} {S : List Nat} (h : SG w b z) (ht : Tn S w w') (hS : b ∉ S) : SG w' b z :=
  ⟨(World.cell?_of_block (w := w) (a := ⟨b, 0, none⟩) (ht.block b h.lt hS)).trans h.sign, h.mag.tn ht hS⟩

/-- What twoSpans answers. -/
def spansA (a b : Vh) (w : World) (e : Ending) (w' : World) : Prop := ∃ (X Y X' Y' : Option Addr), e = .returned (.tuple #[.agg #[.pointer X, .pointer Y], .agg #[.pointer X', .pointer Y'], .bool (okV a && okV b)]) ∧ Below w.heap.size w w' ∧
  (okV a = true → okV b = true → ∃ p q p' q', X = some ⟨p, 0, none⟩ ∧ Y = some ⟨q, 0, none⟩ ∧ X' = some ⟨p', 0, none⟩ ∧ Y' = some ⟨q', 0, none⟩ ∧ SG w' p (valW a.1) ∧ SG w' q (valW a.2) ∧ SG w' p' (valW b.1) ∧ SG w' q' (valW b.2) ∧ w.heap.size ≤ p ∧ w.heap.size ≤ q ∧ w.heap.size ≤ p' ∧ w.heap.size ≤ q')

set_option maxRecDepth 20000 in
set_option maxHeartbeats 6400000 in
theorem twoSpans_c (va vb : Value) (a b : Vh) (w : World) (ha : rowV w va a) (hb : rowV w vb b) (hl0 : a.1.2.length ≤ 1048576) (hl1 : a.2.2.length ≤ 1048576) (hl2 : b.1.2.length ≤ 1048576) (hl3 : b.2.2.length ≤ 1048576) :
    Calls Try.prog 23 #[va, vb] w (spansA a b w) := by
  have kA := fun W (h : Below w.heap.size w W) => spanFrom_b va a W (ha.below h (Nat.le_refl _)) hl0 hl1
  have kB := fun W (h : Below w.heap.size w W) => spanFrom_b vb b W (hb.below h (Nat.le_refl _)) hl2 hl3
  have HS : Hid (∀ (o1 o2 : Bool) (X Y X' Y' : Option Addr) w', okV a = o1 → okV b = o2 → Below w.heap.size w w' → (o1 = true → o2 = true → ∃ p q p' q', X = some ⟨p, 0, none⟩ ∧ Y = some ⟨q, 0, none⟩ ∧ X' = some ⟨p', 0, none⟩ ∧ Y' = some ⟨q', 0, none⟩ ∧ SG w' p (valW a.1) ∧ SG w' q (valW a.2) ∧ SG w' p' (valW b.1) ∧ SG w' q' (valW b.2) ∧ w.heap.size ≤ p ∧ w.heap.size ≤ q ∧ w.heap.size ≤ p' ∧ w.heap.size ≤ q') → spansA a b w (.returned (.tuple #[.agg #[.pointer X, .pointer Y], .agg #[.pointer X', .pointer Y'], .bool (o1 && o2)])) w') := by
    intro o1 o2 X Y X' Y' w' e1 e2 hb h
    subst e1 e2
    exact ⟨X, Y, X', Y', rfl, hb, h⟩
  obtain ⟨o1, ho1⟩ : ∃ o, okV a = o := ⟨_, rfl⟩
  obtain ⟨o2, ho2⟩ : ∃ o, okV b = o := ⟨_, rfl⟩
  have HT := HS.out o1 o2
  have HT : Hid (∀ (X Y X' Y' : Option Addr) w', Below w.heap.size w w' → (o1 = true → o2 = true → ∃ p q p' q', X = some ⟨p, 0, none⟩ ∧ Y = some ⟨q, 0, none⟩ ∧ X' = some ⟨p', 0, none⟩ ∧ Y' = some ⟨q', 0, none⟩ ∧ SG w' p (valW a.1) ∧ SG w' q (valW a.2) ∧ SG w' p' (valW b.1) ∧ SG w' q' (valW b.2) ∧ w.heap.size ≤ p ∧ w.heap.size ≤ q ∧ w.heap.size ≤ p' ∧ w.heap.size ≤ q') → spansA a b w (.returned (.tuple #[.agg #[.pointer X, .pointer Y], .agg #[.pointer X', .pointer Y'], .bool (o1 && o2)])) w') := fun X Y X' Y' w' h1 h2 => HT X Y X' Y' w' ho1 ho2 h1 h2
  rw [ho1] at kA
  rw [ho2] at kB
  clear HS ho1 ho2
  obtain ⟨s, t, rfl, hs, ht⟩ := ha
  obtain ⟨u, v, rfl, hu, hv⟩ := hb
  obtain ⟨ad, cap, rfl, -⟩ := id hs
  obtain ⟨ae, cbp, rfl, -⟩ := id ht
  obtain ⟨bd, cap2, rfl, -⟩ := id hu
  obtain ⟨be, cbp2, rfl, -⟩ := id hv
  clear hs ht hu hv
  generalize valW a.1 = x1 at *
  generalize valW a.2 = y1 at *
  generalize valW b.1 = x2 at *
  generalize valW b.2 = y2 at *
  have s1 : (w.alloc (.cells #[.bool a.1.1, .slice ad a.1.2.length cap, .bool a.2.1, .slice ae a.2.2.length cbp] 30)).heap.size = w.heap.size + 1 := by simp
  have s2 : ((w.alloc (.cells #[.bool a.1.1, .slice ad a.1.2.length cap, .bool a.2.1, .slice ae a.2.2.length cbp] 30)).alloc (.cells #[.bool b.1.1, .slice bd b.1.2.length cap2, .bool b.2.1, .slice be b.2.2.length cbp2] 30)).heap.size = w.heap.size + 1 + 1 := by simp
  have s3 : (((w.alloc (.cells #[.bool a.1.1, .slice ad a.1.2.length cap, .bool a.2.1, .slice ae a.2.2.length cbp] 30)).alloc (.cells #[.bool b.1.1, .slice bd b.1.2.length cap2, .bool b.2.1, .slice be b.2.2.length cbp2] 30)).alloc (.cells #[.pointer none, .pointer none] 47)).heap.size = w.heap.size + 1 + 1 + 1 := by simp
  have D0 := ((BoxV.made (w.alloc (.cells #[.bool a.1.1, .slice ad a.1.2.length cap, .bool a.2.1, .slice ae a.2.2.length cbp] 30)) (.bool b.1.1) (.slice bd b.1.2.length cap2) (.bool b.2.1) (.slice be b.2.2.length cbp2) 30).below (below1 _ (.cells #[.pointer none, .pointer none] 47)) (Nat.le_refl _)).below (below1 _ (.cells #[.pointer none, .pointer none] 47)) (Nat.le_refl _)
  rw [s1] at D0
  have R0 := (BoxW.made ((w.alloc (.cells #[.bool a.1.1, .slice ad a.1.2.length cap, .bool a.2.1, .slice ae a.2.2.length cbp] 30)).alloc (.cells #[.bool b.1.1, .slice bd b.1.2.length cap2, .bool b.2.1, .slice be b.2.2.length cbp2] 30)) (.pointer none) (.pointer none) 47).below (below1 _ (.cells #[.pointer none, .pointer none] 47)) (Nat.le_refl _)
  rw [s2] at R0
  have Q0 := BoxW.made (((w.alloc (.cells #[.bool a.1.1, .slice ad a.1.2.length cap, .bool a.2.1, .slice ae a.2.2.length cbp] 30)).alloc (.cells #[.bool b.1.1, .slice bd b.1.2.length cap2, .bool b.2.1, .slice be b.2.2.length cbp2] 30)).alloc (.cells #[.pointer none, .pointer none] 47)) (.pointer none) (.pointer none) 47
  rw [s3] at Q0
  have B0 := (below3 w (.cells #[.bool a.1.1, .slice ad a.1.2.length cap, .bool a.2.1, .slice ae a.2.2.length cbp] 30) (.cells #[.bool b.1.1, .slice bd b.1.2.length cap2, .bool b.2.1, .slice be b.2.2.length cbp2] 30) (.cells #[.pointer none, .pointer none] 47)).alloc (by simp; omega) (.cells #[.pointer none, .pointer none] 47)
  clear s1 s2 s3
  go_enter Try.func23, Try.ntmps23
  go_wp2_with fail
  refine (kA _ B0).mono ?_
  generalize (((w.alloc (.cells #[.bool a.1.1, .slice ad a.1.2.length cap, .bool a.2.1, .slice ae a.2.2.length cbp] 30)).alloc (.cells #[.bool b.1.1, .slice bd b.1.2.length cap2, .bool b.2.1, .slice be b.2.2.length cbp2] 30)).alloc (.cells #[.pointer none, .pointer none] 47)).alloc (.cells #[.pointer none, .pointer none] 47) = w0 at *
  rintro e w1 ⟨X, Y, rfl, b1, h1⟩
  have hQ0 := Q0.hi
  have D1 := (D0.below b1 (Nat.le_refl _)).below (below1 w1 (.cells #[.pointer X, .pointer Y] 47)) (Nat.le_refl _)
  have R1 := (R0.below b1 (Nat.le_refl _)).below (below1 w1 (.cells #[.pointer X, .pointer Y] 47)) (Nat.le_refl _)
  have Q1 := (Q0.below b1 (Nat.le_refl _)).below (below1 w1 (.cells #[.pointer X, .pointer Y] 47)) (Nat.le_refl _)
  have E1 := BoxW.made w1 (.pointer X) (.pointer Y) 47
  have B1 := (B0.trans (b1.mono B0.size)).trans ((below1 w1 (.cells #[.pointer X, .pointer Y] 47)).mono (B0.trans (b1.mono B0.size)).size)
  have hf7 : w0.heap.size ≤ w1.heap.size := b1.size
  have H1 : Hid (o1 = true → ∃ p q, X = some ⟨p, 0, none⟩ ∧ Y = some ⟨q, 0, none⟩ ∧ SG (w1.alloc (.cells #[.pointer X, .pointer Y] 47)) p x1 ∧ SG (w1.alloc (.cells #[.pointer X, .pointer Y] 47)) q y1 ∧ w0.heap.size ≤ p ∧ w0.heap.size ≤ q) := fun ho => by
    obtain ⟨p, q, e1, e2, s1, s2, g1, g2⟩ := h1 ho
    exact ⟨p, q, e1, e2, s1.below (below1 w1 (.cells #[.pointer X, .pointer Y] 47)) s1.lt, s2.below (below1 w1 (.cells #[.pointer X, .pointer Y] 47)) s2.lt, g1, g2⟩
  clear h1 b1 D0 R0 Q0 kA
  have c0 := D1.c0
  have c1 := D1.c1
  have c2 := D1.c2
  have c3 := D1.c3
  go_wp2_with fail
  clear c0 c1 c2 c3
  refine (kB _ B1).mono ?_
  generalize w1.alloc (.cells #[.pointer X, .pointer Y] 47) = w2 at *
  generalize w1.heap.size = f7 at *
  rintro e w3 ⟨X', Y', rfl, b3, h3⟩
  have R3 := (R1.below b3 (Nat.le_refl _)).below (below1 w3 (.cells #[.pointer X', .pointer Y'] 47)) (Nat.le_refl _)
  have Q3 := (Q1.below b3 (Nat.le_refl _)).below (below1 w3 (.cells #[.pointer X', .pointer Y'] 47)) (Nat.le_refl _)
  have E3 := (E1.below b3 (Nat.le_refl _)).below (below1 w3 (.cells #[.pointer X', .pointer Y'] 47)) (Nat.le_refl _)
  have G3 := BoxW.made w3 (.pointer X') (.pointer Y') 47
  have B3 := (B1.trans (b3.mono B1.size)).trans ((below1 w3 (.cells #[.pointer X', .pointer Y'] 47)).mono (B1.trans (b3.mono B1.size)).size)
  have hE1 := E1.hi
  have hf9 : w2.heap.size ≤ w3.heap.size := b3.size
  have H3 : Hid (o1 = true → o2 = true → ∃ p q p' q', X = some ⟨p, 0, none⟩ ∧ Y = some ⟨q, 0, none⟩ ∧ X' = some ⟨p', 0, none⟩ ∧ Y' = some ⟨q', 0, none⟩ ∧ SG (w3.alloc (.cells #[.pointer X', .pointer Y'] 47)) p x1 ∧ SG (w3.alloc (.cells #[.pointer X', .pointer Y'] 47)) q y1 ∧ SG (w3.alloc (.cells #[.pointer X', .pointer Y'] 47)) p' x2 ∧ SG (w3.alloc (.cells #[.pointer X', .pointer Y'] 47)) q' y2 ∧ w0.heap.size ≤ p ∧ w0.heap.size ≤ q ∧ w0.heap.size ≤ p' ∧ w0.heap.size ≤ q') := fun hA hB => by
    obtain ⟨p, q, e1, e2, s1, s2, g1, g2⟩ := H1.out hA
    obtain ⟨p', q', e3, e4, s3, s4, g3, g4⟩ := h3 hB
    have s1' := s1.below b3 s1.lt
    have s2' := s2.below b3 s2.lt
    exact ⟨p, q, p', q', e1, e2, e3, e4, s1'.below (below1 w3 (.cells #[.pointer X', .pointer Y'] 47)) s1'.lt, s2'.below (below1 w3 (.cells #[.pointer X', .pointer Y'] 47)) s2'.lt, s3.below (below1 w3 (.cells #[.pointer X', .pointer Y'] 47)) s3.lt, s4.below (below1 w3 (.cells #[.pointer X', .pointer Y'] 47)) s4.lt, g1, g2, by omega, by omega⟩
  clear h3 b3 D1 R1 Q1 E1 kB H1
  go_wp2_with fail
  generalize w3.alloc (.cells #[.pointer X', .pointer Y'] 47) = w4 at *
  generalize w3.heap.size = f9 at *
  have bd' := (Below.refl w4.heap.size w4).drew
  refine wp_region_held_drew (S := fun W => W.cell? ⟨f7, 0, none⟩ = some (.pointer X) ∧ W.cell? ⟨f7, 1, none⟩ = some (.pointer Y) ∧ W.cell? ⟨f9, 0, none⟩ = some (.pointer X') ∧ W.cell? ⟨f9, 1, none⟩ = some (.pointer Y')) (by kernel_rfl) ⟨(E3.below bd' (Nat.le_refl _)).c0, (E3.below bd' (Nat.le_refl _)).c1, (G3.below bd' (Nat.le_refl _)).c0, (G3.below bd' (Nat.le_refl _)).c1⟩ ?_
  intro hHeld
  generalize w4.drew = w5 at *
  have R4 := R3.below bd' (Nat.le_refl _)
  have Q4 := Q3.below bd' (Nat.le_refl _)
  have E4 := E3.below bd' (Nat.le_refl _)
  have G4 := G3.below bd' (Nat.le_refl _)
  have B4 := B3.trans (bd'.mono B3.size)
  have tn5 : Tn [w.heap.size + 1 + 1] w5 ((w5.setCell ⟨w.heap.size + 1 + 1, 0, none⟩ (.pointer X)).setCell ⟨w.heap.size + 1 + 1, 1, none⟩ (.pointer Y)) := (tnC _ (w.heap.size + 1 + 1) 0 _).trans (tnC _ (w.heap.size + 1 + 1) 1 _)
  have E5 := E4.tn tn5 (fun k hk hs => by simp at hk hs; omega)
  have G5 := G4.tn tn5 (fun k hk hs => by simp at hk hs; omega)
  have Q5 := Q4.tn tn5 (fun k hk hs => by simp at hk hs; omega)
  have B5 := (B4.setCell (p := ⟨w.heap.size + 1 + 1, 0, none⟩) (by show w.heap.size ≤ w.heap.size + 1 + 1; omega) (.pointer X)).setCell (p := ⟨w.heap.size + 1 + 1, 1, none⟩) (by show w.heap.size ≤ w.heap.size + 1 + 1; omega) (.pointer Y)
  have tn6 : Tn [w.heap.size + 1 + 1 + 1] ((w5.setCell ⟨w.heap.size + 1 + 1, 0, none⟩ (.pointer X)).setCell ⟨w.heap.size + 1 + 1, 1, none⟩ (.pointer Y)) ((((w5.setCell ⟨w.heap.size + 1 + 1, 0, none⟩ (.pointer X)).setCell ⟨w.heap.size + 1 + 1, 1, none⟩ (.pointer Y)).setCell ⟨w.heap.size + 1 + 1 + 1, 0, none⟩ (.pointer X')).setCell ⟨w.heap.size + 1 + 1 + 1, 1, none⟩ (.pointer Y')) := (tnC _ (w.heap.size + 1 + 1 + 1) 0 _).trans (tnC _ (w.heap.size + 1 + 1 + 1) 1 _)
  have E6 := E5.tn tn6 (fun k hk hs => by simp at hk hs; omega)
  have G6 := G5.tn tn6 (fun k hk hs => by simp at hk hs; omega)
  have B6 := (B5.setCell (p := ⟨w.heap.size + 1 + 1 + 1, 0, none⟩) (by show w.heap.size ≤ w.heap.size + 1 + 1 + 1; omega) (.pointer X')).setCell (p := ⟨w.heap.size + 1 + 1 + 1, 1, none⟩) (by show w.heap.size ≤ w.heap.size + 1 + 1 + 1; omega) (.pointer Y')
  have HF : Hid (Below w.heap.size w _ ∧ (o1 = true → o2 = true → ∃ p q p' q', X = some ⟨p, 0, none⟩ ∧ Y = some ⟨q, 0, none⟩ ∧ X' = some ⟨p', 0, none⟩ ∧ Y' = some ⟨q', 0, none⟩ ∧ SG _ p x1 ∧ SG _ q y1 ∧ SG _ p' x2 ∧ SG _ q' y2 ∧ w.heap.size ≤ p ∧ w.heap.size ≤ q ∧ w.heap.size ≤ p' ∧ w.heap.size ≤ q')) := ⟨B6, fun hA hB => by
    obtain ⟨p, q, p', q', e1, e2, e3, e4, s1, s2, s3, s4, g1, g2, g3, g4⟩ := H3.out hA hB
    have up : ∀ r z, w0.heap.size ≤ r → SG w4 r z → SG ((((w5.setCell ⟨w.heap.size + 1 + 1, 0, none⟩ (.pointer X)).setCell ⟨w.heap.size + 1 + 1, 1, none⟩ (.pointer Y)).setCell ⟨w.heap.size + 1 + 1 + 1, 0, none⟩ (.pointer X')).setCell ⟨w.heap.size + 1 + 1 + 1, 1, none⟩ (.pointer Y')) r z := fun r z hr h => ((h.below bd' h.lt).tn tn5 (by simp; omega)).tn tn6 (by simp; omega)
    exact ⟨p, q, p', q', e1, e2, e3, e4, up _ _ g1 s1, up _ _ g2 s2, up _ _ g3 s3, up _ _ g4 s4, by omega, by omega, by omega, by omega⟩⟩
  have r0 := R4.c0
  have r1 := R4.c1
  have r2 := R4.f0
  have r3 := R4.f1
  have q0 := Q5.c0
  have q1 := Q5.c1
  have q2 := Q5.f0
  have q3 := Q5.f1
  refine takeH 0 (some 21) (.agg #[.pointer X, .pointer Y]) rfl rfl (by kernel_rfl) (by kernel_rfl) (by kernel_rfl) (fun _ _ _ h => h) (Or.inl ⟨rfl, fun W hW => by obtain ⟨_c, _d, _, _⟩ := hW; go_simp⟩) (by assumption) ?_
  simp only [Act.put, List.setIfInBounds_toArray, List.set_cons_zero, List.set_cons_succ]
  refine takeH 1 (some 22) (.agg #[.pointer X', .pointer Y']) rfl rfl (by kernel_rfl) (by kernel_rfl) (by kernel_rfl) (fun _ _ _ h => h) (Or.inl ⟨rfl, fun W hW => by obtain ⟨_, _, _c, _d⟩ := hW; go_simp⟩) (by assumption) ?_
  simp only [Act.put, List.setIfInBounds_toArray, List.set_cons_zero, List.set_cons_succ]
  refine takeH 2 (some 23) (.bool o1) rfl rfl (by kernel_rfl) (by kernel_rfl) (by kernel_rfl) (fun _ _ _ h => h) (yg_move rfl (.tmp 8) rfl _ rfl) (by assumption) ?_
  simp only [Act.put, List.setIfInBounds_toArray, List.set_cons_zero, List.set_cons_succ]
  refine takeH 3 (some 24) (.bool o1) rfl rfl (by kernel_rfl) (by kernel_rfl) (by kernel_rfl) (fun _ _ _ h => h) (yg_move rfl (.tmp 23) rfl _ rfl) (by assumption) ?_
  simp only [Act.put, List.setIfInBounds_toArray, List.set_cons_zero, List.set_cons_succ]
  cases o1
  · skip
    refine takeH 4 (some 25) (undef) rfl rfl (by kernel_rfl) (by kernel_rfl) (by kernel_rfl) (fun _ _ _ h => h) (yg_skip rfl) (by assumption) ?_
    simp only [Act.put, List.setIfInBounds_toArray, List.set_cons_zero, List.set_cons_succ]
    refine takeH 5 (some 26) (.bool false) rfl rfl (by kernel_rfl) (by kernel_rfl) (by kernel_rfl) (fun _ _ _ h => h) (yg_pick rfl (.tmp 24) (.tmp 25) (.const (.bool false)) rfl false rfl _ rfl) (by assumption) ?_
    simp only [Act.put, List.setIfInBounds_toArray, List.set_cons_zero, List.set_cons_succ]
    refine oneH 6 rfl (by kernel_rfl) (fun K' hK => ?_)
    go_simp
    refine hK _ _ ⟨E5.c0, E5.c1, G5.c0, G5.c1⟩ ?_
    clear hK
    refine oneH 7 rfl (by kernel_rfl) (fun K' hK => ?_)
    go_simp
    refine hK _ _ ⟨E6.c0, E6.c1, G6.c0, G6.c1⟩ ?_
    clear hK
    refine takeH 8 (some 6) (.bool false) rfl rfl (by kernel_rfl) (by kernel_rfl) (by kernel_rfl) (fun _ _ _ h => h) (yg_assign rfl (.tmp 26) rfl _ rfl) ⟨E6.c0, E6.c1, G6.c0, G6.c1⟩ ?_
    simp only [Act.put, List.setIfInBounds_toArray, List.set_cons_zero, List.set_cons_succ]
    refine wpAnyH_done (by kernel_rfl) ?_ _
    clear hHeld R3 Q3 E3 G3 B3 bd' R4 Q4 E4 G4 B4 tn5 E5 G5 Q5 B5 tn6 E6 G6 B6 H3
    have hn1 : ¬ (w.heap.size + 1 + 1 = w.heap.size + 1 + 1 + 1) := by omega
    have hn2 : ¬ (w.heap.size + 1 + 1 + 1 = w.heap.size + 1 + 1) := by omega
    go_wp2
    (try simp only [Exit.inBlock, Exit.then])
    refine bodyPost_ret (v := .tuple #[.agg #[.pointer X, .pointer Y], .agg #[.pointer X', .pointer Y'], .bool false]) ?_ rfl (HT.out X Y X' Y' _ HF.out.1 HF.out.2)
    rw [results_cell2_tmp rfl]
    go_simp
  · skip
    refine takeH 4 (some 25) (.bool o2) rfl rfl (by kernel_rfl) (by kernel_rfl) (by kernel_rfl) (fun _ _ _ h => h) (yg_move rfl (.tmp 10) rfl _ rfl) (by assumption) ?_
    simp only [Act.put, List.setIfInBounds_toArray, List.set_cons_zero, List.set_cons_succ]
    refine takeH 5 (some 26) (.bool o2) rfl rfl (by kernel_rfl) (by kernel_rfl) (by kernel_rfl) (fun _ _ _ h => h) (yg_pick rfl (.tmp 24) (.tmp 25) (.const (.bool false)) rfl true rfl _ rfl) (by assumption) ?_
    simp only [Act.put, List.setIfInBounds_toArray, List.set_cons_zero, List.set_cons_succ]
    refine oneH 6 rfl (by kernel_rfl) (fun K' hK => ?_)
    go_simp
    refine hK _ _ ⟨E5.c0, E5.c1, G5.c0, G5.c1⟩ ?_
    clear hK
    refine oneH 7 rfl (by kernel_rfl) (fun K' hK => ?_)
    go_simp
    refine hK _ _ ⟨E6.c0, E6.c1, G6.c0, G6.c1⟩ ?_
    clear hK
    refine takeH 8 (some 6) (.bool o2) rfl rfl (by kernel_rfl) (by kernel_rfl) (by kernel_rfl) (fun _ _ _ h => h) (yg_assign rfl (.tmp 26) rfl _ rfl) ⟨E6.c0, E6.c1, G6.c0, G6.c1⟩ ?_
    simp only [Act.put, List.setIfInBounds_toArray, List.set_cons_zero, List.set_cons_succ]
    refine wpAnyH_done (by kernel_rfl) ?_ _
    clear hHeld R3 Q3 E3 G3 B3 bd' R4 Q4 E4 G4 B4 tn5 E5 G5 Q5 B5 tn6 E6 G6 B6 H3
    have hn1 : ¬ (w.heap.size + 1 + 1 = w.heap.size + 1 + 1 + 1) := by omega
    have hn2 : ¬ (w.heap.size + 1 + 1 + 1 = w.heap.size + 1 + 1) := by omega
    go_wp2
    (try simp only [Exit.inBlock, Exit.then])
    refine bodyPost_ret (v := .tuple #[.agg #[.pointer X, .pointer Y], .agg #[.pointer X', .pointer Y'], .bool o2]) ?_ rfl (HT.out X Y X' Y' _ HF.out.1 HF.out.2)
    rw [results_cell2_tmp rfl]
    go_simp

end Go.Proofs.Ytnngmkgkphkmhaa

/- The program's spans made of spans: alone, addSpans, subSpans, negSpan, widerSpan, each by its contract. -/
namespace Go.Proofs.Ytnngmkgkphkmhaa
open Go.RowKit
set_option linter.unusedSimpArgs false

/-- A span whose ends are these two. -/
def spanE (x y : Int) (w : World) (e : Ending) (w' : World) : Prop := ∃ c d : Nat, e = .returned (.agg #[.pointer (some ⟨c, 0, none⟩), .pointer (some ⟨d, 0, none⟩)]) ∧ SG w' c x ∧ SG w' d y ∧ Below w.heap.size w w'

end Go.Proofs.Ytnngmkgkphkmhaa

/- The program's ivFrom, by its contract. -/
namespace Go.Proofs.Ytnngmkgkphkmhaa
open Go.RowKit
set_option linter.unusedSimpArgs false

/-- What fits is answered, else nothing and no. -/
def fitV (x y : Int) : Vh × Bool := if (fitW x).2 = true ∧ (fitW y).2 = true then (((fitW x).1, (fitW y).1), true) else (((false, []), (false, [])), false)
theorem fitV_len (x y : Int) : (fitV x y).1.1.2.length ≤ 1048576 ∧ (fitV x y).1.2.2.length ≤ 1048576 := by
  unfold fitV
  split
  · exact ⟨fitW_len x, fitW_len y⟩
  · simp

set_option maxRecDepth 20000 in
set_option maxHeartbeats 6400000 in
theorem ivFrom_c (p q : Nat) (x y : Int) (w : World) (hp : SG w p x) (hq : SG w q y) :
    Calls Try.prog 25 #[.agg #[.pointer (some ⟨p, 0, none⟩), .pointer (some ⟨q, 0, none⟩)]] w fun e w' => ∃ v, e = .returned (.tuple #[v, .bool (fitV x y).2]) ∧ ownsV w' w.heap.size v (fitV x y).1 ∧ Below w.heap.size w w' := by
  have kA := fun W (h : Below w.heap.size w W) => sWhole p x W (hp.below h hp.lt)
  have kB := fun W (h : Below w.heap.size w W) => sWhole q y W (hq.below h hq.lt)
  have HF : Hid (fitV x y = if (fitW x).2 = true ∧ (fitW y).2 = true then (((fitW x).1, (fitW y).1), true) else (((false, []), (false, [])), false)) := rfl
  obtain ⟨fv, hfv⟩ : ∃ f, fitV x y = f := ⟨_, rfl⟩
  rw [hfv] at HF
  rw [hfv]
  obtain ⟨⟨⟨ga, la⟩, oa⟩, hfa⟩ : ∃ f, fitW x = f := ⟨_, rfl⟩
  obtain ⟨⟨⟨gb, lb⟩, ob⟩, hfb⟩ : ∃ f, fitW y = f := ⟨_, rfl⟩
  rw [hfa] at kA HF
  rw [hfb] at kB HF
  clear hp hq hfv hfa hfb
  have s1 : (w.alloc (.cells #[.pointer (some ⟨p, 0, none⟩), .pointer (some ⟨q, 0, none⟩)] 47)).heap.size = w.heap.size + 1 := by simp
  have X0 := (BoxW.made w (.pointer (some ⟨p, 0, none⟩)) (.pointer (some ⟨q, 0, none⟩)) 47).below (below1 _ (.cells #[.bool false, .slice none 0 0, .bool false, .slice none 0 0] 30)) (Nat.le_refl _)
  have R0 := BoxV.made (w.alloc (.cells #[.pointer (some ⟨p, 0, none⟩), .pointer (some ⟨q, 0, none⟩)] 47)) (.bool false) (.slice none 0 0) (.bool false) (.slice none 0 0) 30
  rw [s1] at R0
  have B0 := below2 w (.cells #[.pointer (some ⟨p, 0, none⟩), .pointer (some ⟨q, 0, none⟩)] 47) (.cells #[.bool false, .slice none 0 0, .bool false, .slice none 0 0] 30)
  clear s1
  go_enter Try.func25, Try.ntmps25
  go_wp2_with fail
  refine (kA _ B0).mono ?_
  generalize (w.alloc (.cells #[.pointer (some ⟨p, 0, none⟩), .pointer (some ⟨q, 0, none⟩)] 47)).alloc (.cells #[.bool false, .slice none 0 0, .bool false, .slice none 0 0] 30) = w0 at *
  rintro e w1 ⟨v1, rfl, o1, b1⟩
  obtain ⟨sa, rfl, q1⟩ := o1
  obtain ⟨ad, cp, rfl, -⟩ := q1.row
  have q1' : ownsI w1 w0.heap.size (.slice ad la.length cp) la := q1
  have hR0 := R0.hi
  have bA := below1 w1 (.cells #[.bool ga, .slice ad la.length cp] 28)
  have X1 := (X0.below b1 (Nat.le_refl _)).below bA (Nat.le_refl _)
  have R1 := (R0.below b1 (Nat.le_refl _)).below bA (Nat.le_refl _)
  have E1 := BoxW.made w1 (.bool ga) (.slice ad la.length cp) 28
  have B1 := (B0.trans (b1.mono B0.size)).trans (bA.mono (B0.trans (b1.mono B0.size)).size)
  have q2 := ownsI.below q1' bA (Nat.le_refl _)
  have hw01 := b1.size
  clear q1 q1' b1 X0 R0 kA bA
  have c0 := X1.c0
  have c1 := X1.c1
  go_wp2_with fail
  clear c0 c1
  refine (kB _ B1).mono ?_
  generalize w1.alloc (.cells #[.bool ga, .slice ad la.length cp] 28) = w2 at *
  generalize w1.heap.size = f4 at *
  rintro e w3 ⟨v3, rfl, o3, b3⟩
  obtain ⟨sb, rfl, q3⟩ := o3
  obtain ⟨ae, cq, rfl, -⟩ := q3.row
  have q3' : ownsI w3 w2.heap.size (.slice ae lb.length cq) lb := q3
  have hE1 := E1.hi
  have hR1 := R1.hi
  have bB := below1 w3 (.cells #[.bool gb, .slice ae lb.length cq] 28)
  have R3 := (R1.below b3 (Nat.le_refl _)).below bB (Nat.le_refl _)
  have E3 := (E1.below b3 (Nat.le_refl _)).below bB (Nat.le_refl _)
  have G3 := BoxW.made w3 (.bool gb) (.slice ae lb.length cq) 28
  have B3 := (B1.trans (b3.mono B1.size)).trans (bB.mono (B1.trans (b3.mono B1.size)).size)
  have z2 := ownsI.below (ownsI.below q2 b3 (Nat.le_refl _)) bB (Nat.le_refl _)
  have z3 := ownsI.below q3' bB (Nat.le_refl _)
  have hap : Apart (blkI (.slice ad la.length cp)) (blkI (.slice ae lb.length cq)) := apart_of (fun k hk => (q2.ltb k hk).2) (fun k hk => (q3'.ltb k hk).1)
  have hw23 := b3.size
  clear q2 q3 q3' b3 X1 R1 E1 B1 kB bB
  have e0 := E3.c0
  have e1 := E3.c1
  have g0 := G3.c0
  have g1 := G3.c1
  have r0 := R3.c0
  have r1 := R3.c1
  have r2 := R3.c2
  have r3 := R3.c3
  have t0 := R3.f0
  have t1 := R3.f1
  have t2 := R3.f2
  have t3 := R3.f3
  by_cases hok : oa = true ∧ ob = true
  · obtain ⟨rfl, rfl⟩ := hok
    have HV : Hid (fv = (((ga, la), (gb, lb)), true)) := by show _ = _; rw [HF.out]; simp
    have HA : Hid (ownsI _ w0.heap.size (.slice ad la.length cp) la) := (((z2.other (w.heap.size + 1) 0 (by omega) (.bool ga)).other (w.heap.size + 1) 1 (by omega) (.slice ad la.length cp)).other (w.heap.size + 1) 2 (by omega) (.bool gb)).other (w.heap.size + 1) 3 (by omega) (.slice ae lb.length cq)
    have HZ : Hid (ownsI _ w2.heap.size (.slice ae lb.length cq) lb) := (((z3.other (w.heap.size + 1) 0 (by omega) (.bool ga)).other (w.heap.size + 1) 1 (by omega) (.slice ad la.length cp)).other (w.heap.size + 1) 2 (by omega) (.bool gb)).other (w.heap.size + 1) 3 (by omega) (.slice ae lb.length cq)
    have HB : Hid (Below w.heap.size w _) := (((B3.setCell (p := ⟨w.heap.size + 1, 0, none⟩) (by show w.heap.size ≤ w.heap.size + 1; omega) (.bool ga)).setCell (p := ⟨w.heap.size + 1, 1, none⟩) (by show w.heap.size ≤ w.heap.size + 1; omega) (.slice ad la.length cp)).setCell (p := ⟨w.heap.size + 1, 2, none⟩) (by show w.heap.size ≤ w.heap.size + 1; omega) (.bool gb)).setCell (p := ⟨w.heap.size + 1, 3, none⟩) (by show w.heap.size ≤ w.heap.size + 1; omega) (.slice ae lb.length cq)
    have HP : Hid (Apart (blkI (.slice ad la.length cp)) (blkI (.slice ae lb.length cq))) := hap
    have hb2 : w.heap.size ≤ w2.heap.size := by omega
    have hb0 : w.heap.size ≤ w0.heap.size := by omega
    clear z2 z3 R3 E3 G3 B3 hap HF
    go_wp2
    (try simp only [Exit.inBlock, Exit.then])
    refine bodyPost_ret (v := .tuple #[.agg #[.bool ga, .slice ad la.length cp, .bool gb, .slice ae lb.length cq], .bool true]) ?_ rfl ⟨_, by rw [HV.out], by rw [HV.out]; exact ⟨_, _, rfl, ownsI_mono HA.out hb0, ownsI_mono HZ.out hb2, HP.out⟩, HB.out⟩
    rw [results_cell_tmp rfl]
    go_simp
  · have HV : Hid (fv = (((false, []), (false, [])), false)) := by show _ = _; rw [HF.out, if_neg hok]
    have HB : Hid (Below w.heap.size w _) := (((B3.setCell (p := ⟨w.heap.size + 1, 0, none⟩) (by show w.heap.size ≤ w.heap.size + 1; omega) (.bool false)).setCell (p := ⟨w.heap.size + 1, 1, none⟩) (by show w.heap.size ≤ w.heap.size + 1; omega) (.slice none 0 0)).setCell (p := ⟨w.heap.size + 1, 2, none⟩) (by show w.heap.size ≤ w.heap.size + 1; omega) (.bool false)).setCell (p := ⟨w.heap.size + 1, 3, none⟩) (by show w.heap.size ≤ w.heap.size + 1; omega) (.slice none 0 0)
    clear z2 z3 R3 E3 G3 B3 hap HF
    cases oa
    · clear hok
      go_wp2
      (try simp only [Exit.inBlock, Exit.then])
      refine bodyPost_ret (v := .tuple #[.agg #[.bool false, .slice none 0 0, .bool false, .slice none 0 0], .bool false]) ?_ rfl ⟨_, by rw [HV.out], by rw [HV.out]; exact nilV _ _, HB.out⟩
      rw [results_cell_tmp rfl]
      go_simp
    · cases ob
      · clear hok
        go_wp2
        (try simp only [Exit.inBlock, Exit.then])
        refine bodyPost_ret (v := .tuple #[.agg #[.bool false, .slice none 0 0, .bool false, .slice none 0 0], .bool false]) ?_ rfl ⟨_, by rw [HV.out], by rw [HV.out]; exact nilV _ _, HB.out⟩
        rw [results_cell_tmp rfl]
        go_simp
      · exact absurd ⟨rfl, rfl⟩ hok

end Go.Proofs.Ytnngmkgkphkmhaa
