/- The law FnExactCommon: its walk. -/
import Derived.Test.YtnbkhocbncniiaaCommonS
import Derived.Test.YtnbkhocbncniiaaCutW
namespace Go.Proofs.Ytnbkhocbncniiaa
open Go.RowKit
set_option linter.unusedSimpArgs false

theorem wp_cutF {P : Program} {c : Code} {Q : Exit → Act → World → Prop} {a : Act} {w : World} (A : Nat → Act) (x y z : Value) (base : Nat) (W : World)
    (hA : c.wp P (atEnd fun a' w' => ∃ bx, a' = A bx ∧ base ≤ bx ∧ Box3 w' bx x y z ∧ Below base W w') a w)
    (hB : ∀ bx w', base ≤ bx → Box3 w' bx x y z → Below base W w' → Q .normal (A bx) w') : c.wp P Q a w :=
  wp_mono hA (atEnd_out fun a' w' ⟨bx, ha, h1, h2, h3⟩ => by subst ha; exact hB bx w' h1 h2 h3)
theorem cutF_in {A : Nat → Act} {x y z : Value} {base : Nat} {W : World} {a' : Act} {w' : World} (bx : Nat) (ha : a' = A bx) (h1 : base ≤ bx) (h2 : Box3 w' bx x y z) (h3 : Below base W w') :
    atEnd (fun a' w' => ∃ bx, a' = A bx ∧ base ≤ bx ∧ Box3 w' bx x y z ∧ Below base W w') .normal a' w' := ⟨bx, ha, h1, h2, h3⟩
theorem tn_three (w : World) (b : Nat) (x y z : Value) : Tn [b] w (((w.setCell ⟨b, 0, none⟩ x).setCell ⟨b, 1, none⟩ y).setCell ⟨b, 2, none⟩ z) := ((tn_one w b 0 x).trans (tn_one _ b 1 y)).trans (tn_one _ b 2 z)
theorem Box3.set3 {w : World} {b : Nat} {x y z : Value} (h : Box3 w b x y z) (x' y' z' : Value) : Box3 (((w.setCell ⟨b, 0, none⟩ x').setCell ⟨b, 1, none⟩ y').setCell ⟨b, 2, none⟩ z') b x' y' z' := by
  have c0 := h.c0
  have c1 := h.c1
  have c2 := h.c2
  have f0 := h.f0
  have f1 := h.f1
  have f2 := h.f2
  have k0 : (w.setCell ⟨b, 0, none⟩ x').cell? ⟨b, 0, none⟩ = some x' := World.cell?_setCell_same _ _ _ c0
  have k1 : (w.setCell ⟨b, 0, none⟩ x').cell? ⟨b, 1, none⟩ = some y := (World.cell?_setCell_other _ _ _ _ (by simp)).trans c1
  have k2 : (w.setCell ⟨b, 0, none⟩ x').cell? ⟨b, 2, none⟩ = some z := (World.cell?_setCell_other _ _ _ _ (by simp)).trans c2
  have l0 : ((w.setCell ⟨b, 0, none⟩ x').setCell ⟨b, 1, none⟩ y').cell? ⟨b, 0, none⟩ = some x' := (World.cell?_setCell_other _ _ _ _ (by simp)).trans k0
  have l1 : ((w.setCell ⟨b, 0, none⟩ x').setCell ⟨b, 1, none⟩ y').cell? ⟨b, 1, none⟩ = some y' := World.cell?_setCell_same _ _ _ k1
  have l2 : ((w.setCell ⟨b, 0, none⟩ x').setCell ⟨b, 1, none⟩ y').cell? ⟨b, 2, none⟩ = some z := (World.cell?_setCell_other _ _ _ _ (by simp)).trans k2
  refine ⟨?_, ?_, ?_, ?_, ?_, ?_, ?_⟩
  · have := h.hi; simpa [World.setCell] using this
  · exact (World.cell?_setCell_other _ _ _ _ (by simp)).trans l0
  · exact (World.cell?_setCell_other _ _ _ _ (by simp)).trans l1
  · exact World.cell?_setCell_same _ _ _ l2
  · simp [*]
  · simp [*]
  · simp [*]

set_option maxHeartbeats 1600000 in
theorem eqF3 (g : Bool) (m n : Int) (w : World) : Calls Try.prog 7 #[vF g m n, vF g m n] w fun e w' => e = .returned (.bool true) ∧ Below w.heap.size w w' := by
  have e0 : (g != g) = false := by simp
  have e1 : (m != m) = false := by simp
  have e2 : (n != n) = false := by simp
  go_enter Try.func7, Try.ntmps7
  go_wp2
  go_ret
  exact ⟨rfl, below2 _ _ _⟩

set_option maxRecDepth 20000 in
set_option maxHeartbeats 40000000 in
theorem walkCommon (g : Bool) (m n : Int) (g' : Bool) (m' n' : Int) (w : World) :
    Calls Try.prog 3 #[vF g m n, vF g' m' n'] w fun e w' => e = .returned (.bool true) ∧ Below w.heap.size w w' := by
  have s1 : (w.alloc (.cells #[.bool g, .int .i64 m, .int .i64 n] 23)).heap.size = w.heap.size + 1 := by simp
  have X := (Box3.made w (.bool g) (.int .i64 m) (.int .i64 n) 23).below (below1 _ (.cells #[.bool g', .int .i64 m', .int .i64 n'] 23)) (Nat.le_refl _)
  have Y := Box3.made (w.alloc (.cells #[.bool g, .int .i64 m, .int .i64 n] 23)) (.bool g') (.int .i64 m') (.int .i64 n') 23
  rw [s1] at Y
  have B := below2 w (.cells #[.bool g, .int .i64 m, .int .i64 n] 23) (.cells #[.bool g', .int .i64 m', .int .i64 n'] 23)
  clear s1
  have kT1 := fun W => toF g m n W
  have kT2 := fun W => toF g' m' n' W
  have kS := fun W => sCommon g m n g' m' n' W
  have kI := fun W => iCommon g m n g' m' n' W
  obtain ⟨rr, hrr⟩ : ∃ r, commonR g m n g' m' n' = r := ⟨_, rfl⟩
  simp only [hrr] at kS kI
  clear hrr
  go_enter Try.func3, Try.ntmps3
  go_wp2_with fail
  generalize (w.alloc (.cells #[.bool g, .int .i64 m, .int .i64 n] 23)).alloc (.cells #[.bool g', .int .i64 m', .int .i64 n'] 23) = w0 at *
  have hX := X.hi
  have hY := Y.hi
  apply wp_cutF (x := .bool rr.1.1) (y := .int .i64 rr.1.2.1) (z := .int .i64 rr.1.2.2) (base := w0.heap.size) (W := w0)
  case hA =>
    have C := (Below.refl w0.heap.size w0).drew
    have X := X.below C (Nat.le_refl _)
    have Y := Y.below C (Nat.le_refl _)
    refine wp_region_held_drew (S := fun W => W.cell? ⟨w.heap.size, 0, none⟩ = some (.bool g) ∧ W.cell? ⟨w.heap.size, 1, none⟩ = some (.int .i64 m) ∧ W.cell? ⟨w.heap.size, 2, none⟩ = some (.int .i64 n) ∧ W.cell? ⟨w.heap.size + 1, 0, none⟩ = some (.bool g') ∧ W.cell? ⟨w.heap.size + 1, 1, none⟩ = some (.int .i64 m') ∧ W.cell? ⟨w.heap.size + 1, 2, none⟩ = some (.int .i64 n')) (by kernel_rfl) ⟨X.c0, X.c1, X.c2, Y.c0, Y.c1, Y.c2⟩ ?_
    intro hHeld
    generalize w0.drew = v0 at *
    refine takeH 0 (some 10) (.agg #[.bool g, .int .i64 m, .int .i64 n]) rfl rfl (by kernel_rfl) (by kernel_rfl) (by kernel_rfl) (fun _ _ _ h => h) (Or.inl ⟨rfl, fun W hW => by obtain ⟨_a, _b, _c, _, _, _⟩ := hW; go_simp⟩) (by assumption) ?_
    simp only [Act.put, List.setIfInBounds_toArray, List.set_cons_zero, List.set_cons_succ]
    refine takeH 2 (some 12) (.agg #[.bool g', .int .i64 m', .int .i64 n']) rfl rfl (by kernel_rfl) (by kernel_rfl) (by kernel_rfl) (fun _ _ _ h => h) (Or.inl ⟨rfl, fun W hW => by obtain ⟨_, _, _, _a, _b, _c⟩ := hW; go_simp⟩) (by assumption) ?_
    simp only [Act.put, List.setIfInBounds_toArray, List.set_cons_zero, List.set_cons_succ]
    clear hHeld
    refine twoH 1 8 rfl rfl (by kernel_rfl) (fun K' hK => ?_) (fun K' hK => ?_)
    · skip
      go_simp
      refine (kT1 _).mono ?_
      rintro e v1 ⟨rfl, b1⟩
      have X := X.below b1 (Nat.le_refl _)
      have Y := Y.below b1 (Nat.le_refl _)
      have C := C.trans (b1.mono C.size)
      refine hK _ _ ⟨X.c0, X.c1, X.c2, Y.c0, Y.c1, Y.c2⟩ ?_
      clear hK
      refine twoH 3 8 rfl rfl (by kernel_rfl) (fun K' hK => ?_) (fun K' hK => ?_)
      · skip
        go_simp
        refine (kT2 _).mono ?_
        rintro e v2 ⟨rfl, b2⟩
        have X := X.below b2 (Nat.le_refl _)
        have Y := Y.below b2 (Nat.le_refl _)
        have C := C.trans (b2.mono C.size)
        refine hK _ _ ⟨X.c0, X.c1, X.c2, Y.c0, Y.c1, Y.c2⟩ ?_
        clear hK
        refine twoH 4 8 rfl rfl (by kernel_rfl) (fun K' hK => ?_) (fun K' hK => ?_)
        · skip
          go_simp
          refine (kS _).mono ?_
          rintro e v3 ⟨rfl, b3⟩
          have X := X.below b3 (Nat.le_refl _)
          have Y := Y.below b3 (Nat.le_refl _)
          have C := C.trans (b3.mono C.size)
          refine hK _ _ ⟨X.c0, X.c1, X.c2, Y.c0, Y.c1, Y.c2⟩ ?_
          clear hK
          have hHeld := (⟨X.c0, X.c1, X.c2, Y.c0, Y.c1, Y.c2⟩ : _ ∧ _ ∧ _ ∧ _ ∧ _ ∧ _)
          refine takeH 5 (some 9) (.tuple #[vF rr.1.1 rr.1.2.1 rr.1.2.2, .bool rr.2]) rfl rfl (by kernel_rfl) (by kernel_rfl) (by kernel_rfl) (fun _ _ _ h => h) (yg_move rfl (.tmp 14) rfl _ rfl) (by assumption) ?_
          simp only [Act.put, List.setIfInBounds_toArray, List.set_cons_zero, List.set_cons_succ]
          refine takeH 6 (some 15) (vF rr.1.1 rr.1.2.1 rr.1.2.2) rfl rfl (by kernel_rfl) (by kernel_rfl) (by kernel_rfl) (fun _ _ _ h => h) (Or.inl ⟨rfl, fun W hW => by obtain _ := hW; go_simp⟩) (by assumption) ?_
          simp only [Act.put, List.setIfInBounds_toArray, List.set_cons_zero, List.set_cons_succ]
          refine takeH 7 (some 16) (.bool rr.2) rfl rfl (by kernel_rfl) (by kernel_rfl) (by kernel_rfl) (fun _ _ _ h => h) (Or.inl ⟨rfl, fun W hW => by obtain _ := hW; go_simp⟩) (by assumption) ?_
          simp only [Act.put, List.setIfInBounds_toArray, List.set_cons_zero, List.set_cons_succ]
          clear hHeld
          refine oneH 8 rfl (by kernel_rfl) (fun K' hK => ?_)
          go_simp
          have hcur := C.size
          have bz := below1 v3 (.cells #[.bool false, .int .i64 0, .int .i64 0] 24)
          have O := Box3.made v3 (.bool false) (.int .i64 0) (.int .i64 0) 24
          have X := X.below bz (Nat.le_refl _)
          have Y := Y.below bz (Nat.le_refl _)
          have C := C.trans (bz.mono C.size)
          refine hK _ _ ⟨X.c0, X.c1, X.c2, Y.c0, Y.c1, Y.c2⟩ ?_
          clear hK
          have hbx : w0.heap.size ≤ v3.heap.size := hcur
          have hbl : ∀ k, k < w0.heap.size → k ≠ v3.heap.size := fun k hk => by omega
          clear bz
          generalize v3.alloc (.cells #[.bool false, .int .i64 0, .int .i64 0] 24) = v4 at *
          generalize v3.heap.size = bx at *
          have hHeld := (⟨X.c0, X.c1, X.c2, Y.c0, Y.c1, Y.c2⟩ : _ ∧ _ ∧ _ ∧ _ ∧ _ ∧ _)
          have t9 := tn_three v4 bx (.bool rr.1.1) (.int .i64 rr.1.2.1) (.int .i64 rr.1.2.2)
          have X9 := X.tn t9 (by simp; exact fun e => hbl _ hX e)
          have Y9 := Y.tn t9 (by simp; exact fun e => hbl _ hY e)
          have O9 := O.set3 (.bool rr.1.1) (.int .i64 rr.1.2.1) (.int .i64 rr.1.2.2)
          have C9 := ((C.setCell (p := ⟨bx, 0, none⟩) hbx (.bool rr.1.1)).setCell (p := ⟨bx, 1, none⟩) hbx (.int .i64 rr.1.2.1)).setCell (p := ⟨bx, 2, none⟩) hbx (.int .i64 rr.1.2.2)
          have u0 := O.c0
          have u1 := O.c1
          have u2 := O.c2
          have u3 := O.f0
          have u4 := O.f1
          have u5 := O.f2
          refine oneH 9 rfl (by kernel_rfl) (fun K' hK => ?_)
          go_simp
          refine hK _ _ ⟨X9.c0, X9.c1, X9.c2, Y9.c0, Y9.c1, Y9.c2⟩ ?_
          clear hK hHeld
          have hHeld := (⟨X9.c0, X9.c1, X9.c2, Y9.c0, Y9.c1, Y9.c2⟩ : _ ∧ _ ∧ _ ∧ _ ∧ _ ∧ _)
          refine takeH 10 (some 6) (.bool rr.2) rfl rfl (by kernel_rfl) (by kernel_rfl) (by kernel_rfl) (fun _ _ _ h => h) (yg_assign rfl (.tmp 16) rfl _ rfl) (by assumption) ?_
          simp only [Act.put, List.setIfInBounds_toArray, List.set_cons_zero, List.set_cons_succ]
          refine wpAnyH_done (by kernel_rfl) ?_ _
          exact cutF_in bx rfl hbx O9 C9
        · skip
          go_simp
          have hcur := C.size
          have bz := below1 v2 (.cells #[.bool false, .int .i64 0, .int .i64 0] 24)
          have O := Box3.made v2 (.bool false) (.int .i64 0) (.int .i64 0) 24
          have X := X.below bz (Nat.le_refl _)
          have Y := Y.below bz (Nat.le_refl _)
          have C := C.trans (bz.mono C.size)
          refine hK _ _ ⟨X.c0, X.c1, X.c2, Y.c0, Y.c1, Y.c2⟩ ?_
          clear hK
          have hbx : w0.heap.size ≤ v2.heap.size := hcur
          have hbl : ∀ k, k < w0.heap.size → k ≠ v2.heap.size := fun k hk => by omega
          clear bz
          generalize v2.alloc (.cells #[.bool false, .int .i64 0, .int .i64 0] 24) = v5 at *
          generalize v2.heap.size = bx at *
          refine oneH 4 rfl (by kernel_rfl) (fun K' hK => ?_)
          go_simp
          refine (kS _).mono ?_
          rintro e v6 ⟨rfl, b6⟩
          have X := X.below b6 (Nat.le_refl _)
          have Y := Y.below b6 (Nat.le_refl _)
          have C := C.trans (b6.mono C.size)
          have O := O.below b6 (Nat.le_refl _)
          refine hK _ _ ⟨X.c0, X.c1, X.c2, Y.c0, Y.c1, Y.c2⟩ ?_
          clear hK
          have hHeld := (⟨X.c0, X.c1, X.c2, Y.c0, Y.c1, Y.c2⟩ : _ ∧ _ ∧ _ ∧ _ ∧ _ ∧ _)
          refine takeH 5 (some 9) (.tuple #[vF rr.1.1 rr.1.2.1 rr.1.2.2, .bool rr.2]) rfl rfl (by kernel_rfl) (by kernel_rfl) (by kernel_rfl) (fun _ _ _ h => h) (yg_move rfl (.tmp 14) rfl _ rfl) (by assumption) ?_
          simp only [Act.put, List.setIfInBounds_toArray, List.set_cons_zero, List.set_cons_succ]
          refine takeH 6 (some 15) (vF rr.1.1 rr.1.2.1 rr.1.2.2) rfl rfl (by kernel_rfl) (by kernel_rfl) (by kernel_rfl) (fun _ _ _ h => h) (Or.inl ⟨rfl, fun W hW => by obtain _ := hW; go_simp⟩) (by assumption) ?_
          simp only [Act.put, List.setIfInBounds_toArray, List.set_cons_zero, List.set_cons_succ]
          refine takeH 7 (some 16) (.bool rr.2) rfl rfl (by kernel_rfl) (by kernel_rfl) (by kernel_rfl) (fun _ _ _ h => h) (Or.inl ⟨rfl, fun W hW => by obtain _ := hW; go_simp⟩) (by assumption) ?_
          simp only [Act.put, List.setIfInBounds_toArray, List.set_cons_zero, List.set_cons_succ]
          clear hHeld
          have hHeld := (⟨X.c0, X.c1, X.c2, Y.c0, Y.c1, Y.c2⟩ : _ ∧ _ ∧ _ ∧ _ ∧ _ ∧ _)
          have t9 := tn_three v6 bx (.bool rr.1.1) (.int .i64 rr.1.2.1) (.int .i64 rr.1.2.2)
          have X9 := X.tn t9 (by simp; exact fun e => hbl _ hX e)
          have Y9 := Y.tn t9 (by simp; exact fun e => hbl _ hY e)
          have O9 := O.set3 (.bool rr.1.1) (.int .i64 rr.1.2.1) (.int .i64 rr.1.2.2)
          have C9 := ((C.setCell (p := ⟨bx, 0, none⟩) hbx (.bool rr.1.1)).setCell (p := ⟨bx, 1, none⟩) hbx (.int .i64 rr.1.2.1)).setCell (p := ⟨bx, 2, none⟩) hbx (.int .i64 rr.1.2.2)
          have u0 := O.c0
          have u1 := O.c1
          have u2 := O.c2
          have u3 := O.f0
          have u4 := O.f1
          have u5 := O.f2
          refine oneH 9 rfl (by kernel_rfl) (fun K' hK => ?_)
          go_simp
          refine hK _ _ ⟨X9.c0, X9.c1, X9.c2, Y9.c0, Y9.c1, Y9.c2⟩ ?_
          clear hK hHeld
          have hHeld := (⟨X9.c0, X9.c1, X9.c2, Y9.c0, Y9.c1, Y9.c2⟩ : _ ∧ _ ∧ _ ∧ _ ∧ _ ∧ _)
          refine takeH 10 (some 6) (.bool rr.2) rfl rfl (by kernel_rfl) (by kernel_rfl) (by kernel_rfl) (fun _ _ _ h => h) (yg_assign rfl (.tmp 16) rfl _ rfl) (by assumption) ?_
          simp only [Act.put, List.setIfInBounds_toArray, List.set_cons_zero, List.set_cons_succ]
          refine wpAnyH_done (by kernel_rfl) ?_ _
          exact cutF_in bx rfl hbx O9 C9
      · skip
        go_simp
        have hcur := C.size
        have bz := below1 v1 (.cells #[.bool false, .int .i64 0, .int .i64 0] 24)
        have O := Box3.made v1 (.bool false) (.int .i64 0) (.int .i64 0) 24
        have X := X.below bz (Nat.le_refl _)
        have Y := Y.below bz (Nat.le_refl _)
        have C := C.trans (bz.mono C.size)
        refine hK _ _ ⟨X.c0, X.c1, X.c2, Y.c0, Y.c1, Y.c2⟩ ?_
        clear hK
        have hbx : w0.heap.size ≤ v1.heap.size := hcur
        have hbl : ∀ k, k < w0.heap.size → k ≠ v1.heap.size := fun k hk => by omega
        clear bz
        generalize v1.alloc (.cells #[.bool false, .int .i64 0, .int .i64 0] 24) = v7 at *
        generalize v1.heap.size = bx at *
        refine oneH 3 rfl (by kernel_rfl) (fun K' hK => ?_)
        go_simp
        refine (kT2 _).mono ?_
        rintro e v8 ⟨rfl, b8⟩
        have X := X.below b8 (Nat.le_refl _)
        have Y := Y.below b8 (Nat.le_refl _)
        have C := C.trans (b8.mono C.size)
        have O := O.below b8 (Nat.le_refl _)
        refine hK _ _ ⟨X.c0, X.c1, X.c2, Y.c0, Y.c1, Y.c2⟩ ?_
        clear hK
        refine oneH 4 rfl (by kernel_rfl) (fun K' hK => ?_)
        go_simp
        refine (kS _).mono ?_
        rintro e v9 ⟨rfl, b9⟩
        have X := X.below b9 (Nat.le_refl _)
        have Y := Y.below b9 (Nat.le_refl _)
        have C := C.trans (b9.mono C.size)
        have O := O.below b9 (Nat.le_refl _)
        refine hK _ _ ⟨X.c0, X.c1, X.c2, Y.c0, Y.c1, Y.c2⟩ ?_
        clear hK
        have hHeld := (⟨X.c0, X.c1, X.c2, Y.c0, Y.c1, Y.c2⟩ : _ ∧ _ ∧ _ ∧ _ ∧ _ ∧ _)
        refine takeH 5 (some 9) (.tuple #[vF rr.1.1 rr.1.2.1 rr.1.2.2, .bool rr.2]) rfl rfl (by kernel_rfl) (by kernel_rfl) (by kernel_rfl) (fun _ _ _ h => h) (yg_move rfl (.tmp 14) rfl _ rfl) (by assumption) ?_
        simp only [Act.put, List.setIfInBounds_toArray, List.set_cons_zero, List.set_cons_succ]
        refine takeH 6 (some 15) (vF rr.1.1 rr.1.2.1 rr.1.2.2) rfl rfl (by kernel_rfl) (by kernel_rfl) (by kernel_rfl) (fun _ _ _ h => h) (Or.inl ⟨rfl, fun W hW => by obtain _ := hW; go_simp⟩) (by assumption) ?_
        simp only [Act.put, List.setIfInBounds_toArray, List.set_cons_zero, List.set_cons_succ]
        refine takeH 7 (some 16) (.bool rr.2) rfl rfl (by kernel_rfl) (by kernel_rfl) (by kernel_rfl) (fun _ _ _ h => h) (Or.inl ⟨rfl, fun W hW => by obtain _ := hW; go_simp⟩) (by assumption) ?_
        simp only [Act.put, List.setIfInBounds_toArray, List.set_cons_zero, List.set_cons_succ]
        clear hHeld
        have hHeld := (⟨X.c0, X.c1, X.c2, Y.c0, Y.c1, Y.c2⟩ : _ ∧ _ ∧ _ ∧ _ ∧ _ ∧ _)
        have t9 := tn_three v9 bx (.bool rr.1.1) (.int .i64 rr.1.2.1) (.int .i64 rr.1.2.2)
        have X9 := X.tn t9 (by simp; exact fun e => hbl _ hX e)
        have Y9 := Y.tn t9 (by simp; exact fun e => hbl _ hY e)
        have O9 := O.set3 (.bool rr.1.1) (.int .i64 rr.1.2.1) (.int .i64 rr.1.2.2)
        have C9 := ((C.setCell (p := ⟨bx, 0, none⟩) hbx (.bool rr.1.1)).setCell (p := ⟨bx, 1, none⟩) hbx (.int .i64 rr.1.2.1)).setCell (p := ⟨bx, 2, none⟩) hbx (.int .i64 rr.1.2.2)
        have u0 := O.c0
        have u1 := O.c1
        have u2 := O.c2
        have u3 := O.f0
        have u4 := O.f1
        have u5 := O.f2
        refine oneH 9 rfl (by kernel_rfl) (fun K' hK => ?_)
        go_simp
        refine hK _ _ ⟨X9.c0, X9.c1, X9.c2, Y9.c0, Y9.c1, Y9.c2⟩ ?_
        clear hK hHeld
        have hHeld := (⟨X9.c0, X9.c1, X9.c2, Y9.c0, Y9.c1, Y9.c2⟩ : _ ∧ _ ∧ _ ∧ _ ∧ _ ∧ _)
        refine takeH 10 (some 6) (.bool rr.2) rfl rfl (by kernel_rfl) (by kernel_rfl) (by kernel_rfl) (fun _ _ _ h => h) (yg_assign rfl (.tmp 16) rfl _ rfl) (by assumption) ?_
        simp only [Act.put, List.setIfInBounds_toArray, List.set_cons_zero, List.set_cons_succ]
        refine wpAnyH_done (by kernel_rfl) ?_ _
        exact cutF_in bx rfl hbx O9 C9
    · skip
      go_simp
      have hcur := C.size
      have bz := below1 v0 (.cells #[.bool false, .int .i64 0, .int .i64 0] 24)
      have O := Box3.made v0 (.bool false) (.int .i64 0) (.int .i64 0) 24
      have X := X.below bz (Nat.le_refl _)
      have Y := Y.below bz (Nat.le_refl _)
      have C := C.trans (bz.mono C.size)
      refine hK _ _ ⟨X.c0, X.c1, X.c2, Y.c0, Y.c1, Y.c2⟩ ?_
      clear hK
      have hbx : w0.heap.size ≤ v0.heap.size := hcur
      have hbl : ∀ k, k < w0.heap.size → k ≠ v0.heap.size := fun k hk => by omega
      clear bz
      generalize v0.alloc (.cells #[.bool false, .int .i64 0, .int .i64 0] 24) = v10 at *
      generalize v0.heap.size = bx at *
      refine oneH 1 rfl (by kernel_rfl) (fun K' hK => ?_)
      go_simp
      refine (kT1 _).mono ?_
      rintro e v11 ⟨rfl, b11⟩
      have X := X.below b11 (Nat.le_refl _)
      have Y := Y.below b11 (Nat.le_refl _)
      have C := C.trans (b11.mono C.size)
      have O := O.below b11 (Nat.le_refl _)
      refine hK _ _ ⟨X.c0, X.c1, X.c2, Y.c0, Y.c1, Y.c2⟩ ?_
      clear hK
      refine oneH 3 rfl (by kernel_rfl) (fun K' hK => ?_)
      go_simp
      refine (kT2 _).mono ?_
      rintro e v12 ⟨rfl, b12⟩
      have X := X.below b12 (Nat.le_refl _)
      have Y := Y.below b12 (Nat.le_refl _)
      have C := C.trans (b12.mono C.size)
      have O := O.below b12 (Nat.le_refl _)
      refine hK _ _ ⟨X.c0, X.c1, X.c2, Y.c0, Y.c1, Y.c2⟩ ?_
      clear hK
      refine oneH 4 rfl (by kernel_rfl) (fun K' hK => ?_)
      go_simp
      refine (kS _).mono ?_
      rintro e v13 ⟨rfl, b13⟩
      have X := X.below b13 (Nat.le_refl _)
      have Y := Y.below b13 (Nat.le_refl _)
      have C := C.trans (b13.mono C.size)
      have O := O.below b13 (Nat.le_refl _)
      refine hK _ _ ⟨X.c0, X.c1, X.c2, Y.c0, Y.c1, Y.c2⟩ ?_
      clear hK
      have hHeld := (⟨X.c0, X.c1, X.c2, Y.c0, Y.c1, Y.c2⟩ : _ ∧ _ ∧ _ ∧ _ ∧ _ ∧ _)
      refine takeH 5 (some 9) (.tuple #[vF rr.1.1 rr.1.2.1 rr.1.2.2, .bool rr.2]) rfl rfl (by kernel_rfl) (by kernel_rfl) (by kernel_rfl) (fun _ _ _ h => h) (yg_move rfl (.tmp 14) rfl _ rfl) (by assumption) ?_
      simp only [Act.put, List.setIfInBounds_toArray, List.set_cons_zero, List.set_cons_succ]
      refine takeH 6 (some 15) (vF rr.1.1 rr.1.2.1 rr.1.2.2) rfl rfl (by kernel_rfl) (by kernel_rfl) (by kernel_rfl) (fun _ _ _ h => h) (Or.inl ⟨rfl, fun W hW => by obtain _ := hW; go_simp⟩) (by assumption) ?_
      simp only [Act.put, List.setIfInBounds_toArray, List.set_cons_zero, List.set_cons_succ]
      refine takeH 7 (some 16) (.bool rr.2) rfl rfl (by kernel_rfl) (by kernel_rfl) (by kernel_rfl) (fun _ _ _ h => h) (Or.inl ⟨rfl, fun W hW => by obtain _ := hW; go_simp⟩) (by assumption) ?_
      simp only [Act.put, List.setIfInBounds_toArray, List.set_cons_zero, List.set_cons_succ]
      clear hHeld
      have hHeld := (⟨X.c0, X.c1, X.c2, Y.c0, Y.c1, Y.c2⟩ : _ ∧ _ ∧ _ ∧ _ ∧ _ ∧ _)
      have t9 := tn_three v13 bx (.bool rr.1.1) (.int .i64 rr.1.2.1) (.int .i64 rr.1.2.2)
      have X9 := X.tn t9 (by simp; exact fun e => hbl _ hX e)
      have Y9 := Y.tn t9 (by simp; exact fun e => hbl _ hY e)
      have O9 := O.set3 (.bool rr.1.1) (.int .i64 rr.1.2.1) (.int .i64 rr.1.2.2)
      have C9 := ((C.setCell (p := ⟨bx, 0, none⟩) hbx (.bool rr.1.1)).setCell (p := ⟨bx, 1, none⟩) hbx (.int .i64 rr.1.2.1)).setCell (p := ⟨bx, 2, none⟩) hbx (.int .i64 rr.1.2.2)
      have u0 := O.c0
      have u1 := O.c1
      have u2 := O.c2
      have u3 := O.f0
      have u4 := O.f1
      have u5 := O.f2
      refine oneH 9 rfl (by kernel_rfl) (fun K' hK => ?_)
      go_simp
      refine hK _ _ ⟨X9.c0, X9.c1, X9.c2, Y9.c0, Y9.c1, Y9.c2⟩ ?_
      clear hK hHeld
      have hHeld := (⟨X9.c0, X9.c1, X9.c2, Y9.c0, Y9.c1, Y9.c2⟩ : _ ∧ _ ∧ _ ∧ _ ∧ _ ∧ _)
      refine takeH 10 (some 6) (.bool rr.2) rfl rfl (by kernel_rfl) (by kernel_rfl) (by kernel_rfl) (fun _ _ _ h => h) (yg_assign rfl (.tmp 16) rfl _ rfl) (by assumption) ?_
      simp only [Act.put, List.setIfInBounds_toArray, List.set_cons_zero, List.set_cons_succ]
      refine wpAnyH_done (by kernel_rfl) ?_ _
      exact cutF_in bx rfl hbx O9 C9
  intro bS w1 hS OS b1
  replace X := X.below b1 (Nat.le_refl _)
  replace Y := Y.below b1 (Nat.le_refl _)
  replace B := B.trans (b1.mono B.size)
  go_wp2_with fail
  have hX := X.hi
  have hY := Y.hi
  apply wp_cutF (x := .bool rr.1.1) (y := .int .i64 rr.1.2.1) (z := .int .i64 rr.1.2.2) (base := w1.heap.size) (W := w1)
  case hA =>
    have C := (Below.refl w1.heap.size w1).drew
    have X := X.below C (Nat.le_refl _)
    have Y := Y.below C (Nat.le_refl _)
    refine wp_region_held_drew (S := fun W => W.cell? ⟨w.heap.size, 0, none⟩ = some (.bool g) ∧ W.cell? ⟨w.heap.size, 1, none⟩ = some (.int .i64 m) ∧ W.cell? ⟨w.heap.size, 2, none⟩ = some (.int .i64 n) ∧ W.cell? ⟨w.heap.size + 1, 0, none⟩ = some (.bool g') ∧ W.cell? ⟨w.heap.size + 1, 1, none⟩ = some (.int .i64 m') ∧ W.cell? ⟨w.heap.size + 1, 2, none⟩ = some (.int .i64 n')) (by kernel_rfl) ⟨X.c0, X.c1, X.c2, Y.c0, Y.c1, Y.c2⟩ ?_
    intro hHeld
    generalize w1.drew = v0 at *
    refine takeH 0 (some 18) (.agg #[.bool g, .int .i64 m, .int .i64 n]) rfl rfl (by kernel_rfl) (by kernel_rfl) (by kernel_rfl) (fun _ _ _ h => h) (Or.inl ⟨rfl, fun W hW => by obtain ⟨_a, _b, _c, _, _, _⟩ := hW; go_simp⟩) (by assumption) ?_
    simp only [Act.put, List.setIfInBounds_toArray, List.set_cons_zero, List.set_cons_succ]
    refine takeH 2 (some 20) (.agg #[.bool g', .int .i64 m', .int .i64 n']) rfl rfl (by kernel_rfl) (by kernel_rfl) (by kernel_rfl) (fun _ _ _ h => h) (Or.inl ⟨rfl, fun W hW => by obtain ⟨_, _, _, _a, _b, _c⟩ := hW; go_simp⟩) (by assumption) ?_
    simp only [Act.put, List.setIfInBounds_toArray, List.set_cons_zero, List.set_cons_succ]
    clear hHeld
    refine twoH 1 8 rfl rfl (by kernel_rfl) (fun K' hK => ?_) (fun K' hK => ?_)
    · skip
      go_simp
      refine (kT1 _).mono ?_
      rintro e v1 ⟨rfl, b1⟩
      have X := X.below b1 (Nat.le_refl _)
      have Y := Y.below b1 (Nat.le_refl _)
      have C := C.trans (b1.mono C.size)
      refine hK _ _ ⟨X.c0, X.c1, X.c2, Y.c0, Y.c1, Y.c2⟩ ?_
      clear hK
      refine twoH 3 8 rfl rfl (by kernel_rfl) (fun K' hK => ?_) (fun K' hK => ?_)
      · skip
        go_simp
        refine (kT2 _).mono ?_
        rintro e v2 ⟨rfl, b2⟩
        have X := X.below b2 (Nat.le_refl _)
        have Y := Y.below b2 (Nat.le_refl _)
        have C := C.trans (b2.mono C.size)
        refine hK _ _ ⟨X.c0, X.c1, X.c2, Y.c0, Y.c1, Y.c2⟩ ?_
        clear hK
        refine twoH 4 8 rfl rfl (by kernel_rfl) (fun K' hK => ?_) (fun K' hK => ?_)
        · skip
          go_simp
          refine (kI _).mono ?_
          rintro e v3 ⟨rfl, b3⟩
          have X := X.below b3 (Nat.le_refl _)
          have Y := Y.below b3 (Nat.le_refl _)
          have C := C.trans (b3.mono C.size)
          refine hK _ _ ⟨X.c0, X.c1, X.c2, Y.c0, Y.c1, Y.c2⟩ ?_
          clear hK
          have hHeld := (⟨X.c0, X.c1, X.c2, Y.c0, Y.c1, Y.c2⟩ : _ ∧ _ ∧ _ ∧ _ ∧ _ ∧ _)
          refine takeH 5 (some 17) (.tuple #[vF rr.1.1 rr.1.2.1 rr.1.2.2, .bool rr.2]) rfl rfl (by kernel_rfl) (by kernel_rfl) (by kernel_rfl) (fun _ _ _ h => h) (yg_move rfl (.tmp 22) rfl _ rfl) (by assumption) ?_
          simp only [Act.put, List.setIfInBounds_toArray, List.set_cons_zero, List.set_cons_succ]
          refine takeH 6 (some 23) (vF rr.1.1 rr.1.2.1 rr.1.2.2) rfl rfl (by kernel_rfl) (by kernel_rfl) (by kernel_rfl) (fun _ _ _ h => h) (Or.inl ⟨rfl, fun W hW => by obtain _ := hW; go_simp⟩) (by assumption) ?_
          simp only [Act.put, List.setIfInBounds_toArray, List.set_cons_zero, List.set_cons_succ]
          refine takeH 7 (some 24) (.bool rr.2) rfl rfl (by kernel_rfl) (by kernel_rfl) (by kernel_rfl) (fun _ _ _ h => h) (Or.inl ⟨rfl, fun W hW => by obtain _ := hW; go_simp⟩) (by assumption) ?_
          simp only [Act.put, List.setIfInBounds_toArray, List.set_cons_zero, List.set_cons_succ]
          clear hHeld
          refine oneH 8 rfl (by kernel_rfl) (fun K' hK => ?_)
          go_simp
          have hcur := C.size
          have bz := below1 v3 (.cells #[.bool false, .int .i64 0, .int .i64 0] 24)
          have O := Box3.made v3 (.bool false) (.int .i64 0) (.int .i64 0) 24
          have X := X.below bz (Nat.le_refl _)
          have Y := Y.below bz (Nat.le_refl _)
          have C := C.trans (bz.mono C.size)
          refine hK _ _ ⟨X.c0, X.c1, X.c2, Y.c0, Y.c1, Y.c2⟩ ?_
          clear hK
          have hbx : w1.heap.size ≤ v3.heap.size := hcur
          have hbl : ∀ k, k < w1.heap.size → k ≠ v3.heap.size := fun k hk => by omega
          clear bz
          generalize v3.alloc (.cells #[.bool false, .int .i64 0, .int .i64 0] 24) = v4 at *
          generalize v3.heap.size = bx at *
          have hHeld := (⟨X.c0, X.c1, X.c2, Y.c0, Y.c1, Y.c2⟩ : _ ∧ _ ∧ _ ∧ _ ∧ _ ∧ _)
          have t9 := tn_three v4 bx (.bool rr.1.1) (.int .i64 rr.1.2.1) (.int .i64 rr.1.2.2)
          have X9 := X.tn t9 (by simp; exact fun e => hbl _ hX e)
          have Y9 := Y.tn t9 (by simp; exact fun e => hbl _ hY e)
          have O9 := O.set3 (.bool rr.1.1) (.int .i64 rr.1.2.1) (.int .i64 rr.1.2.2)
          have C9 := ((C.setCell (p := ⟨bx, 0, none⟩) hbx (.bool rr.1.1)).setCell (p := ⟨bx, 1, none⟩) hbx (.int .i64 rr.1.2.1)).setCell (p := ⟨bx, 2, none⟩) hbx (.int .i64 rr.1.2.2)
          have u0 := O.c0
          have u1 := O.c1
          have u2 := O.c2
          have u3 := O.f0
          have u4 := O.f1
          have u5 := O.f2
          refine oneH 9 rfl (by kernel_rfl) (fun K' hK => ?_)
          go_simp
          refine hK _ _ ⟨X9.c0, X9.c1, X9.c2, Y9.c0, Y9.c1, Y9.c2⟩ ?_
          clear hK hHeld
          have hHeld := (⟨X9.c0, X9.c1, X9.c2, Y9.c0, Y9.c1, Y9.c2⟩ : _ ∧ _ ∧ _ ∧ _ ∧ _ ∧ _)
          refine takeH 10 (some 8) (.bool rr.2) rfl rfl (by kernel_rfl) (by kernel_rfl) (by kernel_rfl) (fun _ _ _ h => h) (yg_assign rfl (.tmp 24) rfl _ rfl) (by assumption) ?_
          simp only [Act.put, List.setIfInBounds_toArray, List.set_cons_zero, List.set_cons_succ]
          refine wpAnyH_done (by kernel_rfl) ?_ _
          exact cutF_in bx rfl hbx O9 C9
        · skip
          go_simp
          have hcur := C.size
          have bz := below1 v2 (.cells #[.bool false, .int .i64 0, .int .i64 0] 24)
          have O := Box3.made v2 (.bool false) (.int .i64 0) (.int .i64 0) 24
          have X := X.below bz (Nat.le_refl _)
          have Y := Y.below bz (Nat.le_refl _)
          have C := C.trans (bz.mono C.size)
          refine hK _ _ ⟨X.c0, X.c1, X.c2, Y.c0, Y.c1, Y.c2⟩ ?_
          clear hK
          have hbx : w1.heap.size ≤ v2.heap.size := hcur
          have hbl : ∀ k, k < w1.heap.size → k ≠ v2.heap.size := fun k hk => by omega
          clear bz
          generalize v2.alloc (.cells #[.bool false, .int .i64 0, .int .i64 0] 24) = v5 at *
          generalize v2.heap.size = bx at *
          refine oneH 4 rfl (by kernel_rfl) (fun K' hK => ?_)
          go_simp
          refine (kI _).mono ?_
          rintro e v6 ⟨rfl, b6⟩
          have X := X.below b6 (Nat.le_refl _)
          have Y := Y.below b6 (Nat.le_refl _)
          have C := C.trans (b6.mono C.size)
          have O := O.below b6 (Nat.le_refl _)
          refine hK _ _ ⟨X.c0, X.c1, X.c2, Y.c0, Y.c1, Y.c2⟩ ?_
          clear hK
          have hHeld := (⟨X.c0, X.c1, X.c2, Y.c0, Y.c1, Y.c2⟩ : _ ∧ _ ∧ _ ∧ _ ∧ _ ∧ _)
          refine takeH 5 (some 17) (.tuple #[vF rr.1.1 rr.1.2.1 rr.1.2.2, .bool rr.2]) rfl rfl (by kernel_rfl) (by kernel_rfl) (by kernel_rfl) (fun _ _ _ h => h) (yg_move rfl (.tmp 22) rfl _ rfl) (by assumption) ?_
          simp only [Act.put, List.setIfInBounds_toArray, List.set_cons_zero, List.set_cons_succ]
          refine takeH 6 (some 23) (vF rr.1.1 rr.1.2.1 rr.1.2.2) rfl rfl (by kernel_rfl) (by kernel_rfl) (by kernel_rfl) (fun _ _ _ h => h) (Or.inl ⟨rfl, fun W hW => by obtain _ := hW; go_simp⟩) (by assumption) ?_
          simp only [Act.put, List.setIfInBounds_toArray, List.set_cons_zero, List.set_cons_succ]
          refine takeH 7 (some 24) (.bool rr.2) rfl rfl (by kernel_rfl) (by kernel_rfl) (by kernel_rfl) (fun _ _ _ h => h) (Or.inl ⟨rfl, fun W hW => by obtain _ := hW; go_simp⟩) (by assumption) ?_
          simp only [Act.put, List.setIfInBounds_toArray, List.set_cons_zero, List.set_cons_succ]
          clear hHeld
          have hHeld := (⟨X.c0, X.c1, X.c2, Y.c0, Y.c1, Y.c2⟩ : _ ∧ _ ∧ _ ∧ _ ∧ _ ∧ _)
          have t9 := tn_three v6 bx (.bool rr.1.1) (.int .i64 rr.1.2.1) (.int .i64 rr.1.2.2)
          have X9 := X.tn t9 (by simp; exact fun e => hbl _ hX e)
          have Y9 := Y.tn t9 (by simp; exact fun e => hbl _ hY e)
          have O9 := O.set3 (.bool rr.1.1) (.int .i64 rr.1.2.1) (.int .i64 rr.1.2.2)
          have C9 := ((C.setCell (p := ⟨bx, 0, none⟩) hbx (.bool rr.1.1)).setCell (p := ⟨bx, 1, none⟩) hbx (.int .i64 rr.1.2.1)).setCell (p := ⟨bx, 2, none⟩) hbx (.int .i64 rr.1.2.2)
          have u0 := O.c0
          have u1 := O.c1
          have u2 := O.c2
          have u3 := O.f0
          have u4 := O.f1
          have u5 := O.f2
          refine oneH 9 rfl (by kernel_rfl) (fun K' hK => ?_)
          go_simp
          refine hK _ _ ⟨X9.c0, X9.c1, X9.c2, Y9.c0, Y9.c1, Y9.c2⟩ ?_
          clear hK hHeld
          have hHeld := (⟨X9.c0, X9.c1, X9.c2, Y9.c0, Y9.c1, Y9.c2⟩ : _ ∧ _ ∧ _ ∧ _ ∧ _ ∧ _)
          refine takeH 10 (some 8) (.bool rr.2) rfl rfl (by kernel_rfl) (by kernel_rfl) (by kernel_rfl) (fun _ _ _ h => h) (yg_assign rfl (.tmp 24) rfl _ rfl) (by assumption) ?_
          simp only [Act.put, List.setIfInBounds_toArray, List.set_cons_zero, List.set_cons_succ]
          refine wpAnyH_done (by kernel_rfl) ?_ _
          exact cutF_in bx rfl hbx O9 C9
      · skip
        go_simp
        have hcur := C.size
        have bz := below1 v1 (.cells #[.bool false, .int .i64 0, .int .i64 0] 24)
        have O := Box3.made v1 (.bool false) (.int .i64 0) (.int .i64 0) 24
        have X := X.below bz (Nat.le_refl _)
        have Y := Y.below bz (Nat.le_refl _)
        have C := C.trans (bz.mono C.size)
        refine hK _ _ ⟨X.c0, X.c1, X.c2, Y.c0, Y.c1, Y.c2⟩ ?_
        clear hK
        have hbx : w1.heap.size ≤ v1.heap.size := hcur
        have hbl : ∀ k, k < w1.heap.size → k ≠ v1.heap.size := fun k hk => by omega
        clear bz
        generalize v1.alloc (.cells #[.bool false, .int .i64 0, .int .i64 0] 24) = v7 at *
        generalize v1.heap.size = bx at *
        refine oneH 3 rfl (by kernel_rfl) (fun K' hK => ?_)
        go_simp
        refine (kT2 _).mono ?_
        rintro e v8 ⟨rfl, b8⟩
        have X := X.below b8 (Nat.le_refl _)
        have Y := Y.below b8 (Nat.le_refl _)
        have C := C.trans (b8.mono C.size)
        have O := O.below b8 (Nat.le_refl _)
        refine hK _ _ ⟨X.c0, X.c1, X.c2, Y.c0, Y.c1, Y.c2⟩ ?_
        clear hK
        refine oneH 4 rfl (by kernel_rfl) (fun K' hK => ?_)
        go_simp
        refine (kI _).mono ?_
        rintro e v9 ⟨rfl, b9⟩
        have X := X.below b9 (Nat.le_refl _)
        have Y := Y.below b9 (Nat.le_refl _)
        have C := C.trans (b9.mono C.size)
        have O := O.below b9 (Nat.le_refl _)
        refine hK _ _ ⟨X.c0, X.c1, X.c2, Y.c0, Y.c1, Y.c2⟩ ?_
        clear hK
        have hHeld := (⟨X.c0, X.c1, X.c2, Y.c0, Y.c1, Y.c2⟩ : _ ∧ _ ∧ _ ∧ _ ∧ _ ∧ _)
        refine takeH 5 (some 17) (.tuple #[vF rr.1.1 rr.1.2.1 rr.1.2.2, .bool rr.2]) rfl rfl (by kernel_rfl) (by kernel_rfl) (by kernel_rfl) (fun _ _ _ h => h) (yg_move rfl (.tmp 22) rfl _ rfl) (by assumption) ?_
        simp only [Act.put, List.setIfInBounds_toArray, List.set_cons_zero, List.set_cons_succ]
        refine takeH 6 (some 23) (vF rr.1.1 rr.1.2.1 rr.1.2.2) rfl rfl (by kernel_rfl) (by kernel_rfl) (by kernel_rfl) (fun _ _ _ h => h) (Or.inl ⟨rfl, fun W hW => by obtain _ := hW; go_simp⟩) (by assumption) ?_
        simp only [Act.put, List.setIfInBounds_toArray, List.set_cons_zero, List.set_cons_succ]
        refine takeH 7 (some 24) (.bool rr.2) rfl rfl (by kernel_rfl) (by kernel_rfl) (by kernel_rfl) (fun _ _ _ h => h) (Or.inl ⟨rfl, fun W hW => by obtain _ := hW; go_simp⟩) (by assumption) ?_
        simp only [Act.put, List.setIfInBounds_toArray, List.set_cons_zero, List.set_cons_succ]
        clear hHeld
        have hHeld := (⟨X.c0, X.c1, X.c2, Y.c0, Y.c1, Y.c2⟩ : _ ∧ _ ∧ _ ∧ _ ∧ _ ∧ _)
        have t9 := tn_three v9 bx (.bool rr.1.1) (.int .i64 rr.1.2.1) (.int .i64 rr.1.2.2)
        have X9 := X.tn t9 (by simp; exact fun e => hbl _ hX e)
        have Y9 := Y.tn t9 (by simp; exact fun e => hbl _ hY e)
        have O9 := O.set3 (.bool rr.1.1) (.int .i64 rr.1.2.1) (.int .i64 rr.1.2.2)
        have C9 := ((C.setCell (p := ⟨bx, 0, none⟩) hbx (.bool rr.1.1)).setCell (p := ⟨bx, 1, none⟩) hbx (.int .i64 rr.1.2.1)).setCell (p := ⟨bx, 2, none⟩) hbx (.int .i64 rr.1.2.2)
        have u0 := O.c0
        have u1 := O.c1
        have u2 := O.c2
        have u3 := O.f0
        have u4 := O.f1
        have u5 := O.f2
        refine oneH 9 rfl (by kernel_rfl) (fun K' hK => ?_)
        go_simp
        refine hK _ _ ⟨X9.c0, X9.c1, X9.c2, Y9.c0, Y9.c1, Y9.c2⟩ ?_
        clear hK hHeld
        have hHeld := (⟨X9.c0, X9.c1, X9.c2, Y9.c0, Y9.c1, Y9.c2⟩ : _ ∧ _ ∧ _ ∧ _ ∧ _ ∧ _)
        refine takeH 10 (some 8) (.bool rr.2) rfl rfl (by kernel_rfl) (by kernel_rfl) (by kernel_rfl) (fun _ _ _ h => h) (yg_assign rfl (.tmp 24) rfl _ rfl) (by assumption) ?_
        simp only [Act.put, List.setIfInBounds_toArray, List.set_cons_zero, List.set_cons_succ]
        refine wpAnyH_done (by kernel_rfl) ?_ _
        exact cutF_in bx rfl hbx O9 C9
    · skip
      go_simp
      have hcur := C.size
      have bz := below1 v0 (.cells #[.bool false, .int .i64 0, .int .i64 0] 24)
      have O := Box3.made v0 (.bool false) (.int .i64 0) (.int .i64 0) 24
      have X := X.below bz (Nat.le_refl _)
      have Y := Y.below bz (Nat.le_refl _)
      have C := C.trans (bz.mono C.size)
      refine hK _ _ ⟨X.c0, X.c1, X.c2, Y.c0, Y.c1, Y.c2⟩ ?_
      clear hK
      have hbx : w1.heap.size ≤ v0.heap.size := hcur
      have hbl : ∀ k, k < w1.heap.size → k ≠ v0.heap.size := fun k hk => by omega
      clear bz
      generalize v0.alloc (.cells #[.bool false, .int .i64 0, .int .i64 0] 24) = v10 at *
      generalize v0.heap.size = bx at *
      refine oneH 1 rfl (by kernel_rfl) (fun K' hK => ?_)
      go_simp
      refine (kT1 _).mono ?_
      rintro e v11 ⟨rfl, b11⟩
      have X := X.below b11 (Nat.le_refl _)
      have Y := Y.below b11 (Nat.le_refl _)
      have C := C.trans (b11.mono C.size)
      have O := O.below b11 (Nat.le_refl _)
      refine hK _ _ ⟨X.c0, X.c1, X.c2, Y.c0, Y.c1, Y.c2⟩ ?_
      clear hK
      refine oneH 3 rfl (by kernel_rfl) (fun K' hK => ?_)
      go_simp
      refine (kT2 _).mono ?_
      rintro e v12 ⟨rfl, b12⟩
      have X := X.below b12 (Nat.le_refl _)
      have Y := Y.below b12 (Nat.le_refl _)
      have C := C.trans (b12.mono C.size)
      have O := O.below b12 (Nat.le_refl _)
      refine hK _ _ ⟨X.c0, X.c1, X.c2, Y.c0, Y.c1, Y.c2⟩ ?_
      clear hK
      refine oneH 4 rfl (by kernel_rfl) (fun K' hK => ?_)
      go_simp
      refine (kI _).mono ?_
      rintro e v13 ⟨rfl, b13⟩
      have X := X.below b13 (Nat.le_refl _)
      have Y := Y.below b13 (Nat.le_refl _)
      have C := C.trans (b13.mono C.size)
      have O := O.below b13 (Nat.le_refl _)
      refine hK _ _ ⟨X.c0, X.c1, X.c2, Y.c0, Y.c1, Y.c2⟩ ?_
      clear hK
      have hHeld := (⟨X.c0, X.c1, X.c2, Y.c0, Y.c1, Y.c2⟩ : _ ∧ _ ∧ _ ∧ _ ∧ _ ∧ _)
      refine takeH 5 (some 17) (.tuple #[vF rr.1.1 rr.1.2.1 rr.1.2.2, .bool rr.2]) rfl rfl (by kernel_rfl) (by kernel_rfl) (by kernel_rfl) (fun _ _ _ h => h) (yg_move rfl (.tmp 22) rfl _ rfl) (by assumption) ?_
      simp only [Act.put, List.setIfInBounds_toArray, List.set_cons_zero, List.set_cons_succ]
      refine takeH 6 (some 23) (vF rr.1.1 rr.1.2.1 rr.1.2.2) rfl rfl (by kernel_rfl) (by kernel_rfl) (by kernel_rfl) (fun _ _ _ h => h) (Or.inl ⟨rfl, fun W hW => by obtain _ := hW; go_simp⟩) (by assumption) ?_
      simp only [Act.put, List.setIfInBounds_toArray, List.set_cons_zero, List.set_cons_succ]
      refine takeH 7 (some 24) (.bool rr.2) rfl rfl (by kernel_rfl) (by kernel_rfl) (by kernel_rfl) (fun _ _ _ h => h) (Or.inl ⟨rfl, fun W hW => by obtain _ := hW; go_simp⟩) (by assumption) ?_
      simp only [Act.put, List.setIfInBounds_toArray, List.set_cons_zero, List.set_cons_succ]
      clear hHeld
      have hHeld := (⟨X.c0, X.c1, X.c2, Y.c0, Y.c1, Y.c2⟩ : _ ∧ _ ∧ _ ∧ _ ∧ _ ∧ _)
      have t9 := tn_three v13 bx (.bool rr.1.1) (.int .i64 rr.1.2.1) (.int .i64 rr.1.2.2)
      have X9 := X.tn t9 (by simp; exact fun e => hbl _ hX e)
      have Y9 := Y.tn t9 (by simp; exact fun e => hbl _ hY e)
      have O9 := O.set3 (.bool rr.1.1) (.int .i64 rr.1.2.1) (.int .i64 rr.1.2.2)
      have C9 := ((C.setCell (p := ⟨bx, 0, none⟩) hbx (.bool rr.1.1)).setCell (p := ⟨bx, 1, none⟩) hbx (.int .i64 rr.1.2.1)).setCell (p := ⟨bx, 2, none⟩) hbx (.int .i64 rr.1.2.2)
      have u0 := O.c0
      have u1 := O.c1
      have u2 := O.c2
      have u3 := O.f0
      have u4 := O.f1
      have u5 := O.f2
      refine oneH 9 rfl (by kernel_rfl) (fun K' hK => ?_)
      go_simp
      refine hK _ _ ⟨X9.c0, X9.c1, X9.c2, Y9.c0, Y9.c1, Y9.c2⟩ ?_
      clear hK hHeld
      have hHeld := (⟨X9.c0, X9.c1, X9.c2, Y9.c0, Y9.c1, Y9.c2⟩ : _ ∧ _ ∧ _ ∧ _ ∧ _ ∧ _)
      refine takeH 10 (some 8) (.bool rr.2) rfl rfl (by kernel_rfl) (by kernel_rfl) (by kernel_rfl) (fun _ _ _ h => h) (yg_assign rfl (.tmp 24) rfl _ rfl) (by assumption) ?_
      simp only [Act.put, List.setIfInBounds_toArray, List.set_cons_zero, List.set_cons_succ]
      refine wpAnyH_done (by kernel_rfl) ?_ _
      exact cutF_in bx rfl hbx O9 C9
  intro bI w2 hI OI b2
  have OS2 := OS.below b2 (Nat.le_refl _)
  replace B := B.trans (b2.mono B.size)
  have i0 := OI.c0
  have i1 := OI.c1
  have i2 := OI.c2
  have q0 := OS2.c0
  have q1 := OS2.c1
  have q2 := OS2.c2
  have er : (rr.2 != rr.2) = false := by simp
  go_wp2_with fail
  refine (eqF3 _ _ _ _).mono ?_
  rintro e w3 ⟨rfl, b3⟩
  replace B := B.trans (b3.mono B.size)
  go_wp2
  go_ret
  exact ⟨rfl, B⟩

end Go.Proofs.Ytnbkhocbncniiaa
