/- ahead and Common of the program, each by its contract. -/
import Derived.Test.YtnbkhocbncniiaaHoldS
import Derived.Test.YtnbkhocbncniiaaIFmtOk
namespace Go.Proofs.Ytnbkhocbncniiaa
open Go.RowKit
set_option linter.unusedSimpArgs false

set_option maxHeartbeats 1600000 in
theorem iAhead (g : Bool) (m n : Int) (s : Bool) (w : World) (h1 : 0 ≤ m ∧ m ≤ 60) (h2 : 0 ≤ n ∧ n ≤ 60) :
    Calls Try.prog 12 #[vF g m n, .bool s] w fun e w' => e = .returned (.int .i64 (aheadI g m n s)) ∧ Below w.heap.size w w' := by
  have e1 : IntKind.i64.wrap (m - n) = m - n := by rw [IntKind.wrap_i64]; omega
  have e2 : IntKind.i64.wrap (m - n + 1) = m - n + 1 := by rw [IntKind.wrap_i64]; omega
  cases s
  · have HA : Hid (aheadI g m n false = m - n) := by show _ = _; unfold aheadI; simp
    go_enter Try.func12, Try.ntmps12
    go_wp2
    go_ret
    exact ⟨by rw [HA.out]; rfl, below1 _ _⟩
  · cases g
    · have HA : Hid (aheadI false m n true = m - n + 1) := by show _ = _; unfold aheadI; simp
      go_enter Try.func12, Try.ntmps12
      go_wp2
      go_ret
      exact ⟨by rw [HA.out]; rfl, below1 _ _⟩
    · have HA : Hid (aheadI true m n true = m - n) := by show _ = _; unfold aheadI; simp
      go_enter Try.func12, Try.ntmps12
      go_wp2
      go_ret
      exact ⟨by rw [HA.out]; rfl, below1 _ _⟩
theorem ahead_bd {g : Bool} {m n : Int} (h : fok m n = true) (s : Bool) : 0 ≤ aheadI g m n s ∧ aheadI g m n s ≤ 61 := by
  obtain ⟨a, b, c, d⟩ := (fok_iff m n).1 h
  unfold aheadI
  split <;> omega

theorem Box3.tn {w w' : World} {b : Nat} {x y z : Value} {S : List Nat} (h : Box3 w b x y z) (ht : Tn S w w') (ha : b ∉ S) : Box3 w' b x y z := by
  have hk := ht.block b h.hi ha
  exact ⟨Nat.lt_of_lt_of_le h.hi ht.size, (World.cell?_of_block (w := w) (a := ⟨b, 0, none⟩) hk).trans h.c0, (World.cell?_of_block (w := w) (a := ⟨b, 1, none⟩) hk).trans h.c1, (World.cell?_of_block (w := w) (a := ⟨b, 2, none⟩) hk).trans h.c2, (World.frozen?_of_block (w := w) (a := ⟨b, 0, none⟩) hk).trans h.f0, (World.frozen?_of_block (w := w) (a := ⟨b, 1, none⟩) hk).trans h.f1, (World.frozen?_of_block (w := w) (a := ⟨b, 2, none⟩) hk).trans h.f2⟩
theorem tn_one (w : World) (b j : Nat) (x : Value) : Tn [b] w (w.setCell ⟨b, j, none⟩ x) :=
  ⟨rfl, rfl, rfl, by simp, fun k _ hn => Below.heap_setCell w ⟨b, j, none⟩ x k (fun e => hn (List.mem_singleton.2 e))⟩
theorem Box3.set1 {w : World} {b : Nat} {x y z : Value} (h : Box3 w b x y z) (y' : Value) : Box3 (w.setCell ⟨b, 1, none⟩ y') b x y' z := by
  have c0 := h.c0
  have c1 := h.c1
  have c2 := h.c2
  have f0 := h.f0
  have f1 := h.f1
  have f2 := h.f2
  refine ⟨?_, ?_, ?_, ?_, ?_, ?_, ?_⟩
  · have := h.hi; simpa [World.setCell] using this
  · exact (World.cell?_setCell_other _ _ _ _ (by simp)).trans c0
  · exact World.cell?_setCell_same _ _ _ c1
  · exact (World.cell?_setCell_other _ _ _ _ (by simp)).trans c2
  · simp [*]
  · simp [*]
  · simp [*]

set_option maxRecDepth 20000 in
set_option maxHeartbeats 12800000 in
theorem iCommon (g : Bool) (m n : Int) (g' : Bool) (m' n' : Int) (w : World) :
    Calls Try.prog 6 #[vF g m n, vF g' m' n'] w fun e w' => e = .returned (.tuple #[vF (commonR g m n g' m' n').1.1 (commonR g m n g' m' n').1.2.1 (commonR g m n g' m' n').1.2.2, .bool (commonR g m n g' m' n').2]) ∧ Below w.heap.size w w' := by
  have kF1 := fun W => iFmtOk g m n W
  have kF2 := fun W => iFmtOk g' m' n' W
  obtain ⟨b1, hb1⟩ : ∃ b, fok m n = b := ⟨_, rfl⟩
  obtain ⟨b2, hb2⟩ : ∃ b, fok m' n' = b := ⟨_, rfl⟩
  rw [hb1] at kF1
  rw [hb2] at kF2
  obtain ⟨rr, hrr⟩ : ∃ r, commonR g m n g' m' n' = r := ⟨_, rfl⟩
  rw [hrr]
  have HN : Hid (¬ (b1 = true ∧ b2 = true) → rr = ((false, 0, 0), false)) := fun h => by rw [← hrr, commonR, if_neg (by rw [hb1, hb2]; exact h)]
  have HC : Hid (commonR g m n g' m' n' = rr) := hrr
  clear hrr
  have s1 : (w.alloc (.cells #[.bool g, .int .i64 m, .int .i64 n] 24)).heap.size = w.heap.size + 1 := by simp
  have s2 : ((w.alloc (.cells #[.bool g, .int .i64 m, .int .i64 n] 24)).alloc (.cells #[.bool g', .int .i64 m', .int .i64 n'] 24)).heap.size = w.heap.size + 1 + 1 := by simp
  have s3 : (((w.alloc (.cells #[.bool g, .int .i64 m, .int .i64 n] 24)).alloc (.cells #[.bool g', .int .i64 m', .int .i64 n'] 24)).alloc (.cells #[.bool false, .int .i64 0, .int .i64 0] 24)).heap.size = w.heap.size + 1 + 1 + 1 := by simp
  have X := ((Box3.made w (.bool g) (.int .i64 m) (.int .i64 n) 24).below (below1 _ (.cells #[.bool g', .int .i64 m', .int .i64 n'] 24)) (Nat.le_refl _)).below (below1 _ (.cells #[.bool false, .int .i64 0, .int .i64 0] 24)) (Nat.le_refl _)
  have A := (Box3.made (w.alloc (.cells #[.bool g, .int .i64 m, .int .i64 n] 24)) (.bool g') (.int .i64 m') (.int .i64 n') 24).below (below1 _ (.cells #[.bool false, .int .i64 0, .int .i64 0] 24)) (Nat.le_refl _)
  have R := Box3.made ((w.alloc (.cells #[.bool g, .int .i64 m, .int .i64 n] 24)).alloc (.cells #[.bool g', .int .i64 m', .int .i64 n'] 24)) (.bool false) (.int .i64 0) (.int .i64 0) 24
  rw [s1] at A
  rw [s2] at R
  have B := below3 w (.cells #[.bool g, .int .i64 m, .int .i64 n] 24) (.cells #[.bool g', .int .i64 m', .int .i64 n'] 24) (.cells #[.bool false, .int .i64 0, .int .i64 0] 24)
  clear s1 s2
  go_enter Try.func6, Try.ntmps6
  go_wp2_with fail
  generalize ((w.alloc (.cells #[.bool g, .int .i64 m, .int .i64 n] 24)).alloc (.cells #[.bool g', .int .i64 m', .int .i64 n'] 24)).alloc (.cells #[.bool false, .int .i64 0, .int .i64 0] 24) = w0 at *
  refine (kF1 _).mono ?_
  rintro e w1 ⟨rfl, c1⟩
  replace X := X.below c1 (Nat.le_refl _)
  replace A := A.below c1 (Nat.le_refl _)
  replace R := R.below c1 (Nat.le_refl _)
  replace B := B.trans (c1.mono B.size)
  have d0 := X.c0
  have d1 := X.c1
  have d2 := X.c2
  have p0 := A.c0
  have p1 := A.c1
  have p2 := A.c2
  have r0 := R.c0
  have r1 := R.c1
  have r2 := R.c2
  have rf0 := R.f0
  have rf1 := R.f1
  have rf2 := R.f2
  cases b1
  · have HR : Hid (rr = ((false, 0, 0), false)) := HN.out (by simp)
    clear HN HC
    have HB : Hid (Below w.heap.size w _) := ((B.setCell (p := ⟨w.heap.size + 1 + 1, 0, none⟩) (by show w.heap.size ≤ w.heap.size + 1 + 1; omega) (.bool false)).setCell (p := ⟨w.heap.size + 1 + 1, 1, none⟩) (by show w.heap.size ≤ w.heap.size + 1 + 1; omega) (.int .i64 (0))).setCell (p := ⟨w.heap.size + 1 + 1, 2, none⟩) (by show w.heap.size ≤ w.heap.size + 1 + 1; omega) (.int .i64 (0))
    clear B
    go_wp2
    (try simp only [Exit.inBlock, Exit.then])
    refine bodyPost_ret (v := .tuple #[vF false (0) (0), .bool false]) ?_ rfl ⟨by rw [HR.out], HB.out⟩
    rw [results_cell_tmp rfl]
    go_simp
  · go_wp2_with fail
    clear d0 d1 d2 p0 p1 p2 r0 r1 r2 rf0 rf1 rf2
    refine (kF2 _).mono ?_
    rintro e w2 ⟨rfl, c2⟩
    replace X := X.below c2 (Nat.le_refl _)
    replace A := A.below c2 (Nat.le_refl _)
    replace R := R.below c2 (Nat.le_refl _)
    replace B := B.trans (c2.mono B.size)
    have d0 := X.c0
    have d1 := X.c1
    have d2 := X.c2
    have p0 := A.c0
    have p1 := A.c1
    have p2 := A.c2
    have r0 := R.c0
    have r1 := R.c1
    have r2 := R.c2
    have rf0 := R.f0
    have rf1 := R.f1
    have rf2 := R.f2
    cases b2
    · have HR : Hid (rr = ((false, 0, 0), false)) := HN.out (by simp)
      clear HN HC
      have HB : Hid (Below w.heap.size w _) := ((B.setCell (p := ⟨w.heap.size + 1 + 1, 0, none⟩) (by show w.heap.size ≤ w.heap.size + 1 + 1; omega) (.bool false)).setCell (p := ⟨w.heap.size + 1 + 1, 1, none⟩) (by show w.heap.size ≤ w.heap.size + 1 + 1; omega) (.int .i64 (0))).setCell (p := ⟨w.heap.size + 1 + 1, 2, none⟩) (by show w.heap.size ≤ w.heap.size + 1 + 1; omega) (.int .i64 (0))
      clear B
      go_wp2
      (try simp only [Exit.inBlock, Exit.then])
      refine bodyPost_ret (v := .tuple #[vF false (0) (0), .bool false]) ?_ rfl ⟨by rw [HR.out], HB.out⟩
      rw [results_cell_tmp rfl]
      go_simp
    · obtain ⟨m2, m60, n0, nm⟩ := (fok_iff _ _).1 hb1
      obtain ⟨m2', m60', n0', nm'⟩ := (fok_iff _ _).1 hb2
      obtain ⟨f, hf⟩ : ∃ f, max n n' = f := ⟨_, rfl⟩
      have hf60 : 0 ≤ f ∧ f ≤ 60 := by omega
      have hmx : (if n < n' then n' else n) = f := by rw [← hf]; split <;> omega
      have hmx2 : (if n ≤ n' then n' else n) = f := by rw [← hf]; split <;> omega
      have hb0 : w.heap.size + 1 + 1 < w2.heap.size := R.hi
      cases g
      · have kA1 := fun W => iAhead false m n g' W ⟨by omega, m60⟩ ⟨n0, by omega⟩
        have kA2 := fun W => iAhead g' m' n' g' W ⟨by omega, m60'⟩ ⟨n0', by omega⟩
        have ha1 := ahead_bd (g := false) hb1 g'
        have ha2 := ahead_bd (g := g') hb2 g'
        have HR : Hid (rr = (if fok (f + max (aheadI false m n g') (aheadI g' m' n' g')) f = true then ((g', f + max (aheadI false m n g') (aheadI g' m' n' g'), f), true) else ((false, 0, 0), false))) := by
          show _ = _
          rw [← HC.out, commonR, if_pos ⟨hb1, hb2⟩, hf]
          simp only [Bool.false_or, Bool.true_or]
        generalize aheadI false m n g' = y1 at *
        generalize aheadI g' m' n' g' = y2 at *
        obtain ⟨y, hy⟩ : ∃ y, max y1 y2 = y := ⟨_, rfl⟩
        have hyb : 0 ≤ y ∧ y ≤ 61 := by omega
        have hmy : (if y1 < y2 then y2 else y1) = y := by rw [← hy]; split <;> omega
        have hmy2 : (if y1 ≤ y2 then y2 else y1) = y := by rw [← hy]; split <;> omega
        rw [hy] at HR
        have kF3 := fun W => iFmtOk g' (f + y) f W
        obtain ⟨b3, hb3⟩ : ∃ b, fok (f + y) f = b := ⟨_, rfl⟩
        rw [hb3] at kF3 HR
        have hadd : IntKind.i64.wrap (f + y) = f + y := by rw [IntKind.wrap_i64]; omega
        clear kF1 kF2 HN HC hb1 hb2 hb3
        have O := Box3.made w2 (.bool g') (.int .i64 0) (.int .i64 f) 24
        have bb := below1 w2 (.cells #[.bool g', .int .i64 0, .int .i64 f] 24)
        replace X := X.below bb (Nat.le_refl _)
        replace A := A.below bb (Nat.le_refl _)
        replace R := R.below bb (Nat.le_refl _)
        replace B := B.trans (bb.mono B.size)
        go_wp2_with fail
        clear d0 d1 d2 p0 p1 p2 r0 r1 r2 rf0 rf1 rf2
        clear bb
        generalize hbO : w2.heap.size = bO at *
        generalize w2.alloc (.cells #[.bool g', .int .i64 0, .int .i64 f] 24) = w3 at *
        have bd := (Below.refl w3.heap.size w3).drew
        replace X := X.below bd (Nat.le_refl _)
        replace A := A.below bd (Nat.le_refl _)
        replace R := R.below bd (Nat.le_refl _)
        replace O := O.below bd (Nat.le_refl _)
        replace B := B.trans (bd.mono B.size)
        refine wp_region_held_drew (S := fun W => W.cell? ⟨w.heap.size, 0, none⟩ = some (.bool false) ∧ W.cell? ⟨w.heap.size, 1, none⟩ = some (.int .i64 m) ∧ W.cell? ⟨w.heap.size, 2, none⟩ = some (.int .i64 n) ∧ W.cell? ⟨w.heap.size + 1, 0, none⟩ = some (.bool g') ∧ W.cell? ⟨w.heap.size + 1, 1, none⟩ = some (.int .i64 m') ∧ W.cell? ⟨w.heap.size + 1, 2, none⟩ = some (.int .i64 n') ∧ W.cell? ⟨bO, 0, none⟩ = some (.bool g') ∧ W.cell? ⟨bO, 2, none⟩ = some (.int .i64 f)) (by kernel_rfl) ⟨X.c0, X.c1, X.c2, A.c0, A.c1, A.c2, O.c0, O.c2⟩ ?_
        intro hHeld
        generalize w3.drew = w4 at *
        clear bd
        refine takeH 0 (some 28) (.pointer (some ⟨bO, 2, none⟩)) rfl rfl (by kernel_rfl) (by kernel_rfl) (by kernel_rfl) (fun _ _ _ h => h) (Or.inl ⟨rfl, fun W hW => by obtain _ := hW; go_simp⟩) (by assumption) ?_
        simp only [Act.put, List.setIfInBounds_toArray, List.set_cons_zero, List.set_cons_succ]
        refine takeH 1 (some 29) (.int .i64 f) rfl rfl (by kernel_rfl) (by kernel_rfl) (by kernel_rfl) (fun _ _ _ h => h) (Or.inl ⟨rfl, fun W hW => by obtain ⟨_, _, _, _, _, _, _a, _b⟩ := hW; go_simp⟩) (by assumption) ?_
        simp only [Act.put, List.setIfInBounds_toArray, List.set_cons_zero, List.set_cons_succ]
        refine takeH 2 (some 30) (.agg #[.bool false, .int .i64 m, .int .i64 n]) rfl rfl (by kernel_rfl) (by kernel_rfl) (by kernel_rfl) (fun _ _ _ h => h) (Or.inl ⟨rfl, fun W hW => by obtain ⟨_a, _b, _c, _, _, _, _, _⟩ := hW; go_simp⟩) (by assumption) ?_
        simp only [Act.put, List.setIfInBounds_toArray, List.set_cons_zero, List.set_cons_succ]
        refine takeH 3 (some 31) (.pointer (some ⟨bO, 0, none⟩)) rfl rfl (by kernel_rfl) (by kernel_rfl) (by kernel_rfl) (fun _ _ _ h => h) (Or.inl ⟨rfl, fun W hW => by obtain _ := hW; go_simp⟩) (by assumption) ?_
        simp only [Act.put, List.setIfInBounds_toArray, List.set_cons_zero, List.set_cons_succ]
        refine takeH 4 (some 32) (.bool g') rfl rfl (by kernel_rfl) (by kernel_rfl) (by kernel_rfl) (fun _ _ _ h => h) (Or.inl ⟨rfl, fun W hW => by obtain ⟨_, _, _, _, _, _, _a, _b⟩ := hW; go_simp⟩) (by assumption) ?_
        simp only [Act.put, List.setIfInBounds_toArray, List.set_cons_zero, List.set_cons_succ]
        refine takeH 6 (some 34) (.agg #[.bool g', .int .i64 m', .int .i64 n']) rfl rfl (by kernel_rfl) (by kernel_rfl) (by kernel_rfl) (fun _ _ _ h => h) (Or.inl ⟨rfl, fun W hW => by obtain ⟨_, _, _, _a, _b, _c, _, _⟩ := hW; go_simp⟩) (by assumption) ?_
        simp only [Act.put, List.setIfInBounds_toArray, List.set_cons_zero, List.set_cons_succ]
        refine takeH 7 (some 35) (.pointer (some ⟨bO, 0, none⟩)) rfl rfl (by kernel_rfl) (by kernel_rfl) (by kernel_rfl) (fun _ _ _ h => h) (Or.inl ⟨rfl, fun W hW => by obtain _ := hW; go_simp⟩) (by assumption) ?_
        simp only [Act.put, List.setIfInBounds_toArray, List.set_cons_zero, List.set_cons_succ]
        refine takeH 8 (some 36) (.bool g') rfl rfl (by kernel_rfl) (by kernel_rfl) (by kernel_rfl) (fun _ _ _ h => h) (Or.inl ⟨rfl, fun W hW => by obtain ⟨_, _, _, _, _, _, _a, _b⟩ := hW; go_simp⟩) (by assumption) ?_
        simp only [Act.put, List.setIfInBounds_toArray, List.set_cons_zero, List.set_cons_succ]
        refine oneH 5 rfl (by kernel_rfl) (fun K' hK => ?_)
        go_simp
        refine (kA1 _).mono ?_
        rintro e w5 ⟨rfl, c5⟩
        replace X := X.below c5 (Nat.le_refl _)
        replace A := A.below c5 (Nat.le_refl _)
        replace R := R.below c5 (Nat.le_refl _)
        replace O := O.below c5 (Nat.le_refl _)
        replace B := B.trans (c5.mono B.size)
        refine hK _ _ ⟨X.c0, X.c1, X.c2, A.c0, A.c1, A.c2, O.c0, O.c2⟩ ?_
        clear hK hHeld
        refine oneH 9 rfl (by kernel_rfl) (fun K' hK => ?_)
        go_simp
        refine (kA2 _).mono ?_
        rintro e w6 ⟨rfl, c6⟩
        replace X := X.below c6 (Nat.le_refl _)
        replace A := A.below c6 (Nat.le_refl _)
        replace R := R.below c6 (Nat.le_refl _)
        replace O := O.below c6 (Nat.le_refl _)
        replace B := B.trans (c6.mono B.size)
        refine hK _ _ ⟨X.c0, X.c1, X.c2, A.c0, A.c1, A.c2, O.c0, O.c2⟩ ?_
        clear hK c5 c6
        have hHeld := (⟨X.c0, X.c1, X.c2, A.c0, A.c1, A.c2, O.c0, O.c2⟩ : _ ∧ _ ∧ _ ∧ _ ∧ _ ∧ _ ∧ _ ∧ _)
        refine oneH 10 rfl (by kernel_rfl) (fun K' hK => ?_)
        go_simp
        refine hK _ _ ⟨X.c0, X.c1, X.c2, A.c0, A.c1, A.c2, O.c0, O.c2⟩ ?_
        clear hK
        refine takeH 11 (some 39) (.int .i64 (f + y)) rfl rfl (by kernel_rfl) (by kernel_rfl) (by kernel_rfl) (fun _ _ _ h => h) (Or.inl ⟨rfl, fun W hW => by obtain _ := hW; go_simp⟩) (by assumption) ?_
        simp only [Act.put, List.setIfInBounds_toArray, List.set_cons_zero, List.set_cons_succ]
        refine takeH 12 (some 40) (.pointer (some ⟨bO, 1, none⟩)) rfl rfl (by kernel_rfl) (by kernel_rfl) (by kernel_rfl) (fun _ _ _ h => h) (Or.inl ⟨rfl, fun W hW => by obtain _ := hW; go_simp⟩) (by assumption) ?_
        simp only [Act.put, List.setIfInBounds_toArray, List.set_cons_zero, List.set_cons_succ]
        have t7 := tn_one w6 bO 1 (.int .i64 (f + y))
        have X7 := X.tn t7 (by simp; omega)
        have A7 := A.tn t7 (by simp; omega)
        have R7 := R.tn t7 (by simp; omega)
        have O7 := O.set1 (.int .i64 (f + y))
        have B7 := B.setCell (p := ⟨bO, 1, none⟩) (by show w.heap.size ≤ bO; omega) (.int .i64 (f + y))
        have o1 := O.c1
        have of1 := O.f1
        refine oneH 13 rfl (by kernel_rfl) (fun K' hK => ?_)
        go_simp
        refine hK _ _ ⟨X7.c0, X7.c1, X7.c2, A7.c0, A7.c1, A7.c2, O7.c0, O7.c2⟩ ?_
        clear hK hHeld
        refine wpAnyH_done (by kernel_rfl) ?_ _
        clear o1 of1 X A R O B t7 X7 A7
        have o0 := O7.c0
        have o1 := O7.c1
        have o2 := O7.c2
        go_wp2_with fail
        clear o0 o1 o2
        generalize w6.setCell ⟨bO, 1, none⟩ (.int .i64 (f + y)) = w7 at *
        refine (kF3 _).mono ?_
        rintro e w8 ⟨rfl, c8⟩
        have R := R7.below c8 (Nat.le_refl _)
        have O := O7.below c8 (Nat.le_refl _)
        have B := B7.trans (c8.mono B7.size)
        have r0 := R.c0
        have r1 := R.c1
        have r2 := R.c2
        have rf0 := R.f0
        have rf1 := R.f1
        have rf2 := R.f2
        have o0 := O.c0
        have o1 := O.c1
        have o2 := O.c2
        have n1 : ¬ bO = w.heap.size + 1 + 1 := by omega
        have n2 : ¬ w.heap.size + 1 + 1 = bO := by omega
        cases b3
        · skip
          have HB : Hid (Below w.heap.size w _) := ((B.setCell (p := ⟨w.heap.size + 1 + 1, 0, none⟩) (by show w.heap.size ≤ w.heap.size + 1 + 1; omega) (.bool false)).setCell (p := ⟨w.heap.size + 1 + 1, 1, none⟩) (by show w.heap.size ≤ w.heap.size + 1 + 1; omega) (.int .i64 (0))).setCell (p := ⟨w.heap.size + 1 + 1, 2, none⟩) (by show w.heap.size ≤ w.heap.size + 1 + 1; omega) (.int .i64 (0))
          clear B
          go_wp2
          (try simp only [Exit.inBlock, Exit.then])
          refine bodyPost_ret (v := .tuple #[vF false (0) (0), .bool false]) ?_ rfl ⟨by rw [HR.out]; rfl, HB.out⟩
          rw [results_cell_tmp rfl]
          go_simp
        · skip
          have HB : Hid (Below w.heap.size w _) := ((B.setCell (p := ⟨w.heap.size + 1 + 1, 0, none⟩) (by show w.heap.size ≤ w.heap.size + 1 + 1; omega) (.bool g')).setCell (p := ⟨w.heap.size + 1 + 1, 1, none⟩) (by show w.heap.size ≤ w.heap.size + 1 + 1; omega) (.int .i64 (f + y))).setCell (p := ⟨w.heap.size + 1 + 1, 2, none⟩) (by show w.heap.size ≤ w.heap.size + 1 + 1; omega) (.int .i64 (f))
          clear B
          go_wp2
          (try simp only [Exit.inBlock, Exit.then])
          refine bodyPost_ret (v := .tuple #[vF g' (f + y) (f), .bool true]) ?_ rfl ⟨by rw [HR.out]; rfl, HB.out⟩
          rw [results_cell_tmp rfl]
          go_simp
      · have kA1 := fun W => iAhead true m n true W ⟨by omega, m60⟩ ⟨n0, by omega⟩
        have kA2 := fun W => iAhead g' m' n' true W ⟨by omega, m60'⟩ ⟨n0', by omega⟩
        have ha1 := ahead_bd (g := true) hb1 true
        have ha2 := ahead_bd (g := g') hb2 true
        have HR : Hid (rr = (if fok (f + max (aheadI true m n true) (aheadI g' m' n' true)) f = true then ((true, f + max (aheadI true m n true) (aheadI g' m' n' true), f), true) else ((false, 0, 0), false))) := by
          show _ = _
          rw [← HC.out, commonR, if_pos ⟨hb1, hb2⟩, hf]
          simp only [Bool.false_or, Bool.true_or]
        generalize aheadI true m n true = y1 at *
        generalize aheadI g' m' n' true = y2 at *
        obtain ⟨y, hy⟩ : ∃ y, max y1 y2 = y := ⟨_, rfl⟩
        have hyb : 0 ≤ y ∧ y ≤ 61 := by omega
        have hmy : (if y1 < y2 then y2 else y1) = y := by rw [← hy]; split <;> omega
        have hmy2 : (if y1 ≤ y2 then y2 else y1) = y := by rw [← hy]; split <;> omega
        rw [hy] at HR
        have kF3 := fun W => iFmtOk true (f + y) f W
        obtain ⟨b3, hb3⟩ : ∃ b, fok (f + y) f = b := ⟨_, rfl⟩
        rw [hb3] at kF3 HR
        have hadd : IntKind.i64.wrap (f + y) = f + y := by rw [IntKind.wrap_i64]; omega
        clear kF1 kF2 HN HC hb1 hb2 hb3
        have O := Box3.made w2 (.bool true) (.int .i64 0) (.int .i64 f) 24
        have bb := below1 w2 (.cells #[.bool true, .int .i64 0, .int .i64 f] 24)
        replace X := X.below bb (Nat.le_refl _)
        replace A := A.below bb (Nat.le_refl _)
        replace R := R.below bb (Nat.le_refl _)
        replace B := B.trans (bb.mono B.size)
        go_wp2_with fail
        clear d0 d1 d2 p0 p1 p2 r0 r1 r2 rf0 rf1 rf2
        clear bb
        generalize hbO : w2.heap.size = bO at *
        generalize w2.alloc (.cells #[.bool true, .int .i64 0, .int .i64 f] 24) = w3 at *
        have bd := (Below.refl w3.heap.size w3).drew
        replace X := X.below bd (Nat.le_refl _)
        replace A := A.below bd (Nat.le_refl _)
        replace R := R.below bd (Nat.le_refl _)
        replace O := O.below bd (Nat.le_refl _)
        replace B := B.trans (bd.mono B.size)
        refine wp_region_held_drew (S := fun W => W.cell? ⟨w.heap.size, 0, none⟩ = some (.bool true) ∧ W.cell? ⟨w.heap.size, 1, none⟩ = some (.int .i64 m) ∧ W.cell? ⟨w.heap.size, 2, none⟩ = some (.int .i64 n) ∧ W.cell? ⟨w.heap.size + 1, 0, none⟩ = some (.bool g') ∧ W.cell? ⟨w.heap.size + 1, 1, none⟩ = some (.int .i64 m') ∧ W.cell? ⟨w.heap.size + 1, 2, none⟩ = some (.int .i64 n') ∧ W.cell? ⟨bO, 0, none⟩ = some (.bool true) ∧ W.cell? ⟨bO, 2, none⟩ = some (.int .i64 f)) (by kernel_rfl) ⟨X.c0, X.c1, X.c2, A.c0, A.c1, A.c2, O.c0, O.c2⟩ ?_
        intro hHeld
        generalize w3.drew = w4 at *
        clear bd
        refine takeH 0 (some 28) (.pointer (some ⟨bO, 2, none⟩)) rfl rfl (by kernel_rfl) (by kernel_rfl) (by kernel_rfl) (fun _ _ _ h => h) (Or.inl ⟨rfl, fun W hW => by obtain _ := hW; go_simp⟩) (by assumption) ?_
        simp only [Act.put, List.setIfInBounds_toArray, List.set_cons_zero, List.set_cons_succ]
        refine takeH 1 (some 29) (.int .i64 f) rfl rfl (by kernel_rfl) (by kernel_rfl) (by kernel_rfl) (fun _ _ _ h => h) (Or.inl ⟨rfl, fun W hW => by obtain ⟨_, _, _, _, _, _, _a, _b⟩ := hW; go_simp⟩) (by assumption) ?_
        simp only [Act.put, List.setIfInBounds_toArray, List.set_cons_zero, List.set_cons_succ]
        refine takeH 2 (some 30) (.agg #[.bool true, .int .i64 m, .int .i64 n]) rfl rfl (by kernel_rfl) (by kernel_rfl) (by kernel_rfl) (fun _ _ _ h => h) (Or.inl ⟨rfl, fun W hW => by obtain ⟨_a, _b, _c, _, _, _, _, _⟩ := hW; go_simp⟩) (by assumption) ?_
        simp only [Act.put, List.setIfInBounds_toArray, List.set_cons_zero, List.set_cons_succ]
        refine takeH 3 (some 31) (.pointer (some ⟨bO, 0, none⟩)) rfl rfl (by kernel_rfl) (by kernel_rfl) (by kernel_rfl) (fun _ _ _ h => h) (Or.inl ⟨rfl, fun W hW => by obtain _ := hW; go_simp⟩) (by assumption) ?_
        simp only [Act.put, List.setIfInBounds_toArray, List.set_cons_zero, List.set_cons_succ]
        refine takeH 4 (some 32) (.bool true) rfl rfl (by kernel_rfl) (by kernel_rfl) (by kernel_rfl) (fun _ _ _ h => h) (Or.inl ⟨rfl, fun W hW => by obtain ⟨_, _, _, _, _, _, _a, _b⟩ := hW; go_simp⟩) (by assumption) ?_
        simp only [Act.put, List.setIfInBounds_toArray, List.set_cons_zero, List.set_cons_succ]
        refine takeH 6 (some 34) (.agg #[.bool g', .int .i64 m', .int .i64 n']) rfl rfl (by kernel_rfl) (by kernel_rfl) (by kernel_rfl) (fun _ _ _ h => h) (Or.inl ⟨rfl, fun W hW => by obtain ⟨_, _, _, _a, _b, _c, _, _⟩ := hW; go_simp⟩) (by assumption) ?_
        simp only [Act.put, List.setIfInBounds_toArray, List.set_cons_zero, List.set_cons_succ]
        refine takeH 7 (some 35) (.pointer (some ⟨bO, 0, none⟩)) rfl rfl (by kernel_rfl) (by kernel_rfl) (by kernel_rfl) (fun _ _ _ h => h) (Or.inl ⟨rfl, fun W hW => by obtain _ := hW; go_simp⟩) (by assumption) ?_
        simp only [Act.put, List.setIfInBounds_toArray, List.set_cons_zero, List.set_cons_succ]
        refine takeH 8 (some 36) (.bool true) rfl rfl (by kernel_rfl) (by kernel_rfl) (by kernel_rfl) (fun _ _ _ h => h) (Or.inl ⟨rfl, fun W hW => by obtain ⟨_, _, _, _, _, _, _a, _b⟩ := hW; go_simp⟩) (by assumption) ?_
        simp only [Act.put, List.setIfInBounds_toArray, List.set_cons_zero, List.set_cons_succ]
        refine oneH 5 rfl (by kernel_rfl) (fun K' hK => ?_)
        go_simp
        refine (kA1 _).mono ?_
        rintro e w5 ⟨rfl, c5⟩
        replace X := X.below c5 (Nat.le_refl _)
        replace A := A.below c5 (Nat.le_refl _)
        replace R := R.below c5 (Nat.le_refl _)
        replace O := O.below c5 (Nat.le_refl _)
        replace B := B.trans (c5.mono B.size)
        refine hK _ _ ⟨X.c0, X.c1, X.c2, A.c0, A.c1, A.c2, O.c0, O.c2⟩ ?_
        clear hK hHeld
        refine oneH 9 rfl (by kernel_rfl) (fun K' hK => ?_)
        go_simp
        refine (kA2 _).mono ?_
        rintro e w6 ⟨rfl, c6⟩
        replace X := X.below c6 (Nat.le_refl _)
        replace A := A.below c6 (Nat.le_refl _)
        replace R := R.below c6 (Nat.le_refl _)
        replace O := O.below c6 (Nat.le_refl _)
        replace B := B.trans (c6.mono B.size)
        refine hK _ _ ⟨X.c0, X.c1, X.c2, A.c0, A.c1, A.c2, O.c0, O.c2⟩ ?_
        clear hK c5 c6
        have hHeld := (⟨X.c0, X.c1, X.c2, A.c0, A.c1, A.c2, O.c0, O.c2⟩ : _ ∧ _ ∧ _ ∧ _ ∧ _ ∧ _ ∧ _ ∧ _)
        refine oneH 10 rfl (by kernel_rfl) (fun K' hK => ?_)
        go_simp
        refine hK _ _ ⟨X.c0, X.c1, X.c2, A.c0, A.c1, A.c2, O.c0, O.c2⟩ ?_
        clear hK
        refine takeH 11 (some 39) (.int .i64 (f + y)) rfl rfl (by kernel_rfl) (by kernel_rfl) (by kernel_rfl) (fun _ _ _ h => h) (Or.inl ⟨rfl, fun W hW => by obtain _ := hW; go_simp⟩) (by assumption) ?_
        simp only [Act.put, List.setIfInBounds_toArray, List.set_cons_zero, List.set_cons_succ]
        refine takeH 12 (some 40) (.pointer (some ⟨bO, 1, none⟩)) rfl rfl (by kernel_rfl) (by kernel_rfl) (by kernel_rfl) (fun _ _ _ h => h) (Or.inl ⟨rfl, fun W hW => by obtain _ := hW; go_simp⟩) (by assumption) ?_
        simp only [Act.put, List.setIfInBounds_toArray, List.set_cons_zero, List.set_cons_succ]
        have t7 := tn_one w6 bO 1 (.int .i64 (f + y))
        have X7 := X.tn t7 (by simp; omega)
        have A7 := A.tn t7 (by simp; omega)
        have R7 := R.tn t7 (by simp; omega)
        have O7 := O.set1 (.int .i64 (f + y))
        have B7 := B.setCell (p := ⟨bO, 1, none⟩) (by show w.heap.size ≤ bO; omega) (.int .i64 (f + y))
        have o1 := O.c1
        have of1 := O.f1
        refine oneH 13 rfl (by kernel_rfl) (fun K' hK => ?_)
        go_simp
        refine hK _ _ ⟨X7.c0, X7.c1, X7.c2, A7.c0, A7.c1, A7.c2, O7.c0, O7.c2⟩ ?_
        clear hK hHeld
        refine wpAnyH_done (by kernel_rfl) ?_ _
        clear o1 of1 X A R O B t7 X7 A7
        have o0 := O7.c0
        have o1 := O7.c1
        have o2 := O7.c2
        go_wp2_with fail
        clear o0 o1 o2
        generalize w6.setCell ⟨bO, 1, none⟩ (.int .i64 (f + y)) = w7 at *
        refine (kF3 _).mono ?_
        rintro e w8 ⟨rfl, c8⟩
        have R := R7.below c8 (Nat.le_refl _)
        have O := O7.below c8 (Nat.le_refl _)
        have B := B7.trans (c8.mono B7.size)
        have r0 := R.c0
        have r1 := R.c1
        have r2 := R.c2
        have rf0 := R.f0
        have rf1 := R.f1
        have rf2 := R.f2
        have o0 := O.c0
        have o1 := O.c1
        have o2 := O.c2
        have n1 : ¬ bO = w.heap.size + 1 + 1 := by omega
        have n2 : ¬ w.heap.size + 1 + 1 = bO := by omega
        cases b3
        · skip
          have HB : Hid (Below w.heap.size w _) := ((B.setCell (p := ⟨w.heap.size + 1 + 1, 0, none⟩) (by show w.heap.size ≤ w.heap.size + 1 + 1; omega) (.bool false)).setCell (p := ⟨w.heap.size + 1 + 1, 1, none⟩) (by show w.heap.size ≤ w.heap.size + 1 + 1; omega) (.int .i64 (0))).setCell (p := ⟨w.heap.size + 1 + 1, 2, none⟩) (by show w.heap.size ≤ w.heap.size + 1 + 1; omega) (.int .i64 (0))
          clear B
          go_wp2
          (try simp only [Exit.inBlock, Exit.then])
          refine bodyPost_ret (v := .tuple #[vF false (0) (0), .bool false]) ?_ rfl ⟨by rw [HR.out]; rfl, HB.out⟩
          rw [results_cell_tmp rfl]
          go_simp
        · skip
          have HB : Hid (Below w.heap.size w _) := ((B.setCell (p := ⟨w.heap.size + 1 + 1, 0, none⟩) (by show w.heap.size ≤ w.heap.size + 1 + 1; omega) (.bool true)).setCell (p := ⟨w.heap.size + 1 + 1, 1, none⟩) (by show w.heap.size ≤ w.heap.size + 1 + 1; omega) (.int .i64 (f + y))).setCell (p := ⟨w.heap.size + 1 + 1, 2, none⟩) (by show w.heap.size ≤ w.heap.size + 1 + 1; omega) (.int .i64 (f))
          clear B
          go_wp2
          (try simp only [Exit.inBlock, Exit.then])
          refine bodyPost_ret (v := .tuple #[vF true (f + y) (f), .bool true]) ?_ rfl ⟨by rw [HR.out]; rfl, HB.out⟩
          rw [results_cell_tmp rfl]
          go_simp

end Go.Proofs.Ytnbkhocbncniiaa
