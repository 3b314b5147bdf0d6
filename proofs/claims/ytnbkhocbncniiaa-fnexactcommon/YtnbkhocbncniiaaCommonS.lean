/- Common of the specification, by its contract. -/
import Derived.Test.YtnbkhocbncniiaaCommonI
import Derived.Test.YtnbkhocbncniiaaSMax
namespace Go.Proofs.Ytnbkhocbncniiaa
open Go.RowKit
set_option linter.unusedSimpArgs false

theorem holdsZ {g s : Bool} {m n W F : Int} (hf : fok m n = true) (hn : n ≤ F) (hs : g = true → s = true) : holdsB g m n s W F = true ↔ fok W F = true ∧ F + aheadI g m n s ≤ W := by
  obtain ⟨m2, m60, n0, nm⟩ := (fok_iff _ _).1 hf
  by_cases hW : 0 ≤ W
  · obtain ⟨m', rfl⟩ := Int.eq_ofNat_of_zero_le (show 0 ≤ m by omega)
    obtain ⟨n', rfl⟩ := Int.eq_ofNat_of_zero_le n0
    obtain ⟨W', rfl⟩ := Int.eq_ofNat_of_zero_le hW
    obtain ⟨F', rfl⟩ := Int.eq_ofNat_of_zero_le (show 0 ≤ F by omega)
    exact holds_room g s m' n' W' F' hf (by omega) hs
  · have hb : fok W F = false := by
      cases h : fok W F
      · rfl
      · have := (fok_iff _ _).1 h; omega
    constructor
    · intro h
      unfold holdsB at h
      rw [hb] at h
      simp at h
    · rintro ⟨h, -⟩
      rw [hb] at h; cases h
/-- The least width that holds both. -/
theorem common_yes {g g' : Bool} {m n m' n' j : Int} (h1 : fok m n = true) (h2 : fok m' n' = true) (hj : 2 ≤ j ∧ j ≤ 60) (hx : holdsB g m n (g || g') j (max n n') = true) (hy : holdsB g' m' n' (g || g') j (max n n') = true)
    (hl : ∀ v, 2 ≤ v → v < j → ¬ (holdsB g m n (g || g') v (max n n') = true ∧ holdsB g' m' n' (g || g') v (max n n') = true)) : commonR g m n g' m' n' = (((g || g'), j, max n n'), true) := by
  obtain ⟨a1, a2, a3, a4⟩ := (fok_iff _ _).1 h1
  obtain ⟨c1, c2, c3, c4⟩ := (fok_iff _ _).1 h2
  have r1 := fun W => holdsZ (g := g) (W := W) (s := g || g') h1 (show n ≤ max n n' by omega) (fun h => by rw [h]; rfl)
  have r2 := fun W => holdsZ (g := g') (W := W) (s := g || g') h2 (show n' ≤ max n n' by omega) (fun h => by rw [h]; simp)
  have e1 : m - n ≤ aheadI g m n (g || g') := by unfold aheadI; split <;> omega
  have e2 : m' - n' ≤ aheadI g' m' n' (g || g') := by unfold aheadI; split <;> omega
  obtain ⟨x1, x2⟩ := (r1 j).1 hx
  obtain ⟨-, y2⟩ := (r2 j).1 hy
  rw [commonR, if_pos ⟨h1, h2⟩]
  generalize aheadI g m n (g || g') = p at *
  generalize aheadI g' m' n' (g || g') = q at *
  obtain ⟨N, hN⟩ : ∃ N, max n n' + max p q = N := ⟨_, rfl⟩
  have hNj : N = j := by
    apply Classical.byContradiction
    intro hne
    have hf : fok N (max n n') = true := (fok_iff _ _).2 (by omega)
    exact hl N (by omega) (by omega) ⟨(r1 N).2 ⟨hf, by omega⟩, (r2 N).2 ⟨hf, by omega⟩⟩
  rw [hN, hNj, if_pos x1]
theorem common_no {g g' : Bool} {m n m' n' : Int} (h1 : fok m n = true) (h2 : fok m' n' = true)
    (hl : ∀ v, 2 ≤ v → v < 61 → ¬ (holdsB g m n (g || g') v (max n n') = true ∧ holdsB g' m' n' (g || g') v (max n n') = true)) : commonR g m n g' m' n' = ((false, 0, 0), false) := by
  obtain ⟨a1, a2, a3, a4⟩ := (fok_iff _ _).1 h1
  obtain ⟨c1, c2, c3, c4⟩ := (fok_iff _ _).1 h2
  have r1 := fun W => holdsZ (g := g) (W := W) (s := g || g') h1 (show n ≤ max n n' by omega) (fun h => by rw [h]; rfl)
  have r2 := fun W => holdsZ (g := g') (W := W) (s := g || g') h2 (show n' ≤ max n n' by omega) (fun h => by rw [h]; simp)
  rw [commonR, if_pos ⟨h1, h2⟩]
  generalize aheadI g m n (g || g') = p at *
  generalize aheadI g' m' n' (g || g') = q at *
  rw [if_neg]
  intro hf
  obtain ⟨f1, f2, f3, f4⟩ := (fok_iff _ _).1 hf
  exact hl _ f1 (by omega) ⟨(r1 _).2 ⟨hf, by omega⟩, (r2 _).2 ⟨hf, by omega⟩⟩
/-- Two may come up: each is run. -/
theorem twoH {ops : Array Oper} {Q : Exit → Act → World → Prop} {md : Region.Mode} {S : World → Prop} {o o' : Oper} {fuel : Nat} {listed : Array Bool} {a : Act} {w : World} (i j : Nat) (ho : ops[i]? = some o) (ho' : ops[j]? = some o') (hr : Region.ready md ops listed = [i, j])
    (h : ∀ K' : Act → World → Prop, (∀ a w, S w → wpAnyH Try.prog md ops Q S fuel (listed.setIfInBounds i true) a w → K' a w) → if Region.wanted o (yielded ops a.tmps) = true then Oper.wp Try.prog o a w K' Q else K' (a.put o.dst undef) w)
    (h' : ∀ K' : Act → World → Prop, (∀ a w, S w → wpAnyH Try.prog md ops Q S fuel (listed.setIfInBounds j true) a w → K' a w) → if Region.wanted o' (yielded ops a.tmps) = true then Oper.wp Try.prog o' a w K' Q else K' (a.put o'.dst undef) w) : wpAnyH Try.prog md ops Q S (fuel + 1) listed a w :=
  wpAnyH_all hr (by simp) (fun k hk => by
    rcases List.mem_cons.1 hk with rfl | hk
    · exact wpOp_step ho (fun K' hK => h K' (fun a w h1 h2 => hK a w ⟨h1, h2⟩))
    · obtain rfl : k = j := by simpa using hk
      exact wpOp_step ho' (fun K' hK => h' K' (fun a w h1 h2 => hK a w ⟨h1, h2⟩)))

set_option maxRecDepth 20000 in
set_option maxHeartbeats 40000000 in
theorem sCommon (g : Bool) (m n : Int) (g' : Bool) (m' n' : Int) (w : World) :
    Calls Try.prog 4 #[vF g m n, vF g' m' n'] w fun e w' => e = .returned (.tuple #[vF (commonR g m n g' m' n').1.1 (commonR g m n g' m' n').1.2.1 (commonR g m n g' m' n').1.2.2, .bool (commonR g m n g' m' n').2]) ∧ Below w.heap.size w w' := by
  have kF1 := fun W => sFmtOk g m n W
  have kF2 := fun W => sFmtOk g' m' n' W
  obtain ⟨b1, hb1⟩ : ∃ b, fok m n = b := ⟨_, rfl⟩
  obtain ⟨b2, hb2⟩ : ∃ b, fok m' n' = b := ⟨_, rfl⟩
  rw [hb1] at kF1
  rw [hb2] at kF2
  obtain ⟨rr, hrr⟩ : ∃ r, commonR g m n g' m' n' = r := ⟨_, rfl⟩
  rw [hrr]
  have HN : Hid (¬ (b1 = true ∧ b2 = true) → rr = ((false, 0, 0), false)) := fun h => by rw [← hrr, commonR, if_neg (by rw [hb1, hb2]; exact h)]
  have HC : Hid (commonR g m n g' m' n' = rr) := hrr
  clear hrr
  have s1 : (w.alloc (.cells #[.bool g, .int .i64 m, .int .i64 n] 24)).heap.size = w.heap.size + 1 := by simp
  have s2 : ((w.alloc (.cells #[.bool g, .int .i64 m, .int .i64 n] 24)).alloc (.cells #[.bool g', .int .i64 m', .int .i64 n'] 24)).heap.size = w.heap.size + 1 + 1 := by simp
  have s3 : (((w.alloc (.cells #[.bool g, .int .i64 m, .int .i64 n] 24)).alloc (.cells #[.bool g', .int .i64 m', .int .i64 n'] 24)).alloc (.cells #[.bool false, .int .i64 0, .int .i64 0] 24)).heap.size = w.heap.size + 1 + 1 + 1 := by simp
  have X := ((Box3.made w (.bool g) (.int .i64 m) (.int .i64 n) 24).below (below1 _ (.cells #[.bool g', .int .i64 m', .int .i64 n'] 24)) (Nat.le_refl _)).below (below1 _ (.cells #[.bool false, .int .i64 0, .int .i64 0] 24)) (Nat.le_refl _)
  have A := (Box3.made (w.alloc (.cells #[.bool g, .int .i64 m, .int .i64 n] 24)) (.bool g') (.int .i64 m') (.int .i64 n') 24).below (below1 _ (.cells #[.bool false, .int .i64 0, .int .i64 0] 24)) (Nat.le_refl _)
  have R := Box3.made ((w.alloc (.cells #[.bool g, .int .i64 m, .int .i64 n] 24)).alloc (.cells #[.bool g', .int .i64 m', .int .i64 n'] 24)) (.bool false) (.int .i64 0) (.int .i64 0) 24
  rw [s1] at A
  rw [s2] at R
  have B := below3 w (.cells #[.bool g, .int .i64 m, .int .i64 n] 24) (.cells #[.bool g', .int .i64 m', .int .i64 n'] 24) (.cells #[.bool false, .int .i64 0, .int .i64 0] 24)
  clear s1 s2
  go_enter Try.func4, Try.ntmps4
  go_wp2_with fail
  generalize ((w.alloc (.cells #[.bool g, .int .i64 m, .int .i64 n] 24)).alloc (.cells #[.bool g', .int .i64 m', .int .i64 n'] 24)).alloc (.cells #[.bool false, .int .i64 0, .int .i64 0] 24) = w0 at *
  refine (kF1 _).mono ?_
  rintro e w1 ⟨rfl, c1⟩
  replace X := X.below c1 (Nat.le_refl _)
  replace A := A.below c1 (Nat.le_refl _)
  replace R := R.below c1 (Nat.le_refl _)
  replace B := B.trans (c1.mono B.size)
  have d0 := X.c0
  have d1 := X.c1
  have d2 := X.c2
  have p0 := A.c0
  have p1 := A.c1
  have p2 := A.c2
  have r0 := R.c0
  have r1 := R.c1
  have r2 := R.c2
  have rf0 := R.f0
  have rf1 := R.f1
  have rf2 := R.f2
  cases b1
  · have HR : Hid (rr = ((false, 0, 0), false)) := HN.out (by simp)
    clear HN HC
    have HB : Hid (Below w.heap.size w _) := ((B.setCell (p := ⟨w.heap.size + 1 + 1, 0, none⟩) (by show w.heap.size ≤ w.heap.size + 1 + 1; omega) (.bool false)).setCell (p := ⟨w.heap.size + 1 + 1, 1, none⟩) (by show w.heap.size ≤ w.heap.size + 1 + 1; omega) (.int .i64 (0))).setCell (p := ⟨w.heap.size + 1 + 1, 2, none⟩) (by show w.heap.size ≤ w.heap.size + 1 + 1; omega) (.int .i64 (0))
    clear B
    go_wp2
    (try simp only [Exit.inBlock, Exit.then])
    refine bodyPost_ret (v := .tuple #[vF false (0) (0), .bool false]) ?_ rfl ⟨by rw [HR.out], HB.out⟩
    rw [results_cell_tmp rfl]
    go_simp
  · go_wp2_with fail
    clear d0 d1 d2 p0 p1 p2 r0 r1 r2 rf0 rf1 rf2
    refine (kF2 _).mono ?_
    rintro e w2 ⟨rfl, c2⟩
    replace X := X.below c2 (Nat.le_refl _)
    replace A := A.below c2 (Nat.le_refl _)
    replace R := R.below c2 (Nat.le_refl _)
    replace B := B.trans (c2.mono B.size)
    have d0 := X.c0
    have d1 := X.c1
    have d2 := X.c2
    have p0 := A.c0
    have p1 := A.c1
    have p2 := A.c2
    have r0 := R.c0
    have r1 := R.c1
    have r2 := R.c2
    have rf0 := R.f0
    have rf1 := R.f1
    have rf2 := R.f2
    cases b2
    · have HR : Hid (rr = ((false, 0, 0), false)) := HN.out (by simp)
      clear HN HC
      have HB : Hid (Below w.heap.size w _) := ((B.setCell (p := ⟨w.heap.size + 1 + 1, 0, none⟩) (by show w.heap.size ≤ w.heap.size + 1 + 1; omega) (.bool false)).setCell (p := ⟨w.heap.size + 1 + 1, 1, none⟩) (by show w.heap.size ≤ w.heap.size + 1 + 1; omega) (.int .i64 (0))).setCell (p := ⟨w.heap.size + 1 + 1, 2, none⟩) (by show w.heap.size ≤ w.heap.size + 1 + 1; omega) (.int .i64 (0))
      clear B
      go_wp2
      (try simp only [Exit.inBlock, Exit.then])
      refine bodyPost_ret (v := .tuple #[vF false (0) (0), .bool false]) ?_ rfl ⟨by rw [HR.out], HB.out⟩
      rw [results_cell_tmp rfl]
      go_simp
    · obtain ⟨f, hf⟩ : ∃ f, max n n' = f := ⟨_, rfl⟩
      cases g
      · obtain ⟨m2, m60, n0, nm⟩ := (fok_iff _ _).1 hb1
        obtain ⟨m2', m60', n0', nm'⟩ := (fok_iff _ _).1 hb2
        have kX : ∀ W, Calls Try.prog 9 #[.int .i64 n, .int .i64 n'] W fun e w' => e = .returned (.int .i64 f) ∧ w' = W := fun W => by
          obtain ⟨p, hp⟩ := Int.eq_ofNat_of_zero_le n0
          obtain ⟨q, hq⟩ := Int.eq_ofNat_of_zero_le n0'
          have := sMax p q W
          rw [hp, hq, show f = ((max p q : Nat) : Int) by omega]
          exact this
        have HCM : Hid (max n n' = f) := hf
        clear hf
        clear kF1 kF2 HN
        clear d0 d1 d2 p0 p1 p2 r0 r1 r2 rf0 rf1 rf2
        go_wp2_with fail
        have bd := (Below.refl w2.heap.size w2).drew
        replace X := X.below bd (Nat.le_refl _)
        replace A := A.below bd (Nat.le_refl _)
        replace R := R.below bd (Nat.le_refl _)
        replace B := B.trans (bd.mono B.size)
        refine wp_region_held_drew (S := fun W => W.cell? ⟨w.heap.size, 0, none⟩ = some (.bool false) ∧ W.cell? ⟨w.heap.size, 1, none⟩ = some (.int .i64 m) ∧ W.cell? ⟨w.heap.size, 2, none⟩ = some (.int .i64 n) ∧ W.cell? ⟨w.heap.size + 1, 0, none⟩ = some (.bool g') ∧ W.cell? ⟨w.heap.size + 1, 1, none⟩ = some (.int .i64 m') ∧ W.cell? ⟨w.heap.size + 1, 2, none⟩ = some (.int .i64 n')) (by kernel_rfl) ⟨X.c0, X.c1, X.c2, A.c0, A.c1, A.c2⟩ ?_
        intro hHeld
        have hb2' : w.heap.size + 1 + 1 < w2.drew.heap.size := R.hi
        generalize w2.drew = w4 at *
        clear bd
        refine takeH 0 (some 17) (.pointer (some ⟨w.heap.size, 0, none⟩)) rfl rfl (by kernel_rfl) (by kernel_rfl) (by kernel_rfl) (fun _ _ _ h => h) (Or.inl ⟨rfl, fun W hW => by obtain _ := hW; go_simp⟩) (by assumption) ?_
        simp only [Act.put, List.setIfInBounds_toArray, List.set_cons_zero, List.set_cons_succ]
        refine takeH 1 (some 18) (.bool false) rfl rfl (by kernel_rfl) (by kernel_rfl) (by kernel_rfl) (fun _ _ _ h => h) (Or.inl ⟨rfl, fun W hW => by obtain ⟨_a, _b, _c, _, _, _⟩ := hW; go_simp⟩) (by assumption) ?_
        simp only [Act.put, List.setIfInBounds_toArray, List.set_cons_zero, List.set_cons_succ]
        refine takeH 2 (some 19) (.bool false) rfl rfl (by kernel_rfl) (by kernel_rfl) (by kernel_rfl) (fun _ _ _ h => h) (yg_move rfl (.tmp 18) rfl _ rfl) (by assumption) ?_
        simp only [Act.put, List.setIfInBounds_toArray, List.set_cons_zero, List.set_cons_succ]
        refine takeH 3 (some 20) (.pointer (some ⟨w.heap.size + 1, 0, none⟩)) rfl rfl (by kernel_rfl) (by kernel_rfl) (by kernel_rfl) (fun _ _ _ h => h) (Or.inl ⟨rfl, fun W hW => by obtain _ := hW; go_simp⟩) (by assumption) ?_
        simp only [Act.put, List.setIfInBounds_toArray, List.set_cons_zero, List.set_cons_succ]
        refine takeH 4 (some 21) (.bool g') rfl rfl (by kernel_rfl) (by kernel_rfl) (by kernel_rfl) (fun _ _ _ h => h) (Or.inl ⟨rfl, fun W hW => by obtain ⟨_, _, _, _a, _b, _c⟩ := hW; go_simp⟩) (by assumption) ?_
        simp only [Act.put, List.setIfInBounds_toArray, List.set_cons_zero, List.set_cons_succ]
        refine takeH 5 (some 22) (.bool g') rfl rfl (by kernel_rfl) (by kernel_rfl) (by kernel_rfl) (fun _ _ _ h => h) (yg_pick rfl (.tmp 19) (.const (.bool true)) (.tmp 21) rfl false rfl _ rfl) (by assumption) ?_
        simp only [Act.put, List.setIfInBounds_toArray, List.set_cons_zero, List.set_cons_succ]
        refine takeH 6 (some 23) (.pointer (some ⟨w.heap.size, 2, none⟩)) rfl rfl (by kernel_rfl) (by kernel_rfl) (by kernel_rfl) (fun _ _ _ h => h) (Or.inl ⟨rfl, fun W hW => by obtain _ := hW; go_simp⟩) (by assumption) ?_
        simp only [Act.put, List.setIfInBounds_toArray, List.set_cons_zero, List.set_cons_succ]
        refine takeH 7 (some 24) (.int .i64 n) rfl rfl (by kernel_rfl) (by kernel_rfl) (by kernel_rfl) (fun _ _ _ h => h) (Or.inl ⟨rfl, fun W hW => by obtain ⟨_a, _b, _c, _, _, _⟩ := hW; go_simp⟩) (by assumption) ?_
        simp only [Act.put, List.setIfInBounds_toArray, List.set_cons_zero, List.set_cons_succ]
        refine takeH 8 (some 25) (.pointer (some ⟨w.heap.size + 1, 2, none⟩)) rfl rfl (by kernel_rfl) (by kernel_rfl) (by kernel_rfl) (fun _ _ _ h => h) (Or.inl ⟨rfl, fun W hW => by obtain _ := hW; go_simp⟩) (by assumption) ?_
        simp only [Act.put, List.setIfInBounds_toArray, List.set_cons_zero, List.set_cons_succ]
        refine takeH 9 (some 26) (.int .i64 n') rfl rfl (by kernel_rfl) (by kernel_rfl) (by kernel_rfl) (fun _ _ _ h => h) (Or.inl ⟨rfl, fun W hW => by obtain ⟨_, _, _, _a, _b, _c⟩ := hW; go_simp⟩) (by assumption) ?_
        simp only [Act.put, List.setIfInBounds_toArray, List.set_cons_zero, List.set_cons_succ]
        have bb := below1 w4 (.cells #[.bool false, .int .i64 0, .int .i64 0] 24)
        have X1 := X.below bb (Nat.le_refl _)
        have A1 := A.below bb (Nat.le_refl _)
        have R1 := R.below bb (Nat.le_refl _)
        have B1 := B.trans (bb.mono B.size)
        have O1 := Box3.made w4 (.bool false) (.int .i64 0) (.int .i64 0) 24
        have bs := below1 w4 (.cells #[.bool g', .int .i64 0, .int .i64 f] 24)
        have X2 := X.below bs (Nat.le_refl _)
        have A2 := A.below bs (Nat.le_refl _)
        have R2 := R.below bs (Nat.le_refl _)
        have B2 := B.trans (bs.mono B.size)
        have O2 := Box3.made w4 (.bool g') (.int .i64 0) (.int .i64 f) 24
        refine twoH 10 12 rfl rfl (by kernel_rfl) (fun K' hK => ?_) (fun K' hK => ?_)
        · go_simp
          refine (kX _).mono ?_
          rintro e w4 ⟨rfl, rfl⟩
          refine hK _ _ ⟨X.c0, X.c1, X.c2, A.c0, A.c1, A.c2⟩ ?_
          clear hK
          refine takeH 11 (some 28) (.agg #[.bool g', .int .i64 0, .int .i64 f]) rfl rfl (by kernel_rfl) (by kernel_rfl) (by kernel_rfl) (fun _ _ _ h => h) (Or.inl ⟨rfl, fun W hW => by obtain _ := hW; go_simp⟩) (by assumption) ?_
          simp only [Act.put, List.setIfInBounds_toArray, List.set_cons_zero, List.set_cons_succ]
          refine oneH 12 rfl (by kernel_rfl) (fun K' hK => ?_)
          go_simp
          refine hK _ _ ⟨X1.c0, X1.c1, X1.c2, A1.c0, A1.c1, A1.c2⟩ ?_
          clear hK
          have u0 := O1.c0
          have u1 := O1.c1
          have u2 := O1.c2
          have u3 := O1.f0
          have u4 := O1.f1
          have u5 := O1.f2
          refine oneH 13 rfl (by kernel_rfl) (fun K' hK => ?_)
          go_simp
          refine hK _ _ ⟨X2.c0, X2.c1, X2.c2, A2.c0, A2.c1, A2.c2⟩ ?_
          clear hK hHeld u0 u1 u2 u3 u4 u5
          refine wpAnyH_done (by kernel_rfl) ?_ _
          clear X A R B X1 A1 R1 B1 O1 bb bs
          have X := X2
          have A := A2
          have R := R2
          have B := B2
          have O := O2
          have hb0 : w.heap.size + 1 + 1 < w4.heap.size := hb2'
          clear X2 A2 R2 B2 O2
          generalize w4.heap.size = bO at *
          generalize w4.alloc (.cells #[.bool g', .int .i64 0, .int .i64 f] 24) = wz at *
          go_wp2
          go_loopw [7] (fun i wr => ∃ (j : Int) (c : Int), 2 ≤ j ∧ j ≤ 61 ∧ i = .int .i64 j ∧ Box3 wr bO (.bool g') (.int .i64 c) (.int .i64 f) ∧ Box3 wr w.heap.size (.bool false) (.int .i64 m) (.int .i64 n) ∧ Box3 wr (w.heap.size + 1) (.bool g') (.int .i64 m') (.int .i64 n') ∧ Box3 wr (w.heap.size + 1 + 1) (.bool false) (.int .i64 0) (.int .i64 0) ∧ Below w.heap.size w wr ∧ Hid (∀ v, 2 ≤ v → v < j → ¬ (holdsB false m n g' v f = true ∧ holdsB g' m' n' g' v f = true))) (fun i _ => 61 - (intOf i).toNat)
          case atStart => exact ⟨2, 0, by omega, by omega, rfl, O, X, A, R, B, fun v h1 h2 => by omega⟩
          case round =>
            clear O X A R B
            obtain ⟨j, c, hj2, hj61, rfl, O, X, A, R, B, HL⟩ := hrel
            have d0 := X.c0
            have d1 := X.c1
            have d2 := X.c2
            have p0 := A.c0
            have p1 := A.c1
            have p2 := A.c2
            have r0 := R.c0
            have r1 := R.c1
            have r2 := R.c2
            have rf0 := R.f0
            have rf1 := R.f1
            have rf2 := R.f2
            by_cases hj : j ≤ 60
            · have kH1 := fun W => sHolds false m n g' j f W
              have kH2 := fun W => sHolds g' m' n' g' j f W
              obtain ⟨t1, ht1⟩ : ∃ t, holdsB false m n g' j f = t := ⟨_, rfl⟩
              obtain ⟨t2, ht2⟩ : ∃ t, holdsB g' m' n' g' j f = t := ⟨_, rfl⟩
              rw [ht1] at kH1
              rw [ht2] at kH2
              have HT : Hid (holdsB false m n g' j f = t1 ∧ holdsB g' m' n' g' j f = t2) := ⟨ht1, ht2⟩
              clear ht1 ht2
              have tt := tn_one wr bO 1 (.int .i64 j)
              have X1 := X.tn tt (by simp; omega)
              have A1 := A.tn tt (by simp; omega)
              have R1 := R.tn tt (by simp; omega)
              have O1 := O.set1 (.int .i64 j)
              have B1 := B.setCell (p := ⟨bO, 1, none⟩) (by show w.heap.size ≤ bO; omega) (.int .i64 j)
              have o1 := O.c1
              have o2 := O.c2
              have o0 := O.c0
              have of1 := O.f1
              have x0 := X1.c0
              have x1 := X1.c1
              have x2 := X1.c2
              have z0 := O1.c0
              have z1 := O1.c1
              have z2 := O1.c2
              have n3 : ¬ bO = w.heap.size := by omega
              have n4 : ¬ w.heap.size = bO := by omega
              go_wp2_with fail
              clear d0 d1 d2 p0 p1 p2 r0 r1 r2 rf0 rf1 rf2
              clear o0 o1 o2 of1 x0 x1 x2 z0 z1 z2 X A R O B tt
              generalize wr.setCell ⟨bO, 1, none⟩ (.int .i64 j) = w5 at *
              refine (kH1 _).mono ?_
              rintro e w6 ⟨rfl, c6⟩
              have X := X1.below c6 (Nat.le_refl _)
              have A := A1.below c6 (Nat.le_refl _)
              have R := R1.below c6 (Nat.le_refl _)
              have O := O1.below c6 (Nat.le_refl _)
              have B := B1.trans (c6.mono B1.size)
              clear X1 A1 R1 O1 B1 c6
              cases t1
              · go_wp2
                go_roundw
                case rel => exact ⟨j + 1, j, by omega, by omega, by go_num, O, X, A, R, B, fun v h1 h2 => by
                  by_cases hv : v = j
                  · subst hv; intro hh; rw [HT.out.1] at hh; cases hh.1
                  · exact HL.out v h1 (by omega)⟩
                case measure => simp [intOf]; omega
              · skip
                have d0 := X.c0
                have d1 := X.c1
                have d2 := X.c2
                have p0 := A.c0
                have p1 := A.c1
                have p2 := A.c2
                have r0 := R.c0
                have r1 := R.c1
                have r2 := R.c2
                have rf0 := R.f0
                have rf1 := R.f1
                have rf2 := R.f2
                have o0 := O.c0
                have o1 := O.c1
                have o2 := O.c2
                have of0 := O.f0
                have of1 := O.f1
                have of2 := O.f2
                go_wp2_with fail
                clear d0 d1 d2 p0 p1 p2 r0 r1 r2 rf0 rf1 rf2
                clear o0 o1 o2 of0 of1 of2
                refine (kH2 _).mono ?_
                rintro e w7 ⟨rfl, c7⟩
                replace X := X.below c7 (Nat.le_refl _)
                replace A := A.below c7 (Nat.le_refl _)
                replace R := R.below c7 (Nat.le_refl _)
                replace O := O.below c7 (Nat.le_refl _)
                replace B := B.trans (c7.mono B.size)
                clear c7
                cases t2
                · go_wp2
                  go_roundw
                  case rel => exact ⟨j + 1, j, by omega, by omega, by go_num, O, X, A, R, B, fun v h1 h2 => by
                    by_cases hv : v = j
                    · subst hv; intro hh; rw [HT.out.2] at hh; cases hh.2
                    · exact HL.out v h1 (by omega)⟩
                  case measure => simp [intOf]; omega
                · have HR : Hid (rr = ((g', j, f), true)) := by
                    show _ = _
                    rw [← HC.out]
                    have hh := common_yes (g := false) (g' := g') (m := m) (n := n) (m' := m') (n' := n') (j := j) hb1 hb2 ⟨hj2, hj⟩; rw [HCM.out] at hh; simp only [Bool.false_or] at hh
                    exact hh HT.out.1 HT.out.2 HL.out
                  have d0 := X.c0
                  have d1 := X.c1
                  have d2 := X.c2
                  have p0 := A.c0
                  have p1 := A.c1
                  have p2 := A.c2
                  have r0 := R.c0
                  have r1 := R.c1
                  have r2 := R.c2
                  have rf0 := R.f0
                  have rf1 := R.f1
                  have rf2 := R.f2
                  have o0 := O.c0
                  have o1 := O.c1
                  have o2 := O.c2
                  have of0 := O.f0
                  have of1 := O.f1
                  have of2 := O.f2
                  have n1 : ¬ bO = w.heap.size + 1 + 1 := by omega
                  have n2 : ¬ w.heap.size + 1 + 1 = bO := by omega
                  have HB : Hid (Below w.heap.size w _) := ((B.setCell (p := ⟨w.heap.size + 1 + 1, 0, none⟩) (by show w.heap.size ≤ w.heap.size + 1 + 1; omega) (.bool g')).setCell (p := ⟨w.heap.size + 1 + 1, 1, none⟩) (by show w.heap.size ≤ w.heap.size + 1 + 1; omega) (.int .i64 (j))).setCell (p := ⟨w.heap.size + 1 + 1, 2, none⟩) (by show w.heap.size ≤ w.heap.size + 1 + 1; omega) (.int .i64 (f))
                  clear B
                  go_wp2
                  (try simp only [Exit.inBlock, Exit.then])
                  refine bodyPost_ret (v := .tuple #[vF g' (j) (f), .bool true]) ?_ rfl ⟨by rw [HR.out], HB.out⟩
                  rw [results_cell_tmp rfl]
                  go_simp
            · have HR : Hid (rr = ((false, 0, 0), false)) := by
                show _ = _
                rw [← HC.out]
                have hh := common_no (g := false) (g' := g') (m := m) (n := n) (m' := m') (n' := n') hb1 hb2; rw [HCM.out] at hh; simp only [Bool.false_or] at hh; exact hh (fun v h1 h2 => HL.out v h1 (by omega))
              have HB : Hid (Below w.heap.size w _) := ((B.setCell (p := ⟨w.heap.size + 1 + 1, 0, none⟩) (by show w.heap.size ≤ w.heap.size + 1 + 1; omega) (.bool false)).setCell (p := ⟨w.heap.size + 1 + 1, 1, none⟩) (by show w.heap.size ≤ w.heap.size + 1 + 1; omega) (.int .i64 (0))).setCell (p := ⟨w.heap.size + 1 + 1, 2, none⟩) (by show w.heap.size ≤ w.heap.size + 1 + 1; omega) (.int .i64 (0))
              clear B
              go_wp2
              (try simp only [Exit.inBlock, Exit.then])
              refine bodyPost_ret (v := .tuple #[vF false (0) (0), .bool false]) ?_ rfl ⟨by rw [HR.out], HB.out⟩
              rw [results_cell_tmp rfl]
              go_simp
        · go_simp
          refine hK _ _ ⟨X1.c0, X1.c1, X1.c2, A1.c0, A1.c1, A1.c2⟩ ?_
          clear hK
          refine oneH 10 rfl (by kernel_rfl) (fun K' hK => ?_)
          go_simp
          refine (kX _).mono ?_
          rintro e wy ⟨rfl, rfl⟩
          refine hK _ _ ⟨X1.c0, X1.c1, X1.c2, A1.c0, A1.c1, A1.c2⟩ ?_
          clear hK
          have hHeld := (⟨X1.c0, X1.c1, X1.c2, A1.c0, A1.c1, A1.c2⟩ : _ ∧ _ ∧ _ ∧ _ ∧ _ ∧ _)
          refine takeH 11 (some 28) (.agg #[.bool g', .int .i64 0, .int .i64 f]) rfl rfl (by kernel_rfl) (by kernel_rfl) (by kernel_rfl) (fun _ _ _ h => h) (Or.inl ⟨rfl, fun W hW => by obtain _ := hW; go_simp⟩) (by assumption) ?_
          simp only [Act.put, List.setIfInBounds_toArray, List.set_cons_zero, List.set_cons_succ]
          have u0 := O1.c0
          have u1 := O1.c1
          have u2 := O1.c2
          have u3 := O1.f0
          have u4 := O1.f1
          have u5 := O1.f2
          refine oneH 13 rfl (by kernel_rfl) (fun K' hK => ?_)
          go_simp
          refine hK _ _ ⟨X2.c0, X2.c1, X2.c2, A2.c0, A2.c1, A2.c2⟩ ?_
          clear hK hHeld u0 u1 u2 u3 u4 u5
          refine wpAnyH_done (by kernel_rfl) ?_ _
          clear X A R B X1 A1 R1 B1 O1 bb bs
          have X := X2
          have A := A2
          have R := R2
          have B := B2
          have O := O2
          have hb0 : w.heap.size + 1 + 1 < w4.heap.size := hb2'
          clear X2 A2 R2 B2 O2
          generalize w4.heap.size = bO at *
          generalize w4.alloc (.cells #[.bool g', .int .i64 0, .int .i64 f] 24) = wz at *
          go_wp2
          go_loopw [7] (fun i wr => ∃ (j : Int) (c : Int), 2 ≤ j ∧ j ≤ 61 ∧ i = .int .i64 j ∧ Box3 wr bO (.bool g') (.int .i64 c) (.int .i64 f) ∧ Box3 wr w.heap.size (.bool false) (.int .i64 m) (.int .i64 n) ∧ Box3 wr (w.heap.size + 1) (.bool g') (.int .i64 m') (.int .i64 n') ∧ Box3 wr (w.heap.size + 1 + 1) (.bool false) (.int .i64 0) (.int .i64 0) ∧ Below w.heap.size w wr ∧ Hid (∀ v, 2 ≤ v → v < j → ¬ (holdsB false m n g' v f = true ∧ holdsB g' m' n' g' v f = true))) (fun i _ => 61 - (intOf i).toNat)
          case atStart => exact ⟨2, 0, by omega, by omega, rfl, O, X, A, R, B, fun v h1 h2 => by omega⟩
          case round =>
            clear O X A R B
            obtain ⟨j, c, hj2, hj61, rfl, O, X, A, R, B, HL⟩ := hrel
            have d0 := X.c0
            have d1 := X.c1
            have d2 := X.c2
            have p0 := A.c0
            have p1 := A.c1
            have p2 := A.c2
            have r0 := R.c0
            have r1 := R.c1
            have r2 := R.c2
            have rf0 := R.f0
            have rf1 := R.f1
            have rf2 := R.f2
            by_cases hj : j ≤ 60
            · have kH1 := fun W => sHolds false m n g' j f W
              have kH2 := fun W => sHolds g' m' n' g' j f W
              obtain ⟨t1, ht1⟩ : ∃ t, holdsB false m n g' j f = t := ⟨_, rfl⟩
              obtain ⟨t2, ht2⟩ : ∃ t, holdsB g' m' n' g' j f = t := ⟨_, rfl⟩
              rw [ht1] at kH1
              rw [ht2] at kH2
              have HT : Hid (holdsB false m n g' j f = t1 ∧ holdsB g' m' n' g' j f = t2) := ⟨ht1, ht2⟩
              clear ht1 ht2
              have tt := tn_one wr bO 1 (.int .i64 j)
              have X1 := X.tn tt (by simp; omega)
              have A1 := A.tn tt (by simp; omega)
              have R1 := R.tn tt (by simp; omega)
              have O1 := O.set1 (.int .i64 j)
              have B1 := B.setCell (p := ⟨bO, 1, none⟩) (by show w.heap.size ≤ bO; omega) (.int .i64 j)
              have o1 := O.c1
              have o2 := O.c2
              have o0 := O.c0
              have of1 := O.f1
              have x0 := X1.c0
              have x1 := X1.c1
              have x2 := X1.c2
              have z0 := O1.c0
              have z1 := O1.c1
              have z2 := O1.c2
              have n3 : ¬ bO = w.heap.size := by omega
              have n4 : ¬ w.heap.size = bO := by omega
              go_wp2_with fail
              clear d0 d1 d2 p0 p1 p2 r0 r1 r2 rf0 rf1 rf2
              clear o0 o1 o2 of1 x0 x1 x2 z0 z1 z2 X A R O B tt
              generalize wr.setCell ⟨bO, 1, none⟩ (.int .i64 j) = w5 at *
              refine (kH1 _).mono ?_
              rintro e w6 ⟨rfl, c6⟩
              have X := X1.below c6 (Nat.le_refl _)
              have A := A1.below c6 (Nat.le_refl _)
              have R := R1.below c6 (Nat.le_refl _)
              have O := O1.below c6 (Nat.le_refl _)
              have B := B1.trans (c6.mono B1.size)
              clear X1 A1 R1 O1 B1 c6
              cases t1
              · go_wp2
                go_roundw
                case rel => exact ⟨j + 1, j, by omega, by omega, by go_num, O, X, A, R, B, fun v h1 h2 => by
                  by_cases hv : v = j
                  · subst hv; intro hh; rw [HT.out.1] at hh; cases hh.1
                  · exact HL.out v h1 (by omega)⟩
                case measure => simp [intOf]; omega
              · skip
                have d0 := X.c0
                have d1 := X.c1
                have d2 := X.c2
                have p0 := A.c0
                have p1 := A.c1
                have p2 := A.c2
                have r0 := R.c0
                have r1 := R.c1
                have r2 := R.c2
                have rf0 := R.f0
                have rf1 := R.f1
                have rf2 := R.f2
                have o0 := O.c0
                have o1 := O.c1
                have o2 := O.c2
                have of0 := O.f0
                have of1 := O.f1
                have of2 := O.f2
                go_wp2_with fail
                clear d0 d1 d2 p0 p1 p2 r0 r1 r2 rf0 rf1 rf2
                clear o0 o1 o2 of0 of1 of2
                refine (kH2 _).mono ?_
                rintro e w7 ⟨rfl, c7⟩
                replace X := X.below c7 (Nat.le_refl _)
                replace A := A.below c7 (Nat.le_refl _)
                replace R := R.below c7 (Nat.le_refl _)
                replace O := O.below c7 (Nat.le_refl _)
                replace B := B.trans (c7.mono B.size)
                clear c7
                cases t2
                · go_wp2
                  go_roundw
                  case rel => exact ⟨j + 1, j, by omega, by omega, by go_num, O, X, A, R, B, fun v h1 h2 => by
                    by_cases hv : v = j
                    · subst hv; intro hh; rw [HT.out.2] at hh; cases hh.2
                    · exact HL.out v h1 (by omega)⟩
                  case measure => simp [intOf]; omega
                · have HR : Hid (rr = ((g', j, f), true)) := by
                    show _ = _
                    rw [← HC.out]
                    have hh := common_yes (g := false) (g' := g') (m := m) (n := n) (m' := m') (n' := n') (j := j) hb1 hb2 ⟨hj2, hj⟩; rw [HCM.out] at hh; simp only [Bool.false_or] at hh
                    exact hh HT.out.1 HT.out.2 HL.out
                  have d0 := X.c0
                  have d1 := X.c1
                  have d2 := X.c2
                  have p0 := A.c0
                  have p1 := A.c1
                  have p2 := A.c2
                  have r0 := R.c0
                  have r1 := R.c1
                  have r2 := R.c2
                  have rf0 := R.f0
                  have rf1 := R.f1
                  have rf2 := R.f2
                  have o0 := O.c0
                  have o1 := O.c1
                  have o2 := O.c2
                  have of0 := O.f0
                  have of1 := O.f1
                  have of2 := O.f2
                  have n1 : ¬ bO = w.heap.size + 1 + 1 := by omega
                  have n2 : ¬ w.heap.size + 1 + 1 = bO := by omega
                  have HB : Hid (Below w.heap.size w _) := ((B.setCell (p := ⟨w.heap.size + 1 + 1, 0, none⟩) (by show w.heap.size ≤ w.heap.size + 1 + 1; omega) (.bool g')).setCell (p := ⟨w.heap.size + 1 + 1, 1, none⟩) (by show w.heap.size ≤ w.heap.size + 1 + 1; omega) (.int .i64 (j))).setCell (p := ⟨w.heap.size + 1 + 1, 2, none⟩) (by show w.heap.size ≤ w.heap.size + 1 + 1; omega) (.int .i64 (f))
                  clear B
                  go_wp2
                  (try simp only [Exit.inBlock, Exit.then])
                  refine bodyPost_ret (v := .tuple #[vF g' (j) (f), .bool true]) ?_ rfl ⟨by rw [HR.out], HB.out⟩
                  rw [results_cell_tmp rfl]
                  go_simp
            · have HR : Hid (rr = ((false, 0, 0), false)) := by
                show _ = _
                rw [← HC.out]
                have hh := common_no (g := false) (g' := g') (m := m) (n := n) (m' := m') (n' := n') hb1 hb2; rw [HCM.out] at hh; simp only [Bool.false_or] at hh; exact hh (fun v h1 h2 => HL.out v h1 (by omega))
              have HB : Hid (Below w.heap.size w _) := ((B.setCell (p := ⟨w.heap.size + 1 + 1, 0, none⟩) (by show w.heap.size ≤ w.heap.size + 1 + 1; omega) (.bool false)).setCell (p := ⟨w.heap.size + 1 + 1, 1, none⟩) (by show w.heap.size ≤ w.heap.size + 1 + 1; omega) (.int .i64 (0))).setCell (p := ⟨w.heap.size + 1 + 1, 2, none⟩) (by show w.heap.size ≤ w.heap.size + 1 + 1; omega) (.int .i64 (0))
              clear B
              go_wp2
              (try simp only [Exit.inBlock, Exit.then])
              refine bodyPost_ret (v := .tuple #[vF false (0) (0), .bool false]) ?_ rfl ⟨by rw [HR.out], HB.out⟩
              rw [results_cell_tmp rfl]
              go_simp
      · obtain ⟨m2, m60, n0, nm⟩ := (fok_iff _ _).1 hb1
        obtain ⟨m2', m60', n0', nm'⟩ := (fok_iff _ _).1 hb2
        have kX : ∀ W, Calls Try.prog 9 #[.int .i64 n, .int .i64 n'] W fun e w' => e = .returned (.int .i64 f) ∧ w' = W := fun W => by
          obtain ⟨p, hp⟩ := Int.eq_ofNat_of_zero_le n0
          obtain ⟨q, hq⟩ := Int.eq_ofNat_of_zero_le n0'
          have := sMax p q W
          rw [hp, hq, show f = ((max p q : Nat) : Int) by omega]
          exact this
        have HCM : Hid (max n n' = f) := hf
        clear hf
        clear kF1 kF2 HN
        clear d0 d1 d2 p0 p1 p2 r0 r1 r2 rf0 rf1 rf2
        go_wp2_with fail
        have bd := (Below.refl w2.heap.size w2).drew
        replace X := X.below bd (Nat.le_refl _)
        replace A := A.below bd (Nat.le_refl _)
        replace R := R.below bd (Nat.le_refl _)
        replace B := B.trans (bd.mono B.size)
        refine wp_region_held_drew (S := fun W => W.cell? ⟨w.heap.size, 0, none⟩ = some (.bool true) ∧ W.cell? ⟨w.heap.size, 1, none⟩ = some (.int .i64 m) ∧ W.cell? ⟨w.heap.size, 2, none⟩ = some (.int .i64 n) ∧ W.cell? ⟨w.heap.size + 1, 0, none⟩ = some (.bool g') ∧ W.cell? ⟨w.heap.size + 1, 1, none⟩ = some (.int .i64 m') ∧ W.cell? ⟨w.heap.size + 1, 2, none⟩ = some (.int .i64 n')) (by kernel_rfl) ⟨X.c0, X.c1, X.c2, A.c0, A.c1, A.c2⟩ ?_
        intro hHeld
        have hb2' : w.heap.size + 1 + 1 < w2.drew.heap.size := R.hi
        generalize w2.drew = w4 at *
        clear bd
        refine takeH 0 (some 17) (.pointer (some ⟨w.heap.size, 0, none⟩)) rfl rfl (by kernel_rfl) (by kernel_rfl) (by kernel_rfl) (fun _ _ _ h => h) (Or.inl ⟨rfl, fun W hW => by obtain _ := hW; go_simp⟩) (by assumption) ?_
        simp only [Act.put, List.setIfInBounds_toArray, List.set_cons_zero, List.set_cons_succ]
        refine takeH 1 (some 18) (.bool true) rfl rfl (by kernel_rfl) (by kernel_rfl) (by kernel_rfl) (fun _ _ _ h => h) (Or.inl ⟨rfl, fun W hW => by obtain ⟨_a, _b, _c, _, _, _⟩ := hW; go_simp⟩) (by assumption) ?_
        simp only [Act.put, List.setIfInBounds_toArray, List.set_cons_zero, List.set_cons_succ]
        refine takeH 2 (some 19) (.bool true) rfl rfl (by kernel_rfl) (by kernel_rfl) (by kernel_rfl) (fun _ _ _ h => h) (yg_move rfl (.tmp 18) rfl _ rfl) (by assumption) ?_
        simp only [Act.put, List.setIfInBounds_toArray, List.set_cons_zero, List.set_cons_succ]
        refine takeH 3 (some 20) (undef) rfl rfl (by kernel_rfl) (by kernel_rfl) (by kernel_rfl) (fun _ _ _ h => h) (yg_skip rfl) (by assumption) ?_
        simp only [Act.put, List.setIfInBounds_toArray, List.set_cons_zero, List.set_cons_succ]
        refine takeH 4 (some 21) (undef) rfl rfl (by kernel_rfl) (by kernel_rfl) (by kernel_rfl) (fun _ _ _ h => h) (yg_skip rfl) (by assumption) ?_
        simp only [Act.put, List.setIfInBounds_toArray, List.set_cons_zero, List.set_cons_succ]
        refine takeH 5 (some 22) (.bool true) rfl rfl (by kernel_rfl) (by kernel_rfl) (by kernel_rfl) (fun _ _ _ h => h) (yg_pick rfl (.tmp 19) (.const (.bool true)) (.tmp 21) rfl true rfl _ rfl) (by assumption) ?_
        simp only [Act.put, List.setIfInBounds_toArray, List.set_cons_zero, List.set_cons_succ]
        refine takeH 6 (some 23) (.pointer (some ⟨w.heap.size, 2, none⟩)) rfl rfl (by kernel_rfl) (by kernel_rfl) (by kernel_rfl) (fun _ _ _ h => h) (Or.inl ⟨rfl, fun W hW => by obtain _ := hW; go_simp⟩) (by assumption) ?_
        simp only [Act.put, List.setIfInBounds_toArray, List.set_cons_zero, List.set_cons_succ]
        refine takeH 7 (some 24) (.int .i64 n) rfl rfl (by kernel_rfl) (by kernel_rfl) (by kernel_rfl) (fun _ _ _ h => h) (Or.inl ⟨rfl, fun W hW => by obtain ⟨_a, _b, _c, _, _, _⟩ := hW; go_simp⟩) (by assumption) ?_
        simp only [Act.put, List.setIfInBounds_toArray, List.set_cons_zero, List.set_cons_succ]
        refine takeH 8 (some 25) (.pointer (some ⟨w.heap.size + 1, 2, none⟩)) rfl rfl (by kernel_rfl) (by kernel_rfl) (by kernel_rfl) (fun _ _ _ h => h) (Or.inl ⟨rfl, fun W hW => by obtain _ := hW; go_simp⟩) (by assumption) ?_
        simp only [Act.put, List.setIfInBounds_toArray, List.set_cons_zero, List.set_cons_succ]
        refine takeH 9 (some 26) (.int .i64 n') rfl rfl (by kernel_rfl) (by kernel_rfl) (by kernel_rfl) (fun _ _ _ h => h) (Or.inl ⟨rfl, fun W hW => by obtain ⟨_, _, _, _a, _b, _c⟩ := hW; go_simp⟩) (by assumption) ?_
        simp only [Act.put, List.setIfInBounds_toArray, List.set_cons_zero, List.set_cons_succ]
        have bb := below1 w4 (.cells #[.bool false, .int .i64 0, .int .i64 0] 24)
        have X1 := X.below bb (Nat.le_refl _)
        have A1 := A.below bb (Nat.le_refl _)
        have R1 := R.below bb (Nat.le_refl _)
        have B1 := B.trans (bb.mono B.size)
        have O1 := Box3.made w4 (.bool false) (.int .i64 0) (.int .i64 0) 24
        have bs := below1 w4 (.cells #[.bool true, .int .i64 0, .int .i64 f] 24)
        have X2 := X.below bs (Nat.le_refl _)
        have A2 := A.below bs (Nat.le_refl _)
        have R2 := R.below bs (Nat.le_refl _)
        have B2 := B.trans (bs.mono B.size)
        have O2 := Box3.made w4 (.bool true) (.int .i64 0) (.int .i64 f) 24
        refine twoH 10 12 rfl rfl (by kernel_rfl) (fun K' hK => ?_) (fun K' hK => ?_)
        · go_simp
          refine (kX _).mono ?_
          rintro e w4 ⟨rfl, rfl⟩
          refine hK _ _ ⟨X.c0, X.c1, X.c2, A.c0, A.c1, A.c2⟩ ?_
          clear hK
          refine takeH 11 (some 28) (.agg #[.bool true, .int .i64 0, .int .i64 f]) rfl rfl (by kernel_rfl) (by kernel_rfl) (by kernel_rfl) (fun _ _ _ h => h) (Or.inl ⟨rfl, fun W hW => by obtain _ := hW; go_simp⟩) (by assumption) ?_
          simp only [Act.put, List.setIfInBounds_toArray, List.set_cons_zero, List.set_cons_succ]
          refine oneH 12 rfl (by kernel_rfl) (fun K' hK => ?_)
          go_simp
          refine hK _ _ ⟨X1.c0, X1.c1, X1.c2, A1.c0, A1.c1, A1.c2⟩ ?_
          clear hK
          have u0 := O1.c0
          have u1 := O1.c1
          have u2 := O1.c2
          have u3 := O1.f0
          have u4 := O1.f1
          have u5 := O1.f2
          refine oneH 13 rfl (by kernel_rfl) (fun K' hK => ?_)
          go_simp
          refine hK _ _ ⟨X2.c0, X2.c1, X2.c2, A2.c0, A2.c1, A2.c2⟩ ?_
          clear hK hHeld u0 u1 u2 u3 u4 u5
          refine wpAnyH_done (by kernel_rfl) ?_ _
          clear X A R B X1 A1 R1 B1 O1 bb bs
          have X := X2
          have A := A2
          have R := R2
          have B := B2
          have O := O2
          have hb0 : w.heap.size + 1 + 1 < w4.heap.size := hb2'
          clear X2 A2 R2 B2 O2
          generalize w4.heap.size = bO at *
          generalize w4.alloc (.cells #[.bool true, .int .i64 0, .int .i64 f] 24) = wz at *
          go_wp2
          go_loopw [7] (fun i wr => ∃ (j : Int) (c : Int), 2 ≤ j ∧ j ≤ 61 ∧ i = .int .i64 j ∧ Box3 wr bO (.bool true) (.int .i64 c) (.int .i64 f) ∧ Box3 wr w.heap.size (.bool true) (.int .i64 m) (.int .i64 n) ∧ Box3 wr (w.heap.size + 1) (.bool g') (.int .i64 m') (.int .i64 n') ∧ Box3 wr (w.heap.size + 1 + 1) (.bool false) (.int .i64 0) (.int .i64 0) ∧ Below w.heap.size w wr ∧ Hid (∀ v, 2 ≤ v → v < j → ¬ (holdsB true m n true v f = true ∧ holdsB g' m' n' true v f = true))) (fun i _ => 61 - (intOf i).toNat)
          case atStart => exact ⟨2, 0, by omega, by omega, rfl, O, X, A, R, B, fun v h1 h2 => by omega⟩
          case round =>
            clear O X A R B
            obtain ⟨j, c, hj2, hj61, rfl, O, X, A, R, B, HL⟩ := hrel
            have d0 := X.c0
            have d1 := X.c1
            have d2 := X.c2
            have p0 := A.c0
            have p1 := A.c1
            have p2 := A.c2
            have r0 := R.c0
            have r1 := R.c1
            have r2 := R.c2
            have rf0 := R.f0
            have rf1 := R.f1
            have rf2 := R.f2
            by_cases hj : j ≤ 60
            · have kH1 := fun W => sHolds true m n true j f W
              have kH2 := fun W => sHolds g' m' n' true j f W
              obtain ⟨t1, ht1⟩ : ∃ t, holdsB true m n true j f = t := ⟨_, rfl⟩
              obtain ⟨t2, ht2⟩ : ∃ t, holdsB g' m' n' true j f = t := ⟨_, rfl⟩
              rw [ht1] at kH1
              rw [ht2] at kH2
              have HT : Hid (holdsB true m n true j f = t1 ∧ holdsB g' m' n' true j f = t2) := ⟨ht1, ht2⟩
              clear ht1 ht2
              have tt := tn_one wr bO 1 (.int .i64 j)
              have X1 := X.tn tt (by simp; omega)
              have A1 := A.tn tt (by simp; omega)
              have R1 := R.tn tt (by simp; omega)
              have O1 := O.set1 (.int .i64 j)
              have B1 := B.setCell (p := ⟨bO, 1, none⟩) (by show w.heap.size ≤ bO; omega) (.int .i64 j)
              have o1 := O.c1
              have o2 := O.c2
              have o0 := O.c0
              have of1 := O.f1
              have x0 := X1.c0
              have x1 := X1.c1
              have x2 := X1.c2
              have z0 := O1.c0
              have z1 := O1.c1
              have z2 := O1.c2
              have n3 : ¬ bO = w.heap.size := by omega
              have n4 : ¬ w.heap.size = bO := by omega
              go_wp2_with fail
              clear d0 d1 d2 p0 p1 p2 r0 r1 r2 rf0 rf1 rf2
              clear o0 o1 o2 of1 x0 x1 x2 z0 z1 z2 X A R O B tt
              generalize wr.setCell ⟨bO, 1, none⟩ (.int .i64 j) = w5 at *
              refine (kH1 _).mono ?_
              rintro e w6 ⟨rfl, c6⟩
              have X := X1.below c6 (Nat.le_refl _)
              have A := A1.below c6 (Nat.le_refl _)
              have R := R1.below c6 (Nat.le_refl _)
              have O := O1.below c6 (Nat.le_refl _)
              have B := B1.trans (c6.mono B1.size)
              clear X1 A1 R1 O1 B1 c6
              cases t1
              · go_wp2
                go_roundw
                case rel => exact ⟨j + 1, j, by omega, by omega, by go_num, O, X, A, R, B, fun v h1 h2 => by
                  by_cases hv : v = j
                  · subst hv; intro hh; rw [HT.out.1] at hh; cases hh.1
                  · exact HL.out v h1 (by omega)⟩
                case measure => simp [intOf]; omega
              · skip
                have d0 := X.c0
                have d1 := X.c1
                have d2 := X.c2
                have p0 := A.c0
                have p1 := A.c1
                have p2 := A.c2
                have r0 := R.c0
                have r1 := R.c1
                have r2 := R.c2
                have rf0 := R.f0
                have rf1 := R.f1
                have rf2 := R.f2
                have o0 := O.c0
                have o1 := O.c1
                have o2 := O.c2
                have of0 := O.f0
                have of1 := O.f1
                have of2 := O.f2
                go_wp2_with fail
                clear d0 d1 d2 p0 p1 p2 r0 r1 r2 rf0 rf1 rf2
                clear o0 o1 o2 of0 of1 of2
                refine (kH2 _).mono ?_
                rintro e w7 ⟨rfl, c7⟩
                replace X := X.below c7 (Nat.le_refl _)
                replace A := A.below c7 (Nat.le_refl _)
                replace R := R.below c7 (Nat.le_refl _)
                replace O := O.below c7 (Nat.le_refl _)
                replace B := B.trans (c7.mono B.size)
                clear c7
                cases t2
                · go_wp2
                  go_roundw
                  case rel => exact ⟨j + 1, j, by omega, by omega, by go_num, O, X, A, R, B, fun v h1 h2 => by
                    by_cases hv : v = j
                    · subst hv; intro hh; rw [HT.out.2] at hh; cases hh.2
                    · exact HL.out v h1 (by omega)⟩
                  case measure => simp [intOf]; omega
                · have HR : Hid (rr = ((true, j, f), true)) := by
                    show _ = _
                    rw [← HC.out]
                    have hh := common_yes (g := true) (g' := g') (m := m) (n := n) (m' := m') (n' := n') (j := j) hb1 hb2 ⟨hj2, hj⟩; rw [HCM.out] at hh; simp only [Bool.true_or] at hh
                    exact hh HT.out.1 HT.out.2 HL.out
                  have d0 := X.c0
                  have d1 := X.c1
                  have d2 := X.c2
                  have p0 := A.c0
                  have p1 := A.c1
                  have p2 := A.c2
                  have r0 := R.c0
                  have r1 := R.c1
                  have r2 := R.c2
                  have rf0 := R.f0
                  have rf1 := R.f1
                  have rf2 := R.f2
                  have o0 := O.c0
                  have o1 := O.c1
                  have o2 := O.c2
                  have of0 := O.f0
                  have of1 := O.f1
                  have of2 := O.f2
                  have n1 : ¬ bO = w.heap.size + 1 + 1 := by omega
                  have n2 : ¬ w.heap.size + 1 + 1 = bO := by omega
                  have HB : Hid (Below w.heap.size w _) := ((B.setCell (p := ⟨w.heap.size + 1 + 1, 0, none⟩) (by show w.heap.size ≤ w.heap.size + 1 + 1; omega) (.bool true)).setCell (p := ⟨w.heap.size + 1 + 1, 1, none⟩) (by show w.heap.size ≤ w.heap.size + 1 + 1; omega) (.int .i64 (j))).setCell (p := ⟨w.heap.size + 1 + 1, 2, none⟩) (by show w.heap.size ≤ w.heap.size + 1 + 1; omega) (.int .i64 (f))
                  clear B
                  go_wp2
                  (try simp only [Exit.inBlock, Exit.then])
                  refine bodyPost_ret (v := .tuple #[vF true (j) (f), .bool true]) ?_ rfl ⟨by rw [HR.out], HB.out⟩
                  rw [results_cell_tmp rfl]
                  go_simp
            · have HR : Hid (rr = ((false, 0, 0), false)) := by
                show _ = _
                rw [← HC.out]
                have hh := common_no (g := true) (g' := g') (m := m) (n := n) (m' := m') (n' := n') hb1 hb2; rw [HCM.out] at hh; simp only [Bool.true_or] at hh; exact hh (fun v h1 h2 => HL.out v h1 (by omega))
              have HB : Hid (Below w.heap.size w _) := ((B.setCell (p := ⟨w.heap.size + 1 + 1, 0, none⟩) (by show w.heap.size ≤ w.heap.size + 1 + 1; omega) (.bool false)).setCell (p := ⟨w.heap.size + 1 + 1, 1, none⟩) (by show w.heap.size ≤ w.heap.size + 1 + 1; omega) (.int .i64 (0))).setCell (p := ⟨w.heap.size + 1 + 1, 2, none⟩) (by show w.heap.size ≤ w.heap.size + 1 + 1; omega) (.int .i64 (0))
              clear B
              go_wp2
              (try simp only [Exit.inBlock, Exit.then])
              refine bodyPost_ret (v := .tuple #[vF false (0) (0), .bool false]) ?_ rfl ⟨by rw [HR.out], HB.out⟩
              rw [results_cell_tmp rfl]
              go_simp
        · go_simp
          refine hK _ _ ⟨X1.c0, X1.c1, X1.c2, A1.c0, A1.c1, A1.c2⟩ ?_
          clear hK
          refine oneH 10 rfl (by kernel_rfl) (fun K' hK => ?_)
          go_simp
          refine (kX _).mono ?_
          rintro e wy ⟨rfl, rfl⟩
          refine hK _ _ ⟨X1.c0, X1.c1, X1.c2, A1.c0, A1.c1, A1.c2⟩ ?_
          clear hK
          have hHeld := (⟨X1.c0, X1.c1, X1.c2, A1.c0, A1.c1, A1.c2⟩ : _ ∧ _ ∧ _ ∧ _ ∧ _ ∧ _)
          refine takeH 11 (some 28) (.agg #[.bool true, .int .i64 0, .int .i64 f]) rfl rfl (by kernel_rfl) (by kernel_rfl) (by kernel_rfl) (fun _ _ _ h => h) (Or.inl ⟨rfl, fun W hW => by obtain _ := hW; go_simp⟩) (by assumption) ?_
          simp only [Act.put, List.setIfInBounds_toArray, List.set_cons_zero, List.set_cons_succ]
          have u0 := O1.c0
          have u1 := O1.c1
          have u2 := O1.c2
          have u3 := O1.f0
          have u4 := O1.f1
          have u5 := O1.f2
          refine oneH 13 rfl (by kernel_rfl) (fun K' hK => ?_)
          go_simp
          refine hK _ _ ⟨X2.c0, X2.c1, X2.c2, A2.c0, A2.c1, A2.c2⟩ ?_
          clear hK hHeld u0 u1 u2 u3 u4 u5
          refine wpAnyH_done (by kernel_rfl) ?_ _
          clear X A R B X1 A1 R1 B1 O1 bb bs
          have X := X2
          have A := A2
          have R := R2
          have B := B2
          have O := O2
          have hb0 : w.heap.size + 1 + 1 < w4.heap.size := hb2'
          clear X2 A2 R2 B2 O2
          generalize w4.heap.size = bO at *
          generalize w4.alloc (.cells #[.bool true, .int .i64 0, .int .i64 f] 24) = wz at *
          go_wp2
          go_loopw [7] (fun i wr => ∃ (j : Int) (c : Int), 2 ≤ j ∧ j ≤ 61 ∧ i = .int .i64 j ∧ Box3 wr bO (.bool true) (.int .i64 c) (.int .i64 f) ∧ Box3 wr w.heap.size (.bool true) (.int .i64 m) (.int .i64 n) ∧ Box3 wr (w.heap.size + 1) (.bool g') (.int .i64 m') (.int .i64 n') ∧ Box3 wr (w.heap.size + 1 + 1) (.bool false) (.int .i64 0) (.int .i64 0) ∧ Below w.heap.size w wr ∧ Hid (∀ v, 2 ≤ v → v < j → ¬ (holdsB true m n true v f = true ∧ holdsB g' m' n' true v f = true))) (fun i _ => 61 - (intOf i).toNat)
          case atStart => exact ⟨2, 0, by omega, by omega, rfl, O, X, A, R, B, fun v h1 h2 => by omega⟩
          case round =>
            clear O X A R B
            obtain ⟨j, c, hj2, hj61, rfl, O, X, A, R, B, HL⟩ := hrel
            have d0 := X.c0
            have d1 := X.c1
            have d2 := X.c2
            have p0 := A.c0
            have p1 := A.c1
            have p2 := A.c2
            have r0 := R.c0
            have r1 := R.c1
            have r2 := R.c2
            have rf0 := R.f0
            have rf1 := R.f1
            have rf2 := R.f2
            by_cases hj : j ≤ 60
            · have kH1 := fun W => sHolds true m n true j f W
              have kH2 := fun W => sHolds g' m' n' true j f W
              obtain ⟨t1, ht1⟩ : ∃ t, holdsB true m n true j f = t := ⟨_, rfl⟩
              obtain ⟨t2, ht2⟩ : ∃ t, holdsB g' m' n' true j f = t := ⟨_, rfl⟩
              rw [ht1] at kH1
              rw [ht2] at kH2
              have HT : Hid (holdsB true m n true j f = t1 ∧ holdsB g' m' n' true j f = t2) := ⟨ht1, ht2⟩
              clear ht1 ht2
              have tt := tn_one wr bO 1 (.int .i64 j)
              have X1 := X.tn tt (by simp; omega)
              have A1 := A.tn tt (by simp; omega)
              have R1 := R.tn tt (by simp; omega)
              have O1 := O.set1 (.int .i64 j)
              have B1 := B.setCell (p := ⟨bO, 1, none⟩) (by show w.heap.size ≤ bO; omega) (.int .i64 j)
              have o1 := O.c1
              have o2 := O.c2
              have o0 := O.c0
              have of1 := O.f1
              have x0 := X1.c0
              have x1 := X1.c1
              have x2 := X1.c2
              have z0 := O1.c0
              have z1 := O1.c1
              have z2 := O1.c2
              have n3 : ¬ bO = w.heap.size := by omega
              have n4 : ¬ w.heap.size = bO := by omega
              go_wp2_with fail
              clear d0 d1 d2 p0 p1 p2 r0 r1 r2 rf0 rf1 rf2
              clear o0 o1 o2 of1 x0 x1 x2 z0 z1 z2 X A R O B tt
              generalize wr.setCell ⟨bO, 1, none⟩ (.int .i64 j) = w5 at *
              refine (kH1 _).mono ?_
              rintro e w6 ⟨rfl, c6⟩
              have X := X1.below c6 (Nat.le_refl _)
              have A := A1.below c6 (Nat.le_refl _)
              have R := R1.below c6 (Nat.le_refl _)
              have O := O1.below c6 (Nat.le_refl _)
              have B := B1.trans (c6.mono B1.size)
              clear X1 A1 R1 O1 B1 c6
              cases t1
              · go_wp2
                go_roundw
                case rel => exact ⟨j + 1, j, by omega, by omega, by go_num, O, X, A, R, B, fun v h1 h2 => by
                  by_cases hv : v = j
                  · subst hv; intro hh; rw [HT.out.1] at hh; cases hh.1
                  · exact HL.out v h1 (by omega)⟩
                case measure => simp [intOf]; omega
              · skip
                have d0 := X.c0
                have d1 := X.c1
                have d2 := X.c2
                have p0 := A.c0
                have p1 := A.c1
                have p2 := A.c2
                have r0 := R.c0
                have r1 := R.c1
                have r2 := R.c2
                have rf0 := R.f0
                have rf1 := R.f1
                have rf2 := R.f2
                have o0 := O.c0
                have o1 := O.c1
                have o2 := O.c2
                have of0 := O.f0
                have of1 := O.f1
                have of2 := O.f2
                go_wp2_with fail
                clear d0 d1 d2 p0 p1 p2 r0 r1 r2 rf0 rf1 rf2
                clear o0 o1 o2 of0 of1 of2
                refine (kH2 _).mono ?_
                rintro e w7 ⟨rfl, c7⟩
                replace X := X.below c7 (Nat.le_refl _)
                replace A := A.below c7 (Nat.le_refl _)
                replace R := R.below c7 (Nat.le_refl _)
                replace O := O.below c7 (Nat.le_refl _)
                replace B := B.trans (c7.mono B.size)
                clear c7
                cases t2
                · go_wp2
                  go_roundw
                  case rel => exact ⟨j + 1, j, by omega, by omega, by go_num, O, X, A, R, B, fun v h1 h2 => by
                    by_cases hv : v = j
                    · subst hv; intro hh; rw [HT.out.2] at hh; cases hh.2
                    · exact HL.out v h1 (by omega)⟩
                  case measure => simp [intOf]; omega
                · have HR : Hid (rr = ((true, j, f), true)) := by
                    show _ = _
                    rw [← HC.out]
                    have hh := common_yes (g := true) (g' := g') (m := m) (n := n) (m' := m') (n' := n') (j := j) hb1 hb2 ⟨hj2, hj⟩; rw [HCM.out] at hh; simp only [Bool.true_or] at hh
                    exact hh HT.out.1 HT.out.2 HL.out
                  have d0 := X.c0
                  have d1 := X.c1
                  have d2 := X.c2
                  have p0 := A.c0
                  have p1 := A.c1
                  have p2 := A.c2
                  have r0 := R.c0
                  have r1 := R.c1
                  have r2 := R.c2
                  have rf0 := R.f0
                  have rf1 := R.f1
                  have rf2 := R.f2
                  have o0 := O.c0
                  have o1 := O.c1
                  have o2 := O.c2
                  have of0 := O.f0
                  have of1 := O.f1
                  have of2 := O.f2
                  have n1 : ¬ bO = w.heap.size + 1 + 1 := by omega
                  have n2 : ¬ w.heap.size + 1 + 1 = bO := by omega
                  have HB : Hid (Below w.heap.size w _) := ((B.setCell (p := ⟨w.heap.size + 1 + 1, 0, none⟩) (by show w.heap.size ≤ w.heap.size + 1 + 1; omega) (.bool true)).setCell (p := ⟨w.heap.size + 1 + 1, 1, none⟩) (by show w.heap.size ≤ w.heap.size + 1 + 1; omega) (.int .i64 (j))).setCell (p := ⟨w.heap.size + 1 + 1, 2, none⟩) (by show w.heap.size ≤ w.heap.size + 1 + 1; omega) (.int .i64 (f))
                  clear B
                  go_wp2
                  (try simp only [Exit.inBlock, Exit.then])
                  refine bodyPost_ret (v := .tuple #[vF true (j) (f), .bool true]) ?_ rfl ⟨by rw [HR.out], HB.out⟩
                  rw [results_cell_tmp rfl]
                  go_simp
            · have HR : Hid (rr = ((false, 0, 0), false)) := by
                show _ = _
                rw [← HC.out]
                have hh := common_no (g := true) (g' := g') (m := m) (n := n) (m' := m') (n' := n') hb1 hb2; rw [HCM.out] at hh; simp only [Bool.true_or] at hh; exact hh (fun v h1 h2 => HL.out v h1 (by omega))
              have HB : Hid (Below w.heap.size w _) := ((B.setCell (p := ⟨w.heap.size + 1 + 1, 0, none⟩) (by show w.heap.size ≤ w.heap.size + 1 + 1; omega) (.bool false)).setCell (p := ⟨w.heap.size + 1 + 1, 1, none⟩) (by show w.heap.size ≤ w.heap.size + 1 + 1; omega) (.int .i64 (0))).setCell (p := ⟨w.heap.size + 1 + 1, 2, none⟩) (by show w.heap.size ≤ w.heap.size + 1 + 1; omega) (.int .i64 (0))
              clear B
              go_wp2
              (try simp only [Exit.inBlock, Exit.then])
              refine bodyPost_ret (v := .tuple #[vF false (0) (0), .bool false]) ?_ rfl ⟨by rw [HR.out], HB.out⟩
              rw [results_cell_tmp rfl]
              go_simp

end Go.Proofs.Ytnbkhocbncniiaa
