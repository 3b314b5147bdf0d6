/- l8In and Holds of the specification, each by its contract. -/
import Derived.Test.YtmafljcolniddaaHoldM
import Derived.Test.YtmafljcolniddaaSWUp
import Derived.Test.YtmafljcolniddaaSWCmp
import Derived.Test.YtmafljcolniddaaSWholeOf
import Derived.Test.YtmafljcolniddaaGB
namespace Go.Proofs.Ytmafljcolniddaa
open Go.RowKit
set_option linter.unusedSimpArgs false

/-- The box of a variable of three cells. -/
structure Box3 (w : World) (b : Nat) (x y z : Value) : Prop where
  hi : b < w.heap.size
  c0 : w.cell? ⟨b, 0, none⟩ = some x
  c1 : w.cell? ⟨b, 1, none⟩ = some y
  c2 : w.cell? ⟨b, 2, none⟩ = some z
  f0 : w.frozen? ⟨b, 0, none⟩ = false
  f1 : w.frozen? ⟨b, 1, none⟩ = false
  f2 : w.frozen? ⟨b, 2, none⟩ = false
theorem Box3.made (w : World) (x y z : Value) (t : TypeId) : Box3 (w.alloc (.cells #[x, y, z] t)) w.heap.size x y z := ⟨by simp, by simp, by simp, by simp, by simp, by simp, by simp⟩
theorem Box3.below {w w' : World} {b B : Nat} {x y z : Value} (h : Box3 w b x y z) (hb : Below B w w') (hB : w.heap.size ≤ B) : Box3 w' b x y z :=
  have hlt : b < B := Nat.lt_of_lt_of_le h.hi hB
  ⟨Nat.lt_of_lt_of_le h.hi hb.size, (hb.cell (p := ⟨b, 0, none⟩) hlt).trans h.c0, (hb.cell (p := ⟨b, 1, none⟩) hlt).trans h.c1, (hb.cell (p := ⟨b, 2, none⟩) hlt).trans h.c2, (hb.frozen (p := ⟨b, 0, none⟩) hlt).trans h.f0, (hb.frozen (p := ⟨b, 1, none⟩) hlt).trans h.f1, (hb.frozen (p := ⟨b, 2, none⟩) hlt).trans h.f2⟩
theorem raw_bd (g : Bool) (m n : Int) : -1152921504606846976 ≤ leastR g m n ∧ leastR g m n ≤ 0 ∧ 0 ≤ mostR g m n ∧ mostR g m n ≤ 1152921504606846976 := by
  have hp : ∀ k : Nat, k ≤ 60 → (2 : Int) ^ k ≤ 1152921504606846976 := fun k hk => by
    have h1 := Nat.pow_le_pow_right (show 0 < 2 by omega) hk
    have e : ((2 ^ k : Nat) : Int) = (2 : Int) ^ k := by simp
    omega
  have hq : ∀ k : Nat, (1 : Int) ≤ (2 : Int) ^ k := fun k => by
    have h1 := Nat.two_pow_pos k
    have e : ((2 ^ k : Nat) : Int) = (2 : Int) ^ k := by simp
    omega
  unfold leastR mostR
  by_cases hf : fok m n = true
  · obtain ⟨h1, h2, h3, h4⟩ := (fok_iff m n).1 hf
    have a1 := hp (m - 1).toNat (by omega)
    have a2 := hp m.toNat (by omega)
    have b1 := hq (m - 1).toNat
    have b2 := hq m.toNat
    rw [if_pos hf]
    cases g
    · simp only [Bool.false_eq_true, and_false, if_false]
      omega
    · simp only [hf, and_self, if_true]
      omega
  · rw [if_neg hf, if_neg (fun h => hf h.1)]
    omega
theorem cmp_ge (z y : Int) : decide (0 ≤ cmpZ z y) = decide (y ≤ z) := by
  unfold cmpZ
  by_cases h : z < y
  · rw [if_pos h]; simp; omega
  · rw [if_neg h]
    split <;> simp <;> omega
theorem cmp_le (z y : Int) : decide (cmpZ z y ≤ 0) = decide (z ≤ y) := by
  unfold cmpZ
  by_cases h : z < y
  · rw [if_pos h]; simp; omega
  · rw [if_neg h]
    split <;> simp <;> omega
theorem limbs60 {z : Int} (h0 : -1152921504606846976 ≤ z) (h1 : z ≤ 1152921504606846976) : (limbs z.natAbs).length ≤ 3 := limbs_len_le _ 3 (by omega)

set_option maxRecDepth 20000 in
set_option maxHeartbeats 6400000 in
theorem sIn8 (g : Bool) (m n : Int) (va : Value) (z : Int) (w : World) (ha : rowW w va (mkW z)) (hl : (limbs z.natAbs).length ≤ 10000) :
    Calls Try.prog 12 #[vF g m n, va] w fun e w' => e = .returned (.bool (inF g m n z)) ∧ Below w.heap.size w w' := by
  obtain ⟨l0, l1, h0, h1⟩ := raw_bd g m n
  have kL := fun W => sLeast g m n W
  have kM := fun W => sMost g m n W
  have HR : Hid (inF g m n z = (decide (leastR g m n ≤ z) && decide (z ≤ mostR g m n))) := rfl
  generalize leastR g m n = lo at *
  generalize mostR g m n = hi at *
  have kC1 : ∀ W v u, rowW W v (mkW z) → rowW W u (wofR lo) → Calls Try.prog 26 #[v, u] W fun e w' => e = .returned (.int .i64 (cmpZ z lo)) ∧ Below W.heap.size W w' := fun W v u h1 h2 => sWCmp v u z lo W h1 h2 (by omega) (by have := limbs60 (z := lo) (by omega) (by omega); omega)
  have kC2 : ∀ W v u, rowW W v (mkW z) → rowW W u (wofR hi) → Calls Try.prog 26 #[v, u] W fun e w' => e = .returned (.int .i64 (cmpZ z hi)) ∧ Below W.heap.size W w' := fun W v u h1 h2 => sWCmp v u z hi W h1 h2 (by omega) (by have := limbs60 (z := hi) (by omega) (by omega); omega)
  have kO1 := fun W => sWholeOf lo W (by omega) (by omega)
  have kO2 := fun W => sWholeOf hi W (by omega) (by omega)
  have e1 := cmp_ge z lo
  have e2 := cmp_le z hi
  rw [← e1, ← e2] at HR
  obtain ⟨t1, ht1⟩ : ∃ t, decide (0 ≤ cmpZ z lo) = t := ⟨_, rfl⟩
  obtain ⟨t2, ht2⟩ : ∃ t, decide (cmpZ z hi ≤ 0) = t := ⟨_, rfl⟩
  rw [ht1, ht2] at HR
  generalize cmpZ z lo = q1 at *
  generalize cmpZ z hi = q2 at *
  generalize wofR lo = ro at *
  generalize wofR hi = rh at *
  generalize mkW z = rz at *
  clear e1 e2 hl
  obtain ⟨ga, xs⟩ := rz
  obtain ⟨s, rfl, hs⟩ := ha
  obtain ⟨ad, cp, rfl, -⟩ := id hs
  have R : rowW w (.agg #[.bool ga, .slice ad xs.length cp]) (ga, xs) := ⟨_, rfl, hs⟩
  clear hs
  generalize xs.length = ln at *
  have s1 : (w.alloc (.cells #[.bool g, .int .i64 m, .int .i64 n] 25)).heap.size = w.heap.size + 1 := by simp
  have X := (Box3.made w (.bool g) (.int .i64 m) (.int .i64 n) 25).below (below1 _ (.cells #[.bool ga, .slice ad ln cp] 34)) (Nat.le_refl _)
  have A := BoxW.made (w.alloc (.cells #[.bool g, .int .i64 m, .int .i64 n] 25)) (.bool ga) (.slice ad ln cp) 34
  rw [s1] at A
  have B := below2 w (.cells #[.bool g, .int .i64 m, .int .i64 n] 25) (.cells #[.bool ga, .slice ad ln cp] 34)
  clear s1
  go_enter Try.func12, Try.ntmps12
  go_wp2_with fail
  generalize (w.alloc (.cells #[.bool g, .int .i64 m, .int .i64 n] 25)).alloc (.cells #[.bool ga, .slice ad ln cp] 34) = w0 at *
  have bd := (Below.refl w0.heap.size w0).drew
  replace X := X.below bd (Nat.le_refl _)
  replace A := A.below bd (Nat.le_refl _)
  replace B := B.trans (bd.mono B.size)
  refine wp_region_held_drew (S := fun W => W.cell? ⟨w.heap.size, 0, none⟩ = some (.bool g) ∧ W.cell? ⟨w.heap.size, 1, none⟩ = some (.int .i64 m) ∧ W.cell? ⟨w.heap.size, 2, none⟩ = some (.int .i64 n) ∧ W.cell? ⟨w.heap.size + 1, 0, none⟩ = some (.bool ga) ∧ W.cell? ⟨w.heap.size + 1, 1, none⟩ = some (.slice ad ln cp)) (by kernel_rfl) ⟨X.c0, X.c1, X.c2, A.c0, A.c1⟩ ?_
  intro hHeld
  generalize w0.drew = w1 at *
  clear bd
  refine takeH 0 (some 5) (.agg #[.bool ga, .slice ad ln cp]) rfl rfl (by kernel_rfl) (by kernel_rfl) (by kernel_rfl) (fun _ _ _ h => h) (Or.inl ⟨rfl, fun W hW => by obtain ⟨_, _, _, _a, _b⟩ := hW; go_simp⟩) (by assumption) ?_
  simp only [Act.put, List.setIfInBounds_toArray, List.set_cons_zero, List.set_cons_succ]
  refine takeH 1 (some 6) (.agg #[.bool g, .int .i64 m, .int .i64 n]) rfl rfl (by kernel_rfl) (by kernel_rfl) (by kernel_rfl) (fun _ _ _ h => h) (Or.inl ⟨rfl, fun W hW => by obtain ⟨_a, _b, _c, _, _⟩ := hW; go_simp⟩) (by assumption) ?_
  simp only [Act.put, List.setIfInBounds_toArray, List.set_cons_zero, List.set_cons_succ]
  refine oneH 2 rfl (by kernel_rfl) (fun K' hK => ?_)
  go_simp
  refine (kL _).mono ?_
  rintro e w2 ⟨rfl, b2⟩
  replace X := X.below b2 (Nat.le_refl _)
  replace A := A.below b2 (Nat.le_refl _)
  replace B := B.trans (b2.mono B.size)
  refine hK _ _ ⟨X.c0, X.c1, X.c2, A.c0, A.c1⟩ ?_
  clear hK hHeld b2
  refine oneH 3 rfl (by kernel_rfl) (fun K' hK => ?_)
  go_simp
  refine (kO1 _).mono ?_
  rintro e w3 ⟨v3, rfl, o3, b3⟩
  replace X := X.below b3 (Nat.le_refl _)
  replace A := A.below b3 (Nat.le_refl _)
  replace B := B.trans (b3.mono B.size)
  refine hK _ _ ⟨X.c0, X.c1, X.c2, A.c0, A.c1⟩ ?_
  clear hK b3
  refine oneH 4 rfl (by kernel_rfl) (fun K' hK => ?_)
  go_simp
  refine (kC1 _ _ _ (R.below B (Nat.le_refl _)) o3.row).mono ?_
  rintro e w4 ⟨rfl, b4⟩
  replace X := X.below b4 (Nat.le_refl _)
  replace A := A.below b4 (Nat.le_refl _)
  replace B := B.trans (b4.mono B.size)
  refine hK _ _ ⟨X.c0, X.c1, X.c2, A.c0, A.c1⟩ ?_
  clear hK b4 o3
  have hHeld := (⟨X.c0, X.c1, X.c2, A.c0, A.c1⟩ : _ ∧ _ ∧ _ ∧ _ ∧ _)
  refine takeH 5 (some 10) (.bool t1) rfl rfl (by kernel_rfl) (by kernel_rfl) (by kernel_rfl) (fun _ _ _ h => h) (Or.inl ⟨rfl, fun W hW => by obtain _ := hW; go_simp⟩) (by assumption) ?_
  simp only [Act.put, List.setIfInBounds_toArray, List.set_cons_zero, List.set_cons_succ]
  refine takeH 6 (some 11) (.bool t1) rfl rfl (by kernel_rfl) (by kernel_rfl) (by kernel_rfl) (fun _ _ _ h => h) (yg_move rfl (.tmp 10) rfl _ rfl) (by assumption) ?_
  simp only [Act.put, List.setIfInBounds_toArray, List.set_cons_zero, List.set_cons_succ]
  cases t1
  · skip
    refine takeH 7 (some 12) (undef) rfl rfl (by kernel_rfl) (by kernel_rfl) (by kernel_rfl) (fun _ _ _ h => h) (yg_skip rfl) (by assumption) ?_
    simp only [Act.put, List.setIfInBounds_toArray, List.set_cons_zero, List.set_cons_succ]
    refine takeH 8 (some 13) (undef) rfl rfl (by kernel_rfl) (by kernel_rfl) (by kernel_rfl) (fun _ _ _ h => h) (yg_skip rfl) (by assumption) ?_
    simp only [Act.put, List.setIfInBounds_toArray, List.set_cons_zero, List.set_cons_succ]
    refine takeH 9 (some 14) (undef) rfl rfl (by kernel_rfl) (by kernel_rfl) (by kernel_rfl) (fun _ _ _ h => h) (yg_skip rfl) (by assumption) ?_
    simp only [Act.put, List.setIfInBounds_toArray, List.set_cons_zero, List.set_cons_succ]
    refine takeH 10 (some 15) (undef) rfl rfl (by kernel_rfl) (by kernel_rfl) (by kernel_rfl) (fun _ _ _ h => h) (yg_skip rfl) (by assumption) ?_
    simp only [Act.put, List.setIfInBounds_toArray, List.set_cons_zero, List.set_cons_succ]
    refine takeH 11 (some 16) (undef) rfl rfl (by kernel_rfl) (by kernel_rfl) (by kernel_rfl) (fun _ _ _ h => h) (yg_skip rfl) (by assumption) ?_
    simp only [Act.put, List.setIfInBounds_toArray, List.set_cons_zero, List.set_cons_succ]
    refine takeH 12 (some 17) (undef) rfl rfl (by kernel_rfl) (by kernel_rfl) (by kernel_rfl) (fun _ _ _ h => h) (yg_skip rfl) (by assumption) ?_
    simp only [Act.put, List.setIfInBounds_toArray, List.set_cons_zero, List.set_cons_succ]
    refine takeH 13 (some 18) (.bool false) rfl rfl (by kernel_rfl) (by kernel_rfl) (by kernel_rfl) (fun _ _ _ h => h) (yg_pick rfl (.tmp 11) (.tmp 17) (.const (.bool false)) rfl false rfl _ rfl) (by assumption) ?_
    simp only [Act.put, List.setIfInBounds_toArray, List.set_cons_zero, List.set_cons_succ]
    refine takeH 14 (some 4) (.bool false) rfl rfl (by kernel_rfl) (by kernel_rfl) (by kernel_rfl) (fun _ _ _ h => h) (yg_assign rfl (.tmp 18) rfl _ rfl) (by assumption) ?_
    simp only [Act.put, List.setIfInBounds_toArray, List.set_cons_zero, List.set_cons_succ]
    refine wpAnyH_done (by kernel_rfl) ?_ _
    go_wp2
    go_ret
    exact ⟨by rw [HR.out]; rfl, B⟩
  · skip
    refine takeH 7 (some 12) (.agg #[.bool ga, .slice ad ln cp]) rfl rfl (by kernel_rfl) (by kernel_rfl) (by kernel_rfl) (fun _ _ _ h => h) (Or.inl ⟨rfl, fun W hW => by obtain ⟨_, _, _, _a, _b⟩ := hW; go_simp⟩) (by assumption) ?_
    simp only [Act.put, List.setIfInBounds_toArray, List.set_cons_zero, List.set_cons_succ]
    refine takeH 8 (some 13) (.agg #[.bool g, .int .i64 m, .int .i64 n]) rfl rfl (by kernel_rfl) (by kernel_rfl) (by kernel_rfl) (fun _ _ _ h => h) (Or.inl ⟨rfl, fun W hW => by obtain ⟨_a, _b, _c, _, _⟩ := hW; go_simp⟩) (by assumption) ?_
    simp only [Act.put, List.setIfInBounds_toArray, List.set_cons_zero, List.set_cons_succ]
    refine oneH 9 rfl (by kernel_rfl) (fun K' hK => ?_)
    go_simp
    refine (kM _).mono ?_
    rintro e w5 ⟨rfl, b5⟩
    replace X := X.below b5 (Nat.le_refl _)
    replace A := A.below b5 (Nat.le_refl _)
    replace B := B.trans (b5.mono B.size)
    refine hK _ _ ⟨X.c0, X.c1, X.c2, A.c0, A.c1⟩ ?_
    clear hK hHeld b5
    refine oneH 10 rfl (by kernel_rfl) (fun K' hK => ?_)
    go_simp
    refine (kO2 _).mono ?_
    rintro e w6 ⟨v6, rfl, o6, b6⟩
    replace X := X.below b6 (Nat.le_refl _)
    replace A := A.below b6 (Nat.le_refl _)
    replace B := B.trans (b6.mono B.size)
    refine hK _ _ ⟨X.c0, X.c1, X.c2, A.c0, A.c1⟩ ?_
    clear hK b6
    refine oneH 11 rfl (by kernel_rfl) (fun K' hK => ?_)
    go_simp
    refine (kC2 _ _ _ (R.below B (Nat.le_refl _)) o6.row).mono ?_
    rintro e w7 ⟨rfl, b7⟩
    replace X := X.below b7 (Nat.le_refl _)
    replace A := A.below b7 (Nat.le_refl _)
    replace B := B.trans (b7.mono B.size)
    refine hK _ _ ⟨X.c0, X.c1, X.c2, A.c0, A.c1⟩ ?_
    clear hK b7 o6
    have hHeld := (⟨X.c0, X.c1, X.c2, A.c0, A.c1⟩ : _ ∧ _ ∧ _ ∧ _ ∧ _)
    refine takeH 12 (some 17) (.bool t2) rfl rfl (by kernel_rfl) (by kernel_rfl) (by kernel_rfl) (fun _ _ _ h => h) (Or.inl ⟨rfl, fun W hW => by obtain _ := hW; go_simp⟩) (by assumption) ?_
    simp only [Act.put, List.setIfInBounds_toArray, List.set_cons_zero, List.set_cons_succ]
    refine takeH 13 (some 18) (.bool t2) rfl rfl (by kernel_rfl) (by kernel_rfl) (by kernel_rfl) (fun _ _ _ h => h) (yg_pick rfl (.tmp 11) (.tmp 17) (.const (.bool false)) rfl true rfl _ rfl) (by assumption) ?_
    simp only [Act.put, List.setIfInBounds_toArray, List.set_cons_zero, List.set_cons_succ]
    refine takeH 14 (some 4) (.bool t2) rfl rfl (by kernel_rfl) (by kernel_rfl) (by kernel_rfl) (fun _ _ _ h => h) (yg_assign rfl (.tmp 18) rfl _ rfl) (by assumption) ?_
    simp only [Act.put, List.setIfInBounds_toArray, List.set_cons_zero, List.set_cons_succ]
    refine wpAnyH_done (by kernel_rfl) ?_ _
    go_wp2
    go_ret
    exact ⟨by rw [HR.out]; rfl, B⟩

set_option maxRecDepth 20000 in
set_option maxHeartbeats 12800000 in
theorem sHolds (g : Bool) (m n : Int) (g' : Bool) (m' n' : Int) (w : World) :
    Calls Try.prog 5 #[vF g m n, vF g' m' n'] w fun e w' => e = .returned (.bool (holdsB g m n g' m' n')) ∧ Below w.heap.size w w' := by
  have kF1 := fun W => sFmtOk g m n W
  have kF2 := fun W => sFmtOk g' m' n' W
  have HR : Hid (holdsB g m n g' m' n' = (fok m n && fok m' n' && decide (n ≤ n') && inF g' m' n' (leastR g m n * 2 ^ (n' - n).toNat) && inF g' m' n' (mostR g m n * 2 ^ (n' - n).toNat))) := rfl
  obtain ⟨b1, hb1⟩ : ∃ b, fok m n = b := ⟨_, rfl⟩
  obtain ⟨b2, hb2⟩ : ∃ b, fok m' n' = b := ⟨_, rfl⟩
  rw [hb1] at kF1
  rw [hb2] at kF2
  rw [hb1, hb2] at HR
  obtain ⟨rr, hrr⟩ : ∃ r, holdsB g m n g' m' n' = r := ⟨_, rfl⟩
  rw [hrr] at HR
  rw [hrr]
  clear hrr
  have s1 : (w.alloc (.cells #[.bool g, .int .i64 m, .int .i64 n] 25)).heap.size = w.heap.size + 1 := by simp
  have X := (Box3.made w (.bool g) (.int .i64 m) (.int .i64 n) 25).below (below1 _ (.cells #[.bool g', .int .i64 m', .int .i64 n'] 25)) (Nat.le_refl _)
  have A := Box3.made (w.alloc (.cells #[.bool g, .int .i64 m, .int .i64 n] 25)) (.bool g') (.int .i64 m') (.int .i64 n') 25
  rw [s1] at A
  have B := below2 w (.cells #[.bool g, .int .i64 m, .int .i64 n] 25) (.cells #[.bool g', .int .i64 m', .int .i64 n'] 25)
  clear s1
  go_enter Try.func5, Try.ntmps5
  go_wp2_with fail
  generalize (w.alloc (.cells #[.bool g, .int .i64 m, .int .i64 n] 25)).alloc (.cells #[.bool g', .int .i64 m', .int .i64 n'] 25) = w0 at *
  refine (kF1 _).mono ?_
  rintro e w1 ⟨rfl, c1⟩
  replace X := X.below c1 (Nat.le_refl _)
  replace A := A.below c1 (Nat.le_refl _)
  replace B := B.trans (c1.mono B.size)
  have d0 := X.c0
  have d1 := X.c1
  have d2 := X.c2
  have p0 := A.c0
  have p1 := A.c1
  have p2 := A.c2
  cases b1
  · go_wp2
    go_ret
    exact ⟨by rw [HR.out]; rfl, B⟩
  · go_wp2_with fail
    clear d0 d1 d2 p0 p1 p2
    refine (kF2 _).mono ?_
    rintro e w2 ⟨rfl, c2⟩
    replace X := X.below c2 (Nat.le_refl _)
    replace A := A.below c2 (Nat.le_refl _)
    replace B := B.trans (c2.mono B.size)
    have d0 := X.c0
    have d1 := X.c1
    have d2 := X.c2
    have p0 := A.c0
    have p1 := A.c1
    have p2 := A.c2
    cases b2
    · go_wp2
      go_ret
      exact ⟨by rw [HR.out]; rfl, B⟩
    · by_cases hlt : n' < n
      · have hd : decide (n ≤ n') = false := decide_eq_false (by omega)
        rw [hd] at HR
        go_wp2
        go_ret
        exact ⟨by rw [HR.out]; rfl, B⟩
      · obtain ⟨m2, m60, n0, nm⟩ := (fok_iff _ _).1 hb1
        obtain ⟨m2', m60', n0', nm'⟩ := (fok_iff _ _).1 hb2
        have hd : decide (n ≤ n') = true := decide_eq_true (by omega)
        rw [hd] at HR
        obtain ⟨k, hk⟩ : ∃ k : Nat, n' - n = k := ⟨(n' - n).toNat, by omega⟩
        rw [hk] at HR
        rw [show ((k : Nat) : Int).toNat = k from by omega] at HR
        have hk60 : k ≤ 60 := by omega
        obtain ⟨l0, l1, h0, h1⟩ := raw_bd g m n
        have kL := fun W => sLeast g m n W
        have kM := fun W => sMost g m n W
        generalize leastR g m n = lo at *
        generalize mostR g m n = hi at *
        have kO1 := fun W => sWholeOf lo W (by omega) (by omega)
        have kO2 := fun W => sWholeOf hi W (by omega) (by omega)
        have lz1 : (limbs (lo * 2 ^ k).natAbs).length ≤ 10 := by
          rw [Int.natAbs_mul]
          have e1 := mul_limbs lo.natAbs ((2 : Int) ^ k).natAbs
          have e2 := limbs60 (z := lo) (by omega) (by omega)
          have e3 := pow2_limbs k
          have e4 : ((2 : Int) ^ k).natAbs = 2 ^ k := by rw [Int.natAbs_pow]; rfl
          rw [e4] at e1 ⊢
          omega
        have lz2 : (limbs (hi * 2 ^ k).natAbs).length ≤ 10 := by
          rw [Int.natAbs_mul]
          have e1 := mul_limbs hi.natAbs ((2 : Int) ^ k).natAbs
          have e2 := limbs60 (z := hi) (by omega) (by omega)
          have e3 := pow2_limbs k
          have e4 : ((2 : Int) ^ k).natAbs = 2 ^ k := by rw [Int.natAbs_pow]; rfl
          rw [e4] at e1 ⊢
          omega
        have kU1 : ∀ v W, rowW W v (wofR lo) → Calls Try.prog 13 #[v, .int .i64 k] W fun e w' => ∃ v, e = .returned v ∧ ownsW w' W.heap.size v (mkW (lo * 2 ^ k)) ∧ Below W.heap.size W w' := fun v W h => sWUp v lo k W h (by have := limbs60 (z := lo) (by omega) (by omega); omega) (by omega)
        have kU2 : ∀ v W, rowW W v (wofR hi) → Calls Try.prog 13 #[v, .int .i64 k] W fun e w' => ∃ v, e = .returned v ∧ ownsW w' W.heap.size v (mkW (hi * 2 ^ k)) ∧ Below W.heap.size W w' := fun v W h => sWUp v hi k W h (by have := limbs60 (z := hi) (by omega) (by omega); omega) (by omega)
        have kI1 := fun v W (h : rowW W v (mkW (lo * 2 ^ k))) => sIn8 g' m' n' v _ W h (by omega)
        have kI2 := fun v W (h : rowW W v (mkW (hi * 2 ^ k))) => sIn8 g' m' n' v _ W h (by omega)
        obtain ⟨t1, ht1⟩ : ∃ t, inF g' m' n' (lo * 2 ^ k) = t := ⟨_, rfl⟩
        obtain ⟨t2, ht2⟩ : ∃ t, inF g' m' n' (hi * 2 ^ k) = t := ⟨_, rfl⟩
        rw [ht1] at kI1
        rw [ht2] at kI2
        rw [ht1, ht2] at HR
        generalize mkW (lo * 2 ^ k) = r1 at *
        generalize mkW (hi * 2 ^ k) = r2 at *
        generalize wofR lo = o1 at *
        generalize wofR hi = o2 at *
        have hsub : IntKind.i64.wrap (n' - n) = k := by rw [hk, IntKind.wrap_i64]; omega
        clear lz1 lz2 ht1 ht2 hb1 hb2 hd kF1 kF2
        go_wp2_with fail
        clear d0 d1 d2 p0 p1 p2
        have bd := (Below.refl w2.heap.size w2).drew
        replace X := X.below bd (Nat.le_refl _)
        replace A := A.below bd (Nat.le_refl _)
        replace B := B.trans (bd.mono B.size)
        refine wp_region_held_drew (S := fun W => W.cell? ⟨w.heap.size, 0, none⟩ = some (.bool g) ∧ W.cell? ⟨w.heap.size, 1, none⟩ = some (.int .i64 m) ∧ W.cell? ⟨w.heap.size, 2, none⟩ = some (.int .i64 n) ∧ W.cell? ⟨w.heap.size + 1, 0, none⟩ = some (.bool g') ∧ W.cell? ⟨w.heap.size + 1, 1, none⟩ = some (.int .i64 m') ∧ W.cell? ⟨w.heap.size + 1, 2, none⟩ = some (.int .i64 n')) (by kernel_rfl) ⟨X.c0, X.c1, X.c2, A.c0, A.c1, A.c2⟩ ?_
        intro hHeld
        generalize w2.drew = w3 at *
        clear bd
        refine takeH 0 (some 26) (.agg #[.bool g', .int .i64 m', .int .i64 n']) rfl rfl (by kernel_rfl) (by kernel_rfl) (by kernel_rfl) (fun _ _ _ h => h) (Or.inl ⟨rfl, fun W hW => by obtain ⟨_, _, _, _a, _b, _c⟩ := hW; go_simp⟩) (by assumption) ?_
        simp only [Act.put, List.setIfInBounds_toArray, List.set_cons_zero, List.set_cons_succ]
        refine takeH 1 (some 27) (.agg #[.bool g, .int .i64 m, .int .i64 n]) rfl rfl (by kernel_rfl) (by kernel_rfl) (by kernel_rfl) (fun _ _ _ h => h) (Or.inl ⟨rfl, fun W hW => by obtain ⟨_a, _b, _c, _, _, _⟩ := hW; go_simp⟩) (by assumption) ?_
        simp only [Act.put, List.setIfInBounds_toArray, List.set_cons_zero, List.set_cons_succ]
        refine takeH 4 (some 30) (.int .i64 k) rfl rfl (by kernel_rfl) (by kernel_rfl) (by kernel_rfl) (fun _ _ _ h => h) (yg_move rfl (.tmp 5) rfl _ rfl) (by assumption) ?_
        simp only [Act.put, List.setIfInBounds_toArray, List.set_cons_zero, List.set_cons_succ]
        refine oneH 2 rfl (by kernel_rfl) (fun K' hK => ?_)
        go_simp
        refine (kL _).mono ?_
        rintro e w4 ⟨rfl, c4⟩
        replace X := X.below c4 (Nat.le_refl _)
        replace A := A.below c4 (Nat.le_refl _)
        replace B := B.trans (c4.mono B.size)
        refine hK _ _ ⟨X.c0, X.c1, X.c2, A.c0, A.c1, A.c2⟩ ?_
        clear hK hHeld
        refine oneH 3 rfl (by kernel_rfl) (fun K' hK => ?_)
        go_simp
        refine (kO1 _).mono ?_
        rintro e w5 ⟨v5, rfl, u5, c5⟩
        replace X := X.below c5 (Nat.le_refl _)
        replace A := A.below c5 (Nat.le_refl _)
        replace B := B.trans (c5.mono B.size)
        refine hK _ _ ⟨X.c0, X.c1, X.c2, A.c0, A.c1, A.c2⟩ ?_
        clear hK
        refine oneH 5 rfl (by kernel_rfl) (fun K' hK => ?_)
        go_simp
        refine (kU1 _ _ u5.row).mono ?_
        rintro e w6 ⟨v6, rfl, u6, c6⟩
        replace X := X.below c6 (Nat.le_refl _)
        replace A := A.below c6 (Nat.le_refl _)
        replace B := B.trans (c6.mono B.size)
        refine hK _ _ ⟨X.c0, X.c1, X.c2, A.c0, A.c1, A.c2⟩ ?_
        clear hK
        refine oneH 6 rfl (by kernel_rfl) (fun K' hK => ?_)
        go_simp
        refine (kI1 _ _ u6.row).mono ?_
        rintro e w7 ⟨rfl, c7⟩
        replace X := X.below c7 (Nat.le_refl _)
        replace A := A.below c7 (Nat.le_refl _)
        replace B := B.trans (c7.mono B.size)
        refine hK _ _ ⟨X.c0, X.c1, X.c2, A.c0, A.c1, A.c2⟩ ?_
        clear hK c4 c5 c6 c7 u5 u6
        have hHeld := (⟨X.c0, X.c1, X.c2, A.c0, A.c1, A.c2⟩ : _ ∧ _ ∧ _ ∧ _ ∧ _ ∧ _)
        refine takeH 7 (some 33) (.bool t1) rfl rfl (by kernel_rfl) (by kernel_rfl) (by kernel_rfl) (fun _ _ _ h => h) (yg_move rfl (.tmp 32) rfl _ rfl) (by assumption) ?_
        simp only [Act.put, List.setIfInBounds_toArray, List.set_cons_zero, List.set_cons_succ]
        cases t1
        · skip
          refine takeH 8 (some 34) (undef) rfl rfl (by kernel_rfl) (by kernel_rfl) (by kernel_rfl) (fun _ _ _ h => h) (yg_skip rfl) (by assumption) ?_
          simp only [Act.put, List.setIfInBounds_toArray, List.set_cons_zero, List.set_cons_succ]
          refine takeH 9 (some 35) (undef) rfl rfl (by kernel_rfl) (by kernel_rfl) (by kernel_rfl) (fun _ _ _ h => h) (yg_skip rfl) (by assumption) ?_
          simp only [Act.put, List.setIfInBounds_toArray, List.set_cons_zero, List.set_cons_succ]
          refine takeH 10 (some 36) (undef) rfl rfl (by kernel_rfl) (by kernel_rfl) (by kernel_rfl) (fun _ _ _ h => h) (yg_skip rfl) (by assumption) ?_
          simp only [Act.put, List.setIfInBounds_toArray, List.set_cons_zero, List.set_cons_succ]
          refine takeH 11 (some 37) (undef) rfl rfl (by kernel_rfl) (by kernel_rfl) (by kernel_rfl) (fun _ _ _ h => h) (yg_skip rfl) (by assumption) ?_
          simp only [Act.put, List.setIfInBounds_toArray, List.set_cons_zero, List.set_cons_succ]
          refine takeH 12 (some 38) (undef) rfl rfl (by kernel_rfl) (by kernel_rfl) (by kernel_rfl) (fun _ _ _ h => h) (yg_skip rfl) (by assumption) ?_
          simp only [Act.put, List.setIfInBounds_toArray, List.set_cons_zero, List.set_cons_succ]
          refine takeH 13 (some 39) (undef) rfl rfl (by kernel_rfl) (by kernel_rfl) (by kernel_rfl) (fun _ _ _ h => h) (yg_skip rfl) (by assumption) ?_
          simp only [Act.put, List.setIfInBounds_toArray, List.set_cons_zero, List.set_cons_succ]
          refine takeH 14 (some 40) (undef) rfl rfl (by kernel_rfl) (by kernel_rfl) (by kernel_rfl) (fun _ _ _ h => h) (yg_skip rfl) (by assumption) ?_
          simp only [Act.put, List.setIfInBounds_toArray, List.set_cons_zero, List.set_cons_succ]
          refine takeH 15 (some 41) (.bool false) rfl rfl (by kernel_rfl) (by kernel_rfl) (by kernel_rfl) (fun _ _ _ h => h) (yg_pick rfl (.tmp 33) (.tmp 40) (.const (.bool false)) rfl false rfl _ rfl) (by assumption) ?_
          simp only [Act.put, List.setIfInBounds_toArray, List.set_cons_zero, List.set_cons_succ]
          refine takeH 16 (some 4) (.bool false) rfl rfl (by kernel_rfl) (by kernel_rfl) (by kernel_rfl) (fun _ _ _ h => h) (yg_assign rfl (.tmp 41) rfl _ rfl) (by assumption) ?_
          simp only [Act.put, List.setIfInBounds_toArray, List.set_cons_zero, List.set_cons_succ]
          refine wpAnyH_done (by kernel_rfl) ?_ _
          go_wp2
          go_ret
          exact ⟨by rw [HR.out]; rfl, B⟩
        · skip
          refine takeH 8 (some 34) (.agg #[.bool g', .int .i64 m', .int .i64 n']) rfl rfl (by kernel_rfl) (by kernel_rfl) (by kernel_rfl) (fun _ _ _ h => h) (Or.inl ⟨rfl, fun W hW => by obtain ⟨_, _, _, _a, _b, _c⟩ := hW; go_simp⟩) (by assumption) ?_
          simp only [Act.put, List.setIfInBounds_toArray, List.set_cons_zero, List.set_cons_succ]
          refine takeH 9 (some 35) (.agg #[.bool g, .int .i64 m, .int .i64 n]) rfl rfl (by kernel_rfl) (by kernel_rfl) (by kernel_rfl) (fun _ _ _ h => h) (Or.inl ⟨rfl, fun W hW => by obtain ⟨_a, _b, _c, _, _, _⟩ := hW; go_simp⟩) (by assumption) ?_
          simp only [Act.put, List.setIfInBounds_toArray, List.set_cons_zero, List.set_cons_succ]
          refine takeH 12 (some 38) (.int .i64 k) rfl rfl (by kernel_rfl) (by kernel_rfl) (by kernel_rfl) (fun _ _ _ h => h) (yg_move rfl (.tmp 5) rfl _ rfl) (by assumption) ?_
          simp only [Act.put, List.setIfInBounds_toArray, List.set_cons_zero, List.set_cons_succ]
          refine oneH 10 rfl (by kernel_rfl) (fun K' hK => ?_)
          go_simp
          refine (kM _).mono ?_
          rintro e w8 ⟨rfl, c8⟩
          replace X := X.below c8 (Nat.le_refl _)
          replace A := A.below c8 (Nat.le_refl _)
          replace B := B.trans (c8.mono B.size)
          refine hK _ _ ⟨X.c0, X.c1, X.c2, A.c0, A.c1, A.c2⟩ ?_
          clear hK hHeld
          refine oneH 11 rfl (by kernel_rfl) (fun K' hK => ?_)
          go_simp
          refine (kO2 _).mono ?_
          rintro e w9 ⟨v9, rfl, u9, c9⟩
          replace X := X.below c9 (Nat.le_refl _)
          replace A := A.below c9 (Nat.le_refl _)
          replace B := B.trans (c9.mono B.size)
          refine hK _ _ ⟨X.c0, X.c1, X.c2, A.c0, A.c1, A.c2⟩ ?_
          clear hK
          refine oneH 13 rfl (by kernel_rfl) (fun K' hK => ?_)
          go_simp
          refine (kU2 _ _ u9.row).mono ?_
          rintro e wa ⟨va, rfl, ua, ca⟩
          replace X := X.below ca (Nat.le_refl _)
          replace A := A.below ca (Nat.le_refl _)
          replace B := B.trans (ca.mono B.size)
          refine hK _ _ ⟨X.c0, X.c1, X.c2, A.c0, A.c1, A.c2⟩ ?_
          clear hK
          refine oneH 14 rfl (by kernel_rfl) (fun K' hK => ?_)
          go_simp
          refine (kI2 _ _ ua.row).mono ?_
          rintro e wb ⟨rfl, cb⟩
          replace X := X.below cb (Nat.le_refl _)
          replace A := A.below cb (Nat.le_refl _)
          replace B := B.trans (cb.mono B.size)
          refine hK _ _ ⟨X.c0, X.c1, X.c2, A.c0, A.c1, A.c2⟩ ?_
          clear hK c8 c9 ca cb u9 ua
          have hHeld := (⟨X.c0, X.c1, X.c2, A.c0, A.c1, A.c2⟩ : _ ∧ _ ∧ _ ∧ _ ∧ _ ∧ _)
          refine takeH 15 (some 41) (.bool t2) rfl rfl (by kernel_rfl) (by kernel_rfl) (by kernel_rfl) (fun _ _ _ h => h) (yg_pick rfl (.tmp 33) (.tmp 40) (.const (.bool false)) rfl true rfl _ rfl) (by assumption) ?_
          simp only [Act.put, List.setIfInBounds_toArray, List.set_cons_zero, List.set_cons_succ]
          refine takeH 16 (some 4) (.bool t2) rfl rfl (by kernel_rfl) (by kernel_rfl) (by kernel_rfl) (fun _ _ _ h => h) (yg_assign rfl (.tmp 41) rfl _ rfl) (by assumption) ?_
          simp only [Act.put, List.setIfInBounds_toArray, List.set_cons_zero, List.set_cons_succ]
          refine wpAnyH_done (by kernel_rfl) ?_ _
          go_wp2
          go_ret
          exact ⟨by rw [HR.out]; simp, B⟩

end Go.Proofs.Ytmafljcolniddaa
