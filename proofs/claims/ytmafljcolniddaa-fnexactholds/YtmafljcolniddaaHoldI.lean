/- has, behind, moved and Holds of the program, each by its contract. -/
import Derived.Test.YtmafljcolniddaaRawJ
import Derived.Test.YtmafljcolniddaaSOf
import Derived.Test.YtmafljcolniddaaSgShift
namespace Go.Proofs.Ytmafljcolniddaa
open Go.RowKit
set_option linter.unusedSimpArgs false

set_option maxHeartbeats 1600000 in
theorem iHas (g : Bool) (m n : Int) (b : Nat) (z : Int) (w : World) (h : SG w b z) (hf : fok m n = true) :
    Calls Try.prog 22 #[vF g m n, .pointer (some ⟨b, 0, none⟩)] w fun e w' => e = .returned (.bool (inF g m n z)) ∧ Below w.heap.size w w' := by
  obtain ⟨m2, m60, n0, nm⟩ := (fok_iff _ _).1 hf
  obtain ⟨k, rfl⟩ := Int.eq_ofNat_of_zero_le (show 0 ≤ m by omega)
  have hl := h.lt
  have B := below1 w (.cells #[.bool g, .int .i64 k, .int .i64 n] 25)
  have Z := h.below B hl
  have HI : Hid (inF g k n z = rawR g k n z) := by show _ = _; unfold inF rawR; rw [hf]; simp
  cases hr : rawR g (k : Int) n z
  · have kN := iRawNo g k n b z _ Z (by omega) hr
    rw [hr] at HI
    clear hr
    go_enter Try.func22, Try.ntmps22
    go_wp2_with fail
    generalize w.alloc (.cells #[.bool g, .int .i64 k, .int .i64 n] 25) = w0 at *
    refine kN.mono ?_
    rintro e w1 ⟨t, v, rfl, b1⟩
    replace B := B.trans (b1.mono B.size)
    go_wp2
    go_ret
    exact ⟨by rw [HI.out]; rfl, B⟩
  · have kY := iRawYes g k n b z _ Z hr
    rw [hr] at HI
    clear hr
    go_enter Try.func22, Try.ntmps22
    go_wp2_with fail
    generalize w.alloc (.cells #[.bool g, .int .i64 k, .int .i64 n] 25) = w0 at *
    refine kY.mono ?_
    rintro e w1 ⟨rfl, b1⟩
    replace B := B.trans (b1.mono B.size)
    go_wp2
    go_ret
    exact ⟨by rw [HI.out]; rfl, B⟩

set_option maxHeartbeats 800000 in
theorem iBehind (g : Bool) (m n : Int) (w : World) : Calls Try.prog 79 #[vF g m n] w fun e w' => e = .returned (.int .i64 n) ∧ Below w.heap.size w w' := by
  go_enter Try.func79, Try.ntmps79
  go_wp2
  go_ret
  exact ⟨rfl, below1 _ _⟩

set_option maxRecDepth 20000 in
set_option maxHeartbeats 6400000 in
theorem iMovedUp (g : Bool) (m n : Int) (g' : Bool) (m' n' : Int) (b : Nat) (z : Int) (k : Nat) (mode : Int) (w : World) (h : SG w b z) (hk : n' - n = k) (hk60 : k ≤ 60) (hz : (limbs z.natAbs).length ≤ 3) :
    Calls Try.prog 18 #[vF g m n, vF g' m' n', .pointer (some ⟨b, 0, none⟩), .int .i64 mode] w fun e w' => ∃ c, e = .returned (.pointer (some ⟨c, 0, none⟩)) ∧ w.heap.size ≤ c ∧ SG w' c (z * 2 ^ k) ∧ Below w.heap.size w w' := by
  have hl := h.lt
  have s1 : (w.alloc (.cells #[.bool g, .int .i64 m, .int .i64 n] 25)).heap.size = w.heap.size + 1 := by simp
  have X := (Box3.made w (.bool g) (.int .i64 m) (.int .i64 n) 25).below (below1 _ (.cells #[.bool g', .int .i64 m', .int .i64 n'] 25)) (Nat.le_refl _)
  have A := Box3.made (w.alloc (.cells #[.bool g, .int .i64 m, .int .i64 n] 25)) (.bool g') (.int .i64 m') (.int .i64 n') 25
  rw [s1] at A
  have B := below2 w (.cells #[.bool g, .int .i64 m, .int .i64 n] 25) (.cells #[.bool g', .int .i64 m', .int .i64 n'] 25)
  clear s1
  have kB1 := fun W => iBehind g m n W
  have kB2 := fun W => iBehind g' m' n' W
  have kU := fun W (h : SG W b z) => sgUp b z k W h (by omega) (by omega)
  have hkw : IntKind.i64.wrap ((k : Nat) : Int) = ((k : Nat) : Int) := by rw [IntKind.wrap_i64]; omega
  have hsub : IntKind.i64.wrap (n' - n) = k := by rw [hk, IntKind.wrap_i64]; omega
  go_enter Try.func18, Try.ntmps18
  go_wp2_with fail
  generalize (w.alloc (.cells #[.bool g, .int .i64 m, .int .i64 n] 25)).alloc (.cells #[.bool g', .int .i64 m', .int .i64 n'] 25) = w0 at *
  have bd := (Below.refl w0.heap.size w0).drew
  replace X := X.below bd (Nat.le_refl _)
  replace A := A.below bd (Nat.le_refl _)
  replace B := B.trans (bd.mono B.size)
  refine wp_region_held_drew (S := fun W => W.cell? ⟨w.heap.size, 0, none⟩ = some (.bool g) ∧ W.cell? ⟨w.heap.size, 1, none⟩ = some (.int .i64 m) ∧ W.cell? ⟨w.heap.size, 2, none⟩ = some (.int .i64 n) ∧ W.cell? ⟨w.heap.size + 1, 0, none⟩ = some (.bool g') ∧ W.cell? ⟨w.heap.size + 1, 1, none⟩ = some (.int .i64 m') ∧ W.cell? ⟨w.heap.size + 1, 2, none⟩ = some (.int .i64 n')) (by kernel_rfl) ⟨X.c0, X.c1, X.c2, A.c0, A.c1, A.c2⟩ ?_
  intro hHeld
  generalize w0.drew = w1 at *
  clear bd
  refine takeH 0 (some 10) (.agg #[.bool g', .int .i64 m', .int .i64 n']) rfl rfl (by kernel_rfl) (by kernel_rfl) (by kernel_rfl) (fun _ _ _ h => h) (Or.inl ⟨rfl, fun W hW => by obtain ⟨_, _, _, _a, _b, _c⟩ := hW; go_simp⟩) (by assumption) ?_
  simp only [Act.put, List.setIfInBounds_toArray, List.set_cons_zero, List.set_cons_succ]
  refine takeH 1 (some 11) (.iface 25 (.agg #[.bool g', .int .i64 m', .int .i64 n'])) rfl rfl (by kernel_rfl) (by kernel_rfl) (by kernel_rfl) (fun _ _ _ h => h) (Or.inl ⟨rfl, fun W hW => by obtain _ := hW; go_simp⟩) (by assumption) ?_
  simp only [Act.put, List.setIfInBounds_toArray, List.set_cons_zero, List.set_cons_succ]
  refine takeH 3 (some 13) (.agg #[.bool g, .int .i64 m, .int .i64 n]) rfl rfl (by kernel_rfl) (by kernel_rfl) (by kernel_rfl) (fun _ _ _ h => h) (Or.inl ⟨rfl, fun W hW => by obtain ⟨_a, _b, _c, _, _, _⟩ := hW; go_simp⟩) (by assumption) ?_
  simp only [Act.put, List.setIfInBounds_toArray, List.set_cons_zero, List.set_cons_succ]
  refine takeH 4 (some 14) (.iface 25 (.agg #[.bool g, .int .i64 m, .int .i64 n])) rfl rfl (by kernel_rfl) (by kernel_rfl) (by kernel_rfl) (fun _ _ _ h => h) (Or.inl ⟨rfl, fun W hW => by obtain _ := hW; go_simp⟩) (by assumption) ?_
  simp only [Act.put, List.setIfInBounds_toArray, List.set_cons_zero, List.set_cons_succ]
  refine oneH 2 rfl (by kernel_rfl) (fun K' hK => ?_)
  go_simp
  refine (kB2 _).mono ?_
  rintro e w2 ⟨rfl, c2⟩
  replace X := X.below c2 (Nat.le_refl _)
  replace A := A.below c2 (Nat.le_refl _)
  replace B := B.trans (c2.mono B.size)
  refine hK _ _ ⟨X.c0, X.c1, X.c2, A.c0, A.c1, A.c2⟩ ?_
  clear hK hHeld c2
  refine oneH 5 rfl (by kernel_rfl) (fun K' hK => ?_)
  go_simp
  refine (kB1 _).mono ?_
  rintro e w3 ⟨rfl, c3⟩
  replace X := X.below c3 (Nat.le_refl _)
  replace A := A.below c3 (Nat.le_refl _)
  replace B := B.trans (c3.mono B.size)
  refine hK _ _ ⟨X.c0, X.c1, X.c2, A.c0, A.c1, A.c2⟩ ?_
  clear hK c3
  have hHeld := (⟨X.c0, X.c1, X.c2, A.c0, A.c1, A.c2⟩ : _ ∧ _ ∧ _ ∧ _ ∧ _ ∧ _)
  refine takeH 6 (some 16) (.int .i64 k) rfl rfl (by kernel_rfl) (by kernel_rfl) (by kernel_rfl) (fun _ _ _ h => h) (Or.inl ⟨rfl, fun W hW => by obtain _ := hW; go_simp⟩) (by assumption) ?_
  simp only [Act.put, List.setIfInBounds_toArray, List.set_cons_zero, List.set_cons_succ]
  refine takeH 7 (some 9) (.int .i64 k) rfl rfl (by kernel_rfl) (by kernel_rfl) (by kernel_rfl) (fun _ _ _ h => h) (yg_assign rfl (.tmp 16) rfl _ rfl) (by assumption) ?_
  simp only [Act.put, List.setIfInBounds_toArray, List.set_cons_zero, List.set_cons_succ]
  refine wpAnyH_done (by kernel_rfl) ?_ _
  clear hHeld
  have Z := h.below B hl
  have hs := B.size
  go_wp2_with fail
  refine (kU _ Z).mono ?_
  rintro e w4 ⟨c, rfl, hc, hz4, c4⟩
  replace B := B.trans (c4.mono B.size)
  go_wp2
  go_ret
  exact ⟨c, rfl, by omega, hz4, B⟩

set_option maxRecDepth 20000 in
set_option maxHeartbeats 12800000 in
theorem iHolds (g : Bool) (m n : Int) (g' : Bool) (m' n' : Int) (w : World) :
    Calls Try.prog 7 #[vF g m n, vF g' m' n'] w fun e w' => e = .returned (.bool (holdsB g m n g' m' n')) ∧ Below w.heap.size w w' := by
  have kF1 := fun W => iFmtOk g m n W
  have kF2 := fun W => iFmtOk g' m' n' W
  have HR : Hid (holdsB g m n g' m' n' = (fok m n && fok m' n' && decide (n ≤ n') && inF g' m' n' (leastR g m n * 2 ^ (n' - n).toNat) && inF g' m' n' (mostR g m n * 2 ^ (n' - n).toNat))) := rfl
  obtain ⟨b1, hb1⟩ : ∃ b, fok m n = b := ⟨_, rfl⟩
  obtain ⟨b2, hb2⟩ : ∃ b, fok m' n' = b := ⟨_, rfl⟩
  rw [hb1] at kF1
  rw [hb2] at kF2
  rw [hb1, hb2] at HR
  obtain ⟨rr, hrr⟩ : ∃ r, holdsB g m n g' m' n' = r := ⟨_, rfl⟩
  rw [hrr] at HR
  rw [hrr]
  clear hrr
  have s1 : (w.alloc (.cells #[.bool g, .int .i64 m, .int .i64 n] 25)).heap.size = w.heap.size + 1 := by simp
  have X := (Box3.made w (.bool g) (.int .i64 m) (.int .i64 n) 25).below (below1 _ (.cells #[.bool g', .int .i64 m', .int .i64 n'] 25)) (Nat.le_refl _)
  have A := Box3.made (w.alloc (.cells #[.bool g, .int .i64 m, .int .i64 n] 25)) (.bool g') (.int .i64 m') (.int .i64 n') 25
  rw [s1] at A
  have B := below2 w (.cells #[.bool g, .int .i64 m, .int .i64 n] 25) (.cells #[.bool g', .int .i64 m', .int .i64 n'] 25)
  clear s1
  go_enter Try.func7, Try.ntmps7
  go_wp2_with fail
  generalize (w.alloc (.cells #[.bool g, .int .i64 m, .int .i64 n] 25)).alloc (.cells #[.bool g', .int .i64 m', .int .i64 n'] 25) = w0 at *
  refine (kF1 _).mono ?_
  rintro e w1 ⟨rfl, c1⟩
  replace X := X.below c1 (Nat.le_refl _)
  replace A := A.below c1 (Nat.le_refl _)
  replace B := B.trans (c1.mono B.size)
  have d0 := X.c0
  have d1 := X.c1
  have d2 := X.c2
  have p0 := A.c0
  have p1 := A.c1
  have p2 := A.c2
  cases b1
  · go_wp2
    go_ret
    exact ⟨by rw [HR.out]; rfl, B⟩
  · go_wp2_with fail
    clear d0 d1 d2 p0 p1 p2
    refine (kF2 _).mono ?_
    rintro e w2 ⟨rfl, c2⟩
    replace X := X.below c2 (Nat.le_refl _)
    replace A := A.below c2 (Nat.le_refl _)
    replace B := B.trans (c2.mono B.size)
    have d0 := X.c0
    have d1 := X.c1
    have d2 := X.c2
    have p0 := A.c0
    have p1 := A.c1
    have p2 := A.c2
    cases b2
    · go_wp2
      go_ret
      exact ⟨by rw [HR.out]; rfl, B⟩
    · by_cases hlt : n' < n
      · have hd : decide (n ≤ n') = false := decide_eq_false (by omega)
        rw [hd] at HR
        go_wp2
        go_ret
        exact ⟨by rw [HR.out]; rfl, B⟩
      · obtain ⟨m2, m60, n0, nm⟩ := (fok_iff _ _).1 hb1
        obtain ⟨m2', m60', n0', nm'⟩ := (fok_iff _ _).1 hb2
        have hd : decide (n ≤ n') = true := decide_eq_true (by omega)
        rw [hd] at HR
        obtain ⟨k, hk⟩ : ∃ k : Nat, n' - n = k := ⟨(n' - n).toNat, by omega⟩
        rw [hk] at HR
        rw [show ((k : Nat) : Int).toNat = k from by omega] at HR
        obtain ⟨l0, l1, h0, h1⟩ := raw_bd g m n
        have kL := fun W => iLeast g m n W
        have kM := fun W => iMost g m n W
        generalize leastR g m n = lo at *
        generalize mostR g m n = hi at *
        have kO1 := fun W => sOf lo W (by omega) (by omega)
        have kO2 := fun W => sOf hi W (by omega) (by omega)
        have kV1 := fun b W (h : SG W b lo) => iMovedUp g m n g' m' n' b lo k 0 W h hk (by omega) (limbs60 (by omega) (by omega))
        have kV2 := fun b W (h : SG W b hi) => iMovedUp g m n g' m' n' b hi k 0 W h hk (by omega) (limbs60 (by omega) (by omega))
        have kH1 := fun b W (h : SG W b (lo * 2 ^ k)) => iHas g' m' n' b _ W h hb2
        have kH2 := fun b W (h : SG W b (hi * 2 ^ k)) => iHas g' m' n' b _ W h hb2
        generalize lo * 2 ^ k = zl at *
        generalize hi * 2 ^ k = zh at *
        obtain ⟨t1, ht1⟩ : ∃ t, inF g' m' n' zl = t := ⟨_, rfl⟩
        obtain ⟨t2, ht2⟩ : ∃ t, inF g' m' n' zh = t := ⟨_, rfl⟩
        rw [ht1] at kH1
        rw [ht2] at kH2
        rw [ht1, ht2] at HR
        clear ht1 ht2 hd kF1 kF2
        go_wp2_with fail
        clear d0 d1 d2 p0 p1 p2
        have bd := (Below.refl w2.heap.size w2).drew
        replace X := X.below bd (Nat.le_refl _)
        replace A := A.below bd (Nat.le_refl _)
        replace B := B.trans (bd.mono B.size)
        refine wp_region_held_drew (S := fun W => W.cell? ⟨w.heap.size, 0, none⟩ = some (.bool g) ∧ W.cell? ⟨w.heap.size, 1, none⟩ = some (.int .i64 m) ∧ W.cell? ⟨w.heap.size, 2, none⟩ = some (.int .i64 n) ∧ W.cell? ⟨w.heap.size + 1, 0, none⟩ = some (.bool g') ∧ W.cell? ⟨w.heap.size + 1, 1, none⟩ = some (.int .i64 m') ∧ W.cell? ⟨w.heap.size + 1, 2, none⟩ = some (.int .i64 n')) (by kernel_rfl) ⟨X.c0, X.c1, X.c2, A.c0, A.c1, A.c2⟩ ?_
        intro hHeld
        generalize w2.drew = w3 at *
        clear bd
        refine takeH 0 (some 22) (.agg #[.bool g, .int .i64 m, .int .i64 n]) rfl rfl (by kernel_rfl) (by kernel_rfl) (by kernel_rfl) (fun _ _ _ h => h) (Or.inl ⟨rfl, fun W hW => by obtain ⟨_a, _b, _c, _, _, _⟩ := hW; go_simp⟩) (by assumption) ?_
        simp only [Act.put, List.setIfInBounds_toArray, List.set_cons_zero, List.set_cons_succ]
        refine takeH 1 (some 23) (.agg #[.bool g', .int .i64 m', .int .i64 n']) rfl rfl (by kernel_rfl) (by kernel_rfl) (by kernel_rfl) (fun _ _ _ h => h) (Or.inl ⟨rfl, fun W hW => by obtain ⟨_, _, _, _a, _b, _c⟩ := hW; go_simp⟩) (by assumption) ?_
        simp only [Act.put, List.setIfInBounds_toArray, List.set_cons_zero, List.set_cons_succ]
        refine takeH 2 (some 24) (.agg #[.bool g, .int .i64 m, .int .i64 n]) rfl rfl (by kernel_rfl) (by kernel_rfl) (by kernel_rfl) (fun _ _ _ h => h) (Or.inl ⟨rfl, fun W hW => by obtain ⟨_a, _b, _c, _, _, _⟩ := hW; go_simp⟩) (by assumption) ?_
        simp only [Act.put, List.setIfInBounds_toArray, List.set_cons_zero, List.set_cons_succ]
        refine oneH 3 rfl (by kernel_rfl) (fun K' hK => ?_)
        go_simp
        refine (kL _).mono ?_
        rintro e w4 ⟨rfl, c4⟩
        replace X := X.below c4 (Nat.le_refl _)
        replace A := A.below c4 (Nat.le_refl _)
        replace B := B.trans (c4.mono B.size)
        refine hK _ _ ⟨X.c0, X.c1, X.c2, A.c0, A.c1, A.c2⟩ ?_
        clear hK hHeld
        refine oneH 4 rfl (by kernel_rfl) (fun K' hK => ?_)
        go_simp
        refine (kO1 _).mono ?_
        rintro e w5 ⟨p5, rfl, hp5, z5, c5⟩
        replace X := X.below c5 (Nat.le_refl _)
        replace A := A.below c5 (Nat.le_refl _)
        replace B := B.trans (c5.mono B.size)
        refine hK _ _ ⟨X.c0, X.c1, X.c2, A.c0, A.c1, A.c2⟩ ?_
        clear hK
        refine oneH 5 rfl (by kernel_rfl) (fun K' hK => ?_)
        go_simp
        refine (kV1 _ _ z5).mono ?_
        rintro e w6 ⟨p6, rfl, hp6, z6, c6⟩
        replace X := X.below c6 (Nat.le_refl _)
        replace A := A.below c6 (Nat.le_refl _)
        replace B := B.trans (c6.mono B.size)
        refine hK _ _ ⟨X.c0, X.c1, X.c2, A.c0, A.c1, A.c2⟩ ?_
        clear hK c4 c5 c6 z5
        have hHeld := (⟨X.c0, X.c1, X.c2, A.c0, A.c1, A.c2⟩ : _ ∧ _ ∧ _ ∧ _ ∧ _ ∧ _)
        refine takeH 6 (some 5) (.pointer (some ⟨p6, 0, none⟩)) rfl rfl (by kernel_rfl) (by kernel_rfl) (by kernel_rfl) (fun _ _ _ h => h) (yg_assign rfl (.tmp 27) rfl _ rfl) (by assumption) ?_
        simp only [Act.put, List.setIfInBounds_toArray, List.set_cons_zero, List.set_cons_succ]
        refine wpAnyH_done (by kernel_rfl) ?_ _
        clear hHeld
        go_wp2_with fail
        have bd := (Below.refl w6.heap.size w6).drew
        replace X := X.below bd (Nat.le_refl _)
        replace A := A.below bd (Nat.le_refl _)
        replace B := B.trans (bd.mono B.size)
        replace z6 := z6.below bd z6.lt
        refine wp_region_held_drew (S := fun W => W.cell? ⟨w.heap.size, 0, none⟩ = some (.bool g) ∧ W.cell? ⟨w.heap.size, 1, none⟩ = some (.int .i64 m) ∧ W.cell? ⟨w.heap.size, 2, none⟩ = some (.int .i64 n) ∧ W.cell? ⟨w.heap.size + 1, 0, none⟩ = some (.bool g') ∧ W.cell? ⟨w.heap.size + 1, 1, none⟩ = some (.int .i64 m') ∧ W.cell? ⟨w.heap.size + 1, 2, none⟩ = some (.int .i64 n')) (by kernel_rfl) ⟨X.c0, X.c1, X.c2, A.c0, A.c1, A.c2⟩ ?_
        intro hHeld
        generalize w6.drew = w7 at *
        clear bd
        refine takeH 0 (some 28) (.agg #[.bool g, .int .i64 m, .int .i64 n]) rfl rfl (by kernel_rfl) (by kernel_rfl) (by kernel_rfl) (fun _ _ _ h => h) (Or.inl ⟨rfl, fun W hW => by obtain ⟨_a, _b, _c, _, _, _⟩ := hW; go_simp⟩) (by assumption) ?_
        simp only [Act.put, List.setIfInBounds_toArray, List.set_cons_zero, List.set_cons_succ]
        refine takeH 1 (some 29) (.agg #[.bool g', .int .i64 m', .int .i64 n']) rfl rfl (by kernel_rfl) (by kernel_rfl) (by kernel_rfl) (fun _ _ _ h => h) (Or.inl ⟨rfl, fun W hW => by obtain ⟨_, _, _, _a, _b, _c⟩ := hW; go_simp⟩) (by assumption) ?_
        simp only [Act.put, List.setIfInBounds_toArray, List.set_cons_zero, List.set_cons_succ]
        refine takeH 2 (some 30) (.agg #[.bool g, .int .i64 m, .int .i64 n]) rfl rfl (by kernel_rfl) (by kernel_rfl) (by kernel_rfl) (fun _ _ _ h => h) (Or.inl ⟨rfl, fun W hW => by obtain ⟨_a, _b, _c, _, _, _⟩ := hW; go_simp⟩) (by assumption) ?_
        simp only [Act.put, List.setIfInBounds_toArray, List.set_cons_zero, List.set_cons_succ]
        refine oneH 3 rfl (by kernel_rfl) (fun K' hK => ?_)
        go_simp
        refine (kM _).mono ?_
        rintro e w8 ⟨rfl, c8⟩
        replace X := X.below c8 (Nat.le_refl _)
        replace A := A.below c8 (Nat.le_refl _)
        replace B := B.trans (c8.mono B.size)
        replace z6 := z6.below c8 z6.lt
        refine hK _ _ ⟨X.c0, X.c1, X.c2, A.c0, A.c1, A.c2⟩ ?_
        clear hK hHeld
        refine oneH 4 rfl (by kernel_rfl) (fun K' hK => ?_)
        go_simp
        refine (kO2 _).mono ?_
        rintro e w9 ⟨p9, rfl, hp9, z9, c9⟩
        replace X := X.below c9 (Nat.le_refl _)
        replace A := A.below c9 (Nat.le_refl _)
        replace B := B.trans (c9.mono B.size)
        replace z6 := z6.below c9 z6.lt
        refine hK _ _ ⟨X.c0, X.c1, X.c2, A.c0, A.c1, A.c2⟩ ?_
        clear hK
        refine oneH 5 rfl (by kernel_rfl) (fun K' hK => ?_)
        go_simp
        refine (kV2 _ _ z9).mono ?_
        rintro e wa ⟨pa, rfl, hpa, za, ca⟩
        replace X := X.below ca (Nat.le_refl _)
        replace A := A.below ca (Nat.le_refl _)
        replace B := B.trans (ca.mono B.size)
        replace z6 := z6.below ca z6.lt
        refine hK _ _ ⟨X.c0, X.c1, X.c2, A.c0, A.c1, A.c2⟩ ?_
        clear hK c8 c9 ca z9
        have hHeld := (⟨X.c0, X.c1, X.c2, A.c0, A.c1, A.c2⟩ : _ ∧ _ ∧ _ ∧ _ ∧ _ ∧ _)
        refine takeH 6 (some 6) (.pointer (some ⟨pa, 0, none⟩)) rfl rfl (by kernel_rfl) (by kernel_rfl) (by kernel_rfl) (fun _ _ _ h => h) (yg_assign rfl (.tmp 33) rfl _ rfl) (by assumption) ?_
        simp only [Act.put, List.setIfInBounds_toArray, List.set_cons_zero, List.set_cons_succ]
        refine wpAnyH_done (by kernel_rfl) ?_ _
        clear hHeld
        have d0 := X.c0
        have d1 := X.c1
        have d2 := X.c2
        have p0 := A.c0
        have p1 := A.c1
        have p2 := A.c2
        go_wp2_with fail
        clear d0 d1 d2 p0 p1 p2
        refine (kH1 _ _ z6).mono ?_
        rintro e wb ⟨rfl, cb⟩
        replace X := X.below cb (Nat.le_refl _)
        replace A := A.below cb (Nat.le_refl _)
        replace B := B.trans (cb.mono B.size)
        replace za := za.below cb za.lt
        have d0 := X.c0
        have d1 := X.c1
        have d2 := X.c2
        have p0 := A.c0
        have p1 := A.c1
        have p2 := A.c2
        cases t1
        · go_wp2
          go_ret
          exact ⟨by rw [HR.out]; rfl, B⟩
        · go_wp2_with fail
          refine (kH2 _ _ za).mono ?_
          rintro e wc ⟨rfl, cc⟩
          replace X := X.below cc (Nat.le_refl _)
          replace A := A.below cc (Nat.le_refl _)
          replace B := B.trans (cc.mono B.size)
          go_wp2
          go_ret
          exact ⟨by rw [HR.out]; simp, B⟩

end Go.Proofs.Ytmafljcolniddaa
