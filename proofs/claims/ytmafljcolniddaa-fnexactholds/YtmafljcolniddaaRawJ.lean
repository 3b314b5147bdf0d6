/- raw and has of the program, each by its contract. -/
import Derived.Test.YtmafljcolniddaaRawI
import Derived.Test.YtmafljcolniddaaHoldS
namespace Go.Proofs.Ytmafljcolniddaa
open Go.RowKit
set_option linter.unusedSimpArgs false

theorem raw_small {g : Bool} {m n z : Int} (h : rawR g m n z = true) : nbits z.natAbs ≤ 63 := by
  obtain ⟨l0, l1, h0, h1⟩ := raw_bd g m n
  unfold rawR at h
  simp only [Bool.and_eq_true, decide_eq_true_eq] at h
  exact nbits_le_pow 63 _ (by have e : (2 : Nat) ^ 63 = 9223372036854775808 := by decide
                              omega)

set_option maxRecDepth 20000 in
set_option maxHeartbeats 3200000 in
theorem iRawYes (g : Bool) (m n : Int) (b : Nat) (z : Int) (w : World) (h : SG w b z) (hr : rawR g m n z = true) :
    Calls Try.prog 36 #[vF g m n, .pointer (some ⟨b, 0, none⟩)] w fun e w' => e = .returned (.tuple #[.int .i64 z, .nilIface]) ∧ Below w.heap.size w w' := by
  have hs := raw_small hr
  have hl := h.lt
  have X := Box3.made w (.bool g) (.int .i64 m) (.int .i64 n) 25
  have B := below1 w (.cells #[.bool g, .int .i64 m, .int .i64 n] 25)
  have kS := sSmallS b z _ (h.below B hl)
  rw [if_pos hs, decide_eq_true hs] at kS
  have kR := fun W => iRawOk g m n z W
  rw [hr] at kR
  clear hs hr
  go_enter Try.func36, Try.ntmps36
  go_wp2_with fail
  generalize w.alloc (.cells #[.bool g, .int .i64 m, .int .i64 n] 25) = w0 at *
  refine kS.mono ?_
  rintro e w1 ⟨rfl, b1⟩
  replace X := X.below b1 (Nat.le_refl _)
  replace B := B.trans (b1.mono B.size)
  have d0 := X.c0
  have d1 := X.c1
  have d2 := X.c2
  go_wp2_with fail
  refine (kR _).mono ?_
  rintro e w2 ⟨rfl, b2⟩
  replace B := B.trans (b2.mono B.size)
  go_wp2
  go_ret2
  exact ⟨rfl, B⟩

theorem and_u64 (x : Int) (k : Nat) (hk : k ≤ 60) : 0 ≤ bits .and .u64 x ((2 : Int) ^ k - 1) ∧ bits .and .u64 x ((2 : Int) ^ k - 1) ≤ (2 : Int) ^ k - 1 := by
  have hp := Nat.pow_le_pow_right (show 0 < 2 by omega) hk
  have h1 := Nat.two_pow_pos k
  have e1 : ((2 ^ k : Nat) : Int) = (2 : Int) ^ k := by simp
  have e0 : (2 : Int) ^ k - 1 = ((2 ^ k - 1 : Nat) : Int) := by omega
  have e60 : (2 : Nat) ^ 60 = 1152921504606846976 := by decide
  rw [e0]
  have e2 : (BitVec.ofInt 64 ((2 ^ k - 1 : Nat) : Int)).toNat = 2 ^ k - 1 := ofInt_u64 _ (by omega)
  have h3 : ((BitVec.ofInt 64 x) &&& (BitVec.ofInt 64 ((2 ^ k - 1 : Nat) : Int))).toNat ≤ 2 ^ k - 1 := by
    rw [BitVec.toNat_and, e2]; exact Nat.and_le_right
  have e : bits .and .u64 x ((2 ^ k - 1 : Nat) : Int) = (((BitVec.ofInt 64 x) &&& (BitVec.ofInt 64 ((2 ^ k - 1 : Nat) : Int))).toNat : Int) := by
    show IntKind.u64.wrap (((BitVec.ofInt 64 x) &&& (BitVec.ofInt 64 ((2 ^ k - 1 : Nat) : Int))).toNat : Int) = _
    rw [IntKind.wrap_u64]
    omega
  rw [e]
  omega

set_option maxRecDepth 20000 in
set_option maxHeartbeats 6400000 in
theorem iRawNo (g : Bool) (k : Nat) (n : Int) (b : Nat) (z : Int) (w : World) (h : SG w b z) (hk : k ≤ 60) (hr : rawR g (k : Int) n z = false) :
    Calls Try.prog 36 #[vF g (k : Int) n, .pointer (some ⟨b, 0, none⟩)] w fun e w' => ∃ (t : TypeId) (v : Value), e = .returned (.tuple #[.int .i64 0, .iface t v]) ∧ Below w.heap.size w w' := by
  have hl := h.lt
  have X := Box3.made w (.bool g) (.int .i64 k) (.int .i64 n) 25
  have B := below1 w (.cells #[.bool g, .int .i64 k, .int .i64 n] 25)
  have Z := h.below B hl
  have kS := sSmallS b z _ Z
  obtain ⟨v, hv⟩ : ∃ v, (if nbits z.natAbs ≤ 63 then z else 0) = v := ⟨_, rfl⟩
  obtain ⟨o, ho⟩ : ∃ o, decide (nbits z.natAbs ≤ 63) = o := ⟨_, rfl⟩
  rw [hv, ho] at kS
  have kR : o = true → ∀ W, Calls Try.prog 49 #[vF g (k : Int) n, .int .i64 v] W fun e w' => e = .returned (.bool false) ∧ Below W.heap.size W w' := fun h W => by
    subst h
    have hb := of_decide_eq_true ho
    rw [if_pos hb] at hv
    subst hv
    have := iRawOk g k n z W
    rwa [hr] at this
  have p0 := two_pow_pos k
  have p1 := two_pow_le hk
  have p2 : (2 : Int) ^ k ≤ 1152921504606846976 := by omega
  have kL := fun W (h : SG W b z) => iLow b z W h
  have wr1 : IntKind.u64.wrap ((2 : Int) ^ k) = (2 : Int) ^ k := by rw [IntKind.wrap_u64]; omega
  have wr2 : IntKind.u64.wrap ((2 : Int) ^ k - 1) = (2 : Int) ^ k - 1 := by rw [IntKind.wrap_u64]; omega
  have HKR : Hid (o = true → ∀ W, Calls Try.prog 49 #[vF g (k : Int) n, .int .i64 v] W fun e w' => e = .returned (.bool false) ∧ Below W.heap.size W w') := kR
  clear hv ho hr p1 kR
  go_enter Try.func36, Try.ntmps36
  go_wp2_with fail
  generalize w.alloc (.cells #[.bool g, .int .i64 k, .int .i64 n] 25) = w0 at *
  refine kS.mono ?_
  rintro e w1 ⟨rfl, b1⟩
  replace Z := Z.below b1 Z.lt
  replace X := X.below b1 (Nat.le_refl _)
  replace B := B.trans (b1.mono B.size)
  clear kS b1
  have d0 := X.c0
  have d1 := X.c1
  have d2 := X.c2
  cases o
  · go_wp2_with fail
    clear d0 d1 d2
    have bd := (Below.refl w1.heap.size w1).drew
    replace Z := Z.below bd Z.lt
    replace X := X.below bd (Nat.le_refl _)
    replace B := B.trans (bd.mono B.size)
    refine wp_region_held_drew (S := fun W => W.cell? ⟨w.heap.size, 0, none⟩ = some (.bool g) ∧ W.cell? ⟨w.heap.size, 1, none⟩ = some (.int .i64 k) ∧ W.cell? ⟨w.heap.size, 2, none⟩ = some (.int .i64 n)) (by kernel_rfl) ⟨X.c0, X.c1, X.c2⟩ ?_
    intro hHeld
    generalize w1.drew = w3 at *
    clear bd
    refine takeH 0 (some 21) (.pointer (some ⟨b, 0, none⟩)) rfl rfl (by kernel_rfl) (by kernel_rfl) (by kernel_rfl) (fun _ _ _ h => h) (yg_move rfl (.tmp 1) rfl _ rfl) (by assumption) ?_
    simp only [Act.put, List.setIfInBounds_toArray, List.set_cons_zero, List.set_cons_succ]
    refine takeH 2 (some 23) (.pointer (some ⟨w.heap.size, 1, none⟩)) rfl rfl (by kernel_rfl) (by kernel_rfl) (by kernel_rfl) (fun _ _ _ h => h) (Or.inl ⟨rfl, fun W hW => by obtain _ := hW; go_simp⟩) (by assumption) ?_
    simp only [Act.put, List.setIfInBounds_toArray, List.set_cons_zero, List.set_cons_succ]
    refine takeH 3 (some 24) (.int .i64 k) rfl rfl (by kernel_rfl) (by kernel_rfl) (by kernel_rfl) (fun _ _ _ h => h) (Or.inl ⟨rfl, fun W hW => by obtain ⟨_a, _b, _c⟩ := hW; go_simp⟩) (by assumption) ?_
    simp only [Act.put, List.setIfInBounds_toArray, List.set_cons_zero, List.set_cons_succ]
    refine takeH 4 (some 25) (.int .u64 ((2 : Int) ^ k)) rfl rfl (by kernel_rfl) (by kernel_rfl) (by kernel_rfl) (fun _ _ _ h => h) (Or.inl ⟨rfl, fun W hW => by obtain _ := hW; go_simp⟩) (by assumption) ?_
    simp only [Act.put, List.setIfInBounds_toArray, List.set_cons_zero, List.set_cons_succ]
    refine takeH 5 (some 26) (.int .u64 ((2 : Int) ^ k - 1)) rfl rfl (by kernel_rfl) (by kernel_rfl) (by kernel_rfl) (fun _ _ _ h => h) (Or.inl ⟨rfl, fun W hW => by obtain _ := hW; go_simp⟩) (by assumption) ?_
    simp only [Act.put, List.setIfInBounds_toArray, List.set_cons_zero, List.set_cons_succ]
    refine oneH 1 rfl (by kernel_rfl) (fun K' hK => ?_)
    go_simp
    refine (kL _ Z).mono ?_
    rintro e w4 ⟨x, rfl, b4⟩
    replace Z := Z.below b4 Z.lt
    replace X := X.below b4 (Nat.le_refl _)
    replace B := B.trans (b4.mono B.size)
    refine hK _ _ ⟨X.c0, X.c1, X.c2⟩ ?_
    clear hK hHeld b4
    have hHeld := (⟨X.c0, X.c1, X.c2⟩ : _ ∧ _ ∧ _)
    have hA := and_u64 x k hk
    refine takeH 6 (some 27) (.int .u64 (bits .and .u64 x ((2 : Int) ^ k - 1))) rfl rfl (by kernel_rfl) (by kernel_rfl) (by kernel_rfl) (fun _ _ _ h => h) (Or.inl ⟨rfl, fun W hW => by obtain _ := hW; go_simp⟩) (by assumption) ?_
    simp only [Act.put, List.setIfInBounds_toArray, List.set_cons_zero, List.set_cons_succ]
    obtain ⟨y, hy⟩ : ∃ y, bits .and .u64 x ((2 : Int) ^ k - 1) = y := ⟨_, rfl⟩
    rw [hy] at hA
    rw [hy]
    clear hy
    obtain ⟨y0, y1⟩ := hA
    have wr3 : IntKind.i64.wrap y = y := by rw [IntKind.wrap_i64]; omega
    refine takeH 7 (some 28) (.int .i64 y) rfl rfl (by kernel_rfl) (by kernel_rfl) (by kernel_rfl) (fun _ _ _ h => h) (Or.inl ⟨rfl, fun W hW => by obtain _ := hW; go_simp⟩) (by assumption) ?_
    simp only [Act.put, List.setIfInBounds_toArray, List.set_cons_zero, List.set_cons_succ]
    refine takeH 8 (some 8) (.int .i64 y) rfl rfl (by kernel_rfl) (by kernel_rfl) (by kernel_rfl) (fun _ _ _ h => h) (yg_assign rfl (.tmp 28) rfl _ rfl) (by assumption) ?_
    simp only [Act.put, List.setIfInBounds_toArray, List.set_cons_zero, List.set_cons_succ]
    refine wpAnyH_done (by kernel_rfl) ?_ _
    clear hHeld
    have kQ := fun W => iRawOfM g k n y W hk y0 y1
    generalize (if mostR g (k : Int) n < y then y - (2 : Int) ^ k else y) = u at *
    go_wp2_with fail
    have bd := (Below.refl w4.heap.size w4).drew
    replace Z := Z.below bd Z.lt
    replace X := X.below bd (Nat.le_refl _)
    replace B := B.trans (bd.mono B.size)
    have hz := Z.sign
    generalize decide (z < 0) = sg at *
    refine wp_region_held_drew (S := fun W => W.cell? ⟨w.heap.size, 0, none⟩ = some (.bool g) ∧ W.cell? ⟨w.heap.size, 1, none⟩ = some (.int .i64 k) ∧ W.cell? ⟨w.heap.size, 2, none⟩ = some (.int .i64 n) ∧ W.cell? ⟨b, 0, none⟩ = some (.bool sg)) (by kernel_rfl) ⟨X.c0, X.c1, X.c2, hz⟩ ?_
    intro hHeld
    generalize w4.drew = w5 at *
    clear bd
    have hbl := Z.lt
    refine takeH 0 (some 29) (.pointer (some ⟨b, 0, none⟩)) rfl rfl (by kernel_rfl) (by kernel_rfl) (by kernel_rfl) (fun _ _ _ h => h) (yg_move rfl (.tmp 1) rfl _ rfl) (by assumption) ?_
    simp only [Act.put, List.setIfInBounds_toArray, List.set_cons_zero, List.set_cons_succ]
    refine takeH 1 (some 30) (.pointer (some ⟨b, 0, none⟩)) rfl rfl (by kernel_rfl) (by kernel_rfl) (by kernel_rfl) (fun _ _ _ h => h) (Or.inl ⟨rfl, fun W hW => by obtain _ := hW; go_simp⟩) (by assumption) ?_
    simp only [Act.put, List.setIfInBounds_toArray, List.set_cons_zero, List.set_cons_succ]
    refine takeH 2 (some 31) (.pointer (some ⟨b, 0, none⟩)) rfl rfl (by kernel_rfl) (by kernel_rfl) (by kernel_rfl) (fun _ _ _ h => h) (Or.inl ⟨rfl, fun W hW => by obtain _ := hW; go_simp⟩) (by assumption) ?_
    simp only [Act.put, List.setIfInBounds_toArray, List.set_cons_zero, List.set_cons_succ]
    refine takeH 3 (some 32) (.bool sg) rfl rfl (by kernel_rfl) (by kernel_rfl) (by kernel_rfl) (fun _ _ _ h => h) (Or.inl ⟨rfl, fun W hW => by obtain ⟨_, _, _, _a⟩ := hW; go_simp⟩) (by assumption) ?_
    simp only [Act.put, List.setIfInBounds_toArray, List.set_cons_zero, List.set_cons_succ]
    refine takeH 4 (some 33) (.agg #[.bool g, .int .i64 k, .int .i64 n]) rfl rfl (by kernel_rfl) (by kernel_rfl) (by kernel_rfl) (fun _ _ _ h => h) (Or.inl ⟨rfl, fun W hW => by obtain ⟨_a, _b, _c, _⟩ := hW; go_simp⟩) (by assumption) ?_
    simp only [Act.put, List.setIfInBounds_toArray, List.set_cons_zero, List.set_cons_succ]
    refine takeH 5 (some 34) (.int .i64 y) rfl rfl (by kernel_rfl) (by kernel_rfl) (by kernel_rfl) (fun _ _ _ h => h) (yg_move rfl (.tmp 8) rfl _ rfl) (by assumption) ?_
    simp only [Act.put, List.setIfInBounds_toArray, List.set_cons_zero, List.set_cons_succ]
    refine oneH 6 rfl (by kernel_rfl) (fun K' hK => ?_)
    go_simp
    refine (kQ _).mono ?_
    rintro e w6 ⟨rfl, b6⟩
    have hz6 := (b6.cell (p := ⟨b, 0, none⟩) hbl).trans hz
    replace X := X.below b6 (Nat.le_refl _)
    replace B := B.trans (b6.mono B.size)
    refine hK _ _ ⟨X.c0, X.c1, X.c2, hz6⟩ ?_
    clear hK hHeld
    have hHeld := (⟨X.c0, X.c1, X.c2, hz6⟩ : _ ∧ _ ∧ _ ∧ _)
    refine takeH 7 (some 36) (.agg #[.bool sg, .int .i64 u]) rfl rfl (by kernel_rfl) (by kernel_rfl) (by kernel_rfl) (fun _ _ _ h => h) (Or.inl ⟨rfl, fun W hW => by obtain _ := hW; go_simp⟩) (by assumption) ?_
    simp only [Act.put, List.setIfInBounds_toArray, List.set_cons_zero, List.set_cons_succ]
    refine takeH 10 (some 4) (.int .i64 0) rfl rfl (by kernel_rfl) (by kernel_rfl) (by kernel_rfl) (fun _ _ _ h => h) (yg_assign rfl (.const (.int .i64 0)) rfl _ rfl) (by assumption) ?_
    simp only [Act.put, List.setIfInBounds_toArray, List.set_cons_zero, List.set_cons_succ]
    have bz := below1 w6 (.cells #[.bool sg, .int .i64 u] 84)
    have hb6 : b < w6.heap.size := Nat.lt_of_lt_of_le hbl b6.size
    have hz7 := (bz.cell (p := ⟨b, 0, none⟩) hb6).trans hz6
    replace X := X.below bz (Nat.le_refl _)
    replace B := B.trans (bz.mono B.size)
    refine oneH 8 rfl (by kernel_rfl) (fun K' hK => ?_)
    go_simp
    refine hK _ _ ⟨X.c0, X.c1, X.c2, hz7⟩ ?_
    clear hK hHeld
    have hHeld := (⟨X.c0, X.c1, X.c2, hz7⟩ : _ ∧ _ ∧ _ ∧ _)
    refine takeH 9 (some 38) (.iface 82 (.pointer (some ⟨w6.heap.size, 0, none⟩))) rfl rfl (by kernel_rfl) (by kernel_rfl) (by kernel_rfl) (fun _ _ _ h => h) (Or.inl ⟨rfl, fun W hW => by obtain _ := hW; go_simp⟩) (by assumption) ?_
    simp only [Act.put, List.setIfInBounds_toArray, List.set_cons_zero, List.set_cons_succ]
    refine takeH 11 (some 5) (.iface 82 (.pointer (some ⟨w6.heap.size, 0, none⟩))) rfl rfl (by kernel_rfl) (by kernel_rfl) (by kernel_rfl) (fun _ _ _ h => h) (yg_assign rfl (.tmp 38) rfl _ rfl) (by assumption) ?_
    simp only [Act.put, List.setIfInBounds_toArray, List.set_cons_zero, List.set_cons_succ]
    refine wpAnyH_done (by kernel_rfl) ?_ _
    go_wp2
    go_ret2
    exact ⟨_, _, rfl, B⟩
  · have kR := HKR.out rfl
    go_wp2_with fail
    refine (kR _).mono ?_
    rintro e w2 ⟨rfl, b2⟩
    replace Z := Z.below b2 Z.lt
    replace X := X.below b2 (Nat.le_refl _)
    replace B := B.trans (b2.mono B.size)
    go_wp2_with fail
    clear d0 d1 d2
    have bd := (Below.refl w2.heap.size w2).drew
    replace Z := Z.below bd Z.lt
    replace X := X.below bd (Nat.le_refl _)
    replace B := B.trans (bd.mono B.size)
    refine wp_region_held_drew (S := fun W => W.cell? ⟨w.heap.size, 0, none⟩ = some (.bool g) ∧ W.cell? ⟨w.heap.size, 1, none⟩ = some (.int .i64 k) ∧ W.cell? ⟨w.heap.size, 2, none⟩ = some (.int .i64 n)) (by kernel_rfl) ⟨X.c0, X.c1, X.c2⟩ ?_
    intro hHeld
    generalize w2.drew = w3 at *
    clear bd
    refine takeH 0 (some 21) (.pointer (some ⟨b, 0, none⟩)) rfl rfl (by kernel_rfl) (by kernel_rfl) (by kernel_rfl) (fun _ _ _ h => h) (yg_move rfl (.tmp 1) rfl _ rfl) (by assumption) ?_
    simp only [Act.put, List.setIfInBounds_toArray, List.set_cons_zero, List.set_cons_succ]
    refine takeH 2 (some 23) (.pointer (some ⟨w.heap.size, 1, none⟩)) rfl rfl (by kernel_rfl) (by kernel_rfl) (by kernel_rfl) (fun _ _ _ h => h) (Or.inl ⟨rfl, fun W hW => by obtain _ := hW; go_simp⟩) (by assumption) ?_
    simp only [Act.put, List.setIfInBounds_toArray, List.set_cons_zero, List.set_cons_succ]
    refine takeH 3 (some 24) (.int .i64 k) rfl rfl (by kernel_rfl) (by kernel_rfl) (by kernel_rfl) (fun _ _ _ h => h) (Or.inl ⟨rfl, fun W hW => by obtain ⟨_a, _b, _c⟩ := hW; go_simp⟩) (by assumption) ?_
    simp only [Act.put, List.setIfInBounds_toArray, List.set_cons_zero, List.set_cons_succ]
    refine takeH 4 (some 25) (.int .u64 ((2 : Int) ^ k)) rfl rfl (by kernel_rfl) (by kernel_rfl) (by kernel_rfl) (fun _ _ _ h => h) (Or.inl ⟨rfl, fun W hW => by obtain _ := hW; go_simp⟩) (by assumption) ?_
    simp only [Act.put, List.setIfInBounds_toArray, List.set_cons_zero, List.set_cons_succ]
    refine takeH 5 (some 26) (.int .u64 ((2 : Int) ^ k - 1)) rfl rfl (by kernel_rfl) (by kernel_rfl) (by kernel_rfl) (fun _ _ _ h => h) (Or.inl ⟨rfl, fun W hW => by obtain _ := hW; go_simp⟩) (by assumption) ?_
    simp only [Act.put, List.setIfInBounds_toArray, List.set_cons_zero, List.set_cons_succ]
    refine oneH 1 rfl (by kernel_rfl) (fun K' hK => ?_)
    go_simp
    refine (kL _ Z).mono ?_
    rintro e w4 ⟨x, rfl, b4⟩
    replace Z := Z.below b4 Z.lt
    replace X := X.below b4 (Nat.le_refl _)
    replace B := B.trans (b4.mono B.size)
    refine hK _ _ ⟨X.c0, X.c1, X.c2⟩ ?_
    clear hK hHeld b4
    have hHeld := (⟨X.c0, X.c1, X.c2⟩ : _ ∧ _ ∧ _)
    have hA := and_u64 x k hk
    refine takeH 6 (some 27) (.int .u64 (bits .and .u64 x ((2 : Int) ^ k - 1))) rfl rfl (by kernel_rfl) (by kernel_rfl) (by kernel_rfl) (fun _ _ _ h => h) (Or.inl ⟨rfl, fun W hW => by obtain _ := hW; go_simp⟩) (by assumption) ?_
    simp only [Act.put, List.setIfInBounds_toArray, List.set_cons_zero, List.set_cons_succ]
    obtain ⟨y, hy⟩ : ∃ y, bits .and .u64 x ((2 : Int) ^ k - 1) = y := ⟨_, rfl⟩
    rw [hy] at hA
    rw [hy]
    clear hy
    obtain ⟨y0, y1⟩ := hA
    have wr3 : IntKind.i64.wrap y = y := by rw [IntKind.wrap_i64]; omega
    refine takeH 7 (some 28) (.int .i64 y) rfl rfl (by kernel_rfl) (by kernel_rfl) (by kernel_rfl) (fun _ _ _ h => h) (Or.inl ⟨rfl, fun W hW => by obtain _ := hW; go_simp⟩) (by assumption) ?_
    simp only [Act.put, List.setIfInBounds_toArray, List.set_cons_zero, List.set_cons_succ]
    refine takeH 8 (some 8) (.int .i64 y) rfl rfl (by kernel_rfl) (by kernel_rfl) (by kernel_rfl) (fun _ _ _ h => h) (yg_assign rfl (.tmp 28) rfl _ rfl) (by assumption) ?_
    simp only [Act.put, List.setIfInBounds_toArray, List.set_cons_zero, List.set_cons_succ]
    refine wpAnyH_done (by kernel_rfl) ?_ _
    clear hHeld
    have kQ := fun W => iRawOfM g k n y W hk y0 y1
    generalize (if mostR g (k : Int) n < y then y - (2 : Int) ^ k else y) = u at *
    go_wp2_with fail
    have bd := (Below.refl w4.heap.size w4).drew
    replace Z := Z.below bd Z.lt
    replace X := X.below bd (Nat.le_refl _)
    replace B := B.trans (bd.mono B.size)
    have hz := Z.sign
    generalize decide (z < 0) = sg at *
    refine wp_region_held_drew (S := fun W => W.cell? ⟨w.heap.size, 0, none⟩ = some (.bool g) ∧ W.cell? ⟨w.heap.size, 1, none⟩ = some (.int .i64 k) ∧ W.cell? ⟨w.heap.size, 2, none⟩ = some (.int .i64 n) ∧ W.cell? ⟨b, 0, none⟩ = some (.bool sg)) (by kernel_rfl) ⟨X.c0, X.c1, X.c2, hz⟩ ?_
    intro hHeld
    generalize w4.drew = w5 at *
    clear bd
    have hbl := Z.lt
    refine takeH 0 (some 29) (.pointer (some ⟨b, 0, none⟩)) rfl rfl (by kernel_rfl) (by kernel_rfl) (by kernel_rfl) (fun _ _ _ h => h) (yg_move rfl (.tmp 1) rfl _ rfl) (by assumption) ?_
    simp only [Act.put, List.setIfInBounds_toArray, List.set_cons_zero, List.set_cons_succ]
    refine takeH 1 (some 30) (.pointer (some ⟨b, 0, none⟩)) rfl rfl (by kernel_rfl) (by kernel_rfl) (by kernel_rfl) (fun _ _ _ h => h) (Or.inl ⟨rfl, fun W hW => by obtain _ := hW; go_simp⟩) (by assumption) ?_
    simp only [Act.put, List.setIfInBounds_toArray, List.set_cons_zero, List.set_cons_succ]
    refine takeH 2 (some 31) (.pointer (some ⟨b, 0, none⟩)) rfl rfl (by kernel_rfl) (by kernel_rfl) (by kernel_rfl) (fun _ _ _ h => h) (Or.inl ⟨rfl, fun W hW => by obtain _ := hW; go_simp⟩) (by assumption) ?_
    simp only [Act.put, List.setIfInBounds_toArray, List.set_cons_zero, List.set_cons_succ]
    refine takeH 3 (some 32) (.bool sg) rfl rfl (by kernel_rfl) (by kernel_rfl) (by kernel_rfl) (fun _ _ _ h => h) (Or.inl ⟨rfl, fun W hW => by obtain ⟨_, _, _, _a⟩ := hW; go_simp⟩) (by assumption) ?_
    simp only [Act.put, List.setIfInBounds_toArray, List.set_cons_zero, List.set_cons_succ]
    refine takeH 4 (some 33) (.agg #[.bool g, .int .i64 k, .int .i64 n]) rfl rfl (by kernel_rfl) (by kernel_rfl) (by kernel_rfl) (fun _ _ _ h => h) (Or.inl ⟨rfl, fun W hW => by obtain ⟨_a, _b, _c, _⟩ := hW; go_simp⟩) (by assumption) ?_
    simp only [Act.put, List.setIfInBounds_toArray, List.set_cons_zero, List.set_cons_succ]
    refine takeH 5 (some 34) (.int .i64 y) rfl rfl (by kernel_rfl) (by kernel_rfl) (by kernel_rfl) (fun _ _ _ h => h) (yg_move rfl (.tmp 8) rfl _ rfl) (by assumption) ?_
    simp only [Act.put, List.setIfInBounds_toArray, List.set_cons_zero, List.set_cons_succ]
    refine oneH 6 rfl (by kernel_rfl) (fun K' hK => ?_)
    go_simp
    refine (kQ _).mono ?_
    rintro e w6 ⟨rfl, b6⟩
    have hz6 := (b6.cell (p := ⟨b, 0, none⟩) hbl).trans hz
    replace X := X.below b6 (Nat.le_refl _)
    replace B := B.trans (b6.mono B.size)
    refine hK _ _ ⟨X.c0, X.c1, X.c2, hz6⟩ ?_
    clear hK hHeld
    have hHeld := (⟨X.c0, X.c1, X.c2, hz6⟩ : _ ∧ _ ∧ _ ∧ _)
    refine takeH 7 (some 36) (.agg #[.bool sg, .int .i64 u]) rfl rfl (by kernel_rfl) (by kernel_rfl) (by kernel_rfl) (fun _ _ _ h => h) (Or.inl ⟨rfl, fun W hW => by obtain _ := hW; go_simp⟩) (by assumption) ?_
    simp only [Act.put, List.setIfInBounds_toArray, List.set_cons_zero, List.set_cons_succ]
    refine takeH 10 (some 4) (.int .i64 0) rfl rfl (by kernel_rfl) (by kernel_rfl) (by kernel_rfl) (fun _ _ _ h => h) (yg_assign rfl (.const (.int .i64 0)) rfl _ rfl) (by assumption) ?_
    simp only [Act.put, List.setIfInBounds_toArray, List.set_cons_zero, List.set_cons_succ]
    have bz := below1 w6 (.cells #[.bool sg, .int .i64 u] 84)
    have hb6 : b < w6.heap.size := Nat.lt_of_lt_of_le hbl b6.size
    have hz7 := (bz.cell (p := ⟨b, 0, none⟩) hb6).trans hz6
    replace X := X.below bz (Nat.le_refl _)
    replace B := B.trans (bz.mono B.size)
    refine oneH 8 rfl (by kernel_rfl) (fun K' hK => ?_)
    go_simp
    refine hK _ _ ⟨X.c0, X.c1, X.c2, hz7⟩ ?_
    clear hK hHeld
    have hHeld := (⟨X.c0, X.c1, X.c2, hz7⟩ : _ ∧ _ ∧ _ ∧ _)
    refine takeH 9 (some 38) (.iface 82 (.pointer (some ⟨w6.heap.size, 0, none⟩))) rfl rfl (by kernel_rfl) (by kernel_rfl) (by kernel_rfl) (fun _ _ _ h => h) (Or.inl ⟨rfl, fun W hW => by obtain _ := hW; go_simp⟩) (by assumption) ?_
    simp only [Act.put, List.setIfInBounds_toArray, List.set_cons_zero, List.set_cons_succ]
    refine takeH 11 (some 5) (.iface 82 (.pointer (some ⟨w6.heap.size, 0, none⟩))) rfl rfl (by kernel_rfl) (by kernel_rfl) (by kernel_rfl) (fun _ _ _ h => h) (yg_assign rfl (.tmp 38) rfl _ rfl) (by assumption) ?_
    simp only [Act.put, List.setIfInBounds_toArray, List.set_cons_zero, List.set_cons_succ]
    refine wpAnyH_done (by kernel_rfl) ?_ _
    go_wp2
    go_ret2
    exact ⟨_, _, rfl, B⟩

end Go.Proofs.Ytmafljcolniddaa
