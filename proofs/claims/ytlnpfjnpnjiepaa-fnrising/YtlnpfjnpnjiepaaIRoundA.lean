/- The program's RoundAt, by its contract. -/
import Derived.Test.YtlnpfjnpnjiepaaIRoundF
namespace Go.Proofs.Ytlnpfjnpnjiepaa
open Go.RowKit
set_option linter.unusedSimpArgs false

set_option maxRecDepth 20000 in
set_option maxHeartbeats 6400000 in
theorem iRoundAt (va : Value) (a : Wh) (k mode : Int) (w : World) (ha : rowW w va a) (hla : a.2.length ≤ 1048576) :
    Calls Try.prog 30 #[va, .int .i64 k, .int .i64 mode] w fun e w' => ∃ v, e = .returned (.tuple #[v, .bool (ratR a k mode).2]) ∧ ownsW w' w.heap.size v (ratR a k mode).1 ∧ Below w.heap.size w w' := by
  by_cases hok : okW a = true
  · have kT := fun W (h : Below w.heap.size w W) => sFromYes va a W (ha.below h (Nat.le_refl _)) hla hok
    have l1 := valW_len hok
    by_cases hk1 : k < 0
    · have q1 : decide (k < 0) = true := decide_eq_true hk1
      have HR : Hid (ratR a k mode = ((false, []), false)) := by show _ = _; unfold ratR; rw [if_neg (by omega)]
      obtain ⟨rr, hr⟩ : ∃ r, ratR a k mode = r := ⟨_, rfl⟩
      rw [hr] at HR
      rw [hr]
      clear hr
      obtain ⟨s, rfl, hs⟩ := ha
      obtain ⟨ad, cap, rfl, -⟩ := id hs
      generalize a.1 = g0 at *
      generalize a.2.length = len at *
      have B0 := below2 w (.cells #[.bool g0, .slice ad len cap] 26) (.cells #[.bool false, .slice none 0 0] 26)
      have s2 : (w.alloc (.cells #[.bool g0, .slice ad len cap] 26)).heap.size = w.heap.size + 1 := by simp
      have R0 := BoxW.made (w.alloc (.cells #[.bool g0, .slice ad len cap] 26)) (.bool false) (.slice none 0 0) 26
      rw [s2] at R0
      clear s2 hs
      go_enter Try.func30, Try.ntmps30
      go_wp2_with fail
      refine (kT _ B0).mono ?_
      generalize (w.alloc (.cells #[.bool g0, .slice ad len cap] 26)).alloc (.cells #[.bool false, .slice none 0 0] 26) = w0 at *
      rintro e w1 ⟨p, rfl, hp, sp, b1⟩
      have R1 := R0.below b1 (Nat.le_refl _)
      have B1 := B0.trans (b1.mono B0.size)
      have c0 := R1.c0
      have c1' := R1.c1
      have f0 := R1.f0
      have f1 := R1.f1
      have HB : Hid (Below w.heap.size w ((w1.setCell ⟨w.heap.size + 1, 0, none⟩ (.bool false)).setCell ⟨w.heap.size + 1, 1, none⟩ (.slice none 0 0))) := (B1.setCell (p := ⟨w.heap.size + 1, 0, none⟩) (by show w.heap.size ≤ w.heap.size + 1; omega) (.bool false)).setCell (p := ⟨w.heap.size + 1, 1, none⟩) (by show w.heap.size ≤ w.heap.size + 1; omega) (.slice none 0 0)
      clear R0 B0 b1 R1 B1 kT sp
      go_wp2
      (try simp only [Exit.inBlock, Exit.then])
      refine bodyPost_ret (v := .tuple #[.agg #[.bool false, .slice none 0 0], .bool false]) ?_ rfl ⟨_, by rw [HR.out], by rw [HR.out]; exact ⟨_, rfl, World.ownsRow_nil _ _ _ _⟩, HB.out⟩
      rw [results_cell_tmp rfl]
      go_simp
    have q1 : decide (k < 0) = false := decide_eq_false hk1
    by_cases hk2 : 600 < k
    · have q2 : decide (600 < k) = true := decide_eq_true hk2
      have HR : Hid (ratR a k mode = ((false, []), false)) := by show _ = _; unfold ratR; rw [if_neg (by omega)]
      obtain ⟨rr, hr⟩ : ∃ r, ratR a k mode = r := ⟨_, rfl⟩
      rw [hr] at HR
      rw [hr]
      clear hr
      obtain ⟨s, rfl, hs⟩ := ha
      obtain ⟨ad, cap, rfl, -⟩ := id hs
      generalize a.1 = g0 at *
      generalize a.2.length = len at *
      have B0 := below2 w (.cells #[.bool g0, .slice ad len cap] 26) (.cells #[.bool false, .slice none 0 0] 26)
      have s2 : (w.alloc (.cells #[.bool g0, .slice ad len cap] 26)).heap.size = w.heap.size + 1 := by simp
      have R0 := BoxW.made (w.alloc (.cells #[.bool g0, .slice ad len cap] 26)) (.bool false) (.slice none 0 0) 26
      rw [s2] at R0
      clear s2 hs
      go_enter Try.func30, Try.ntmps30
      go_wp2_with fail
      refine (kT _ B0).mono ?_
      generalize (w.alloc (.cells #[.bool g0, .slice ad len cap] 26)).alloc (.cells #[.bool false, .slice none 0 0] 26) = w0 at *
      rintro e w1 ⟨p, rfl, hp, sp, b1⟩
      have R1 := R0.below b1 (Nat.le_refl _)
      have B1 := B0.trans (b1.mono B0.size)
      have c0 := R1.c0
      have c1' := R1.c1
      have f0 := R1.f0
      have f1 := R1.f1
      have HB : Hid (Below w.heap.size w ((w1.setCell ⟨w.heap.size + 1, 0, none⟩ (.bool false)).setCell ⟨w.heap.size + 1, 1, none⟩ (.slice none 0 0))) := (B1.setCell (p := ⟨w.heap.size + 1, 0, none⟩) (by show w.heap.size ≤ w.heap.size + 1; omega) (.bool false)).setCell (p := ⟨w.heap.size + 1, 1, none⟩) (by show w.heap.size ≤ w.heap.size + 1; omega) (.slice none 0 0)
      clear R0 B0 b1 R1 B1 kT sp
      go_wp2
      (try simp only [Exit.inBlock, Exit.then])
      refine bodyPost_ret (v := .tuple #[.agg #[.bool false, .slice none 0 0], .bool false]) ?_ rfl ⟨_, by rw [HR.out], by rw [HR.out]; exact ⟨_, rfl, World.ownsRow_nil _ _ _ _⟩, HB.out⟩
      rw [results_cell_tmp rfl]
      go_simp
    have q2 : decide (600 < k) = false := decide_eq_false hk2
    by_cases hm : 0 ≤ mode ∧ mode ≤ 4
    · have kM := fun W => modeOk_yes mode W hm.1 hm.2
      have HR : Hid (ratR a k mode = fitW (fracI (valW a) (2 ^ k.toNat) mode)) := by show _ = _; unfold ratR; rw [if_pos ⟨hok, by omega, by omega, hm.1, hm.2⟩]
      obtain ⟨j, rfl⟩ : ∃ j : Nat, k = (j : Int) := ⟨k.toNat, by omega⟩
      rw [Int.toNat_natCast] at HR
      have kF := fun p W (h1 : GA W p 1 (valW a).natAbs) => bAt p 1 (valW a).natAbs j W (by omega) (by omega) h1
      have hfr := frac_round (valW a) (2 ^ j) (Nat.pow_pos (by omega)) mode hm.1 hm.2
      have e2 : ((2 ^ j : Nat) : Int) = (2 : Int) ^ j := by simp
      have hcj := cmpJ_nat ((valW a).natAbs % 2 ^ j * 2) (2 ^ j)
      rw [hcj] at hfr
      rw [e2] at hfr
      have hlq : (limbs ((valW a).natAbs / 2 ^ j)).length ≤ 97 := Nat.le_trans (limbs_mono (Nat.div_le_self _ _)) (by omega)
      have kR := fun W => bRounded ((valW a).natAbs / 2 ^ j) (decide ((valW a).natAbs % 2 ^ j = 0)) (cmpI ((valW a).natAbs % 2 ^ j * 2) (2 ^ j)) mode (decide (valW a < 0)) W hlq hm.1 hm.2
      rw [← hfr] at kR
      have kW := fun b' W h => sWhole b' (fracI (valW a) (2 ^ j) mode) W h
      clear hfr hcj hok hm l1 hlq e2
      obtain ⟨rr, hr⟩ : ∃ r, ratR a (j : Int) mode = r := ⟨_, rfl⟩
      rw [hr] at HR
      rw [hr]
      clear hr
      generalize fitW (fracI (valW a) (2 ^ j) mode) = fw at *
      generalize fracI (valW a) (2 ^ j) mode = z at *
      generalize cmpI ((valW a).natAbs % 2 ^ j * 2) (2 ^ j) = cm at *
      generalize decide ((valW a).natAbs % 2 ^ j = 0) = wh at *
      generalize (valW a).natAbs / 2 ^ j = qq at *
      obtain ⟨s, rfl, hs⟩ := ha
      obtain ⟨ad, cap, rfl, -⟩ := id hs
      generalize a.1 = g0 at *
      generalize a.2.length = len at *
      have B0 := below2 w (.cells #[.bool g0, .slice ad len cap] 26) (.cells #[.bool false, .slice none 0 0] 26)
      have s2 : (w.alloc (.cells #[.bool g0, .slice ad len cap] 26)).heap.size = w.heap.size + 1 := by simp
      have R0 := BoxW.made (w.alloc (.cells #[.bool g0, .slice ad len cap] 26)) (.bool false) (.slice none 0 0) 26
      rw [s2] at R0
      clear s2 hs
      go_enter Try.func30, Try.ntmps30
      go_wp2_with fail
      refine (kT _ B0).mono ?_
      generalize (w.alloc (.cells #[.bool g0, .slice ad len cap] 26)).alloc (.cells #[.bool false, .slice none 0 0] 26) = w0 at *
      rintro e w1 ⟨p, rfl, hp, sp, b1⟩
      have R1 := R0.below b1 (Nat.le_refl _)
      have B1 := B0.trans (b1.mono B0.size)
      have HP := sp.sgg
      generalize decide (valW a < 0) = g at *
      generalize (valW a).natAbs = m at *
      have hRlo := R0.hi
      clear sp kT
      go_wp2_with (first | (go_at_call 61; refine (kM _).mono ?_; rintro e w1 ⟨rfl, rfl⟩))
      refine wp_region_held_drew (S := fun W => SGG W p g m) (by kernel_rfl) HP.drew ?_
      intro hHeld
      refine takeH 0 (some 31) (.pointer (some ⟨p, 0, none⟩)) rfl rfl (by kernel_rfl) (by kernel_rfl) (by kernel_rfl) (fun _ _ _ h => h) (yg_move rfl (.tmp 8) rfl _ rfl) (by assumption) ?_
      simp only [Act.put, List.setIfInBounds_toArray, List.set_cons_zero, List.set_cons_succ]
      refine takeH 1 (some 32) (.pointer (some ⟨p, 0, none⟩)) rfl rfl (by kernel_rfl) (by kernel_rfl) (by kernel_rfl) (fun _ _ _ h => h) (Or.inl ⟨rfl, fun W hW => by obtain _ := hW; go_simp⟩) (by assumption) ?_
      simp only [Act.put, List.setIfInBounds_toArray, List.set_cons_zero, List.set_cons_succ]
      refine takeH 2 (some 33) (.pointer (some ⟨p, 1, none⟩)) rfl rfl (by kernel_rfl) (by kernel_rfl) (by kernel_rfl) (fun _ _ _ h => h) (Or.inl ⟨rfl, fun W hW => by obtain _ := hW; go_simp⟩) (by assumption) ?_
      simp only [Act.put, List.setIfInBounds_toArray, List.set_cons_zero, List.set_cons_succ]
      refine takeH 3 (some 34) (.int .i64 (j : Int)) rfl rfl (by kernel_rfl) (by kernel_rfl) (by kernel_rfl) (fun _ _ _ h => h) (yg_move rfl (.tmp 1) rfl _ rfl) (by assumption) ?_
      simp only [Act.put, List.setIfInBounds_toArray, List.set_cons_zero, List.set_cons_succ]
      refine takeH 5 (some 36) (.pointer (some ⟨p, 0, none⟩)) rfl rfl (by kernel_rfl) (by kernel_rfl) (by kernel_rfl) (fun _ _ _ h => h) (yg_move rfl (.tmp 8) rfl _ rfl) (by assumption) ?_
      simp only [Act.put, List.setIfInBounds_toArray, List.set_cons_zero, List.set_cons_succ]
      refine takeH 6 (some 37) (.pointer (some ⟨p, 0, none⟩)) rfl rfl (by kernel_rfl) (by kernel_rfl) (by kernel_rfl) (fun _ _ _ h => h) (Or.inl ⟨rfl, fun W hW => by obtain _ := hW; go_simp⟩) (by assumption) ?_
      simp only [Act.put, List.setIfInBounds_toArray, List.set_cons_zero, List.set_cons_succ]
      refine takeH 7 (some 38) (.pointer (some ⟨p, 0, none⟩)) rfl rfl (by kernel_rfl) (by kernel_rfl) (by kernel_rfl) (fun _ _ _ h => h) (Or.inl ⟨rfl, fun W hW => by obtain _ := hW; go_simp⟩) (by assumption) ?_
      simp only [Act.put, List.setIfInBounds_toArray, List.set_cons_zero, List.set_cons_succ]
      refine takeH 8 (some 39) (.bool g) rfl rfl (by kernel_rfl) (by kernel_rfl) (by kernel_rfl) (fun _ _ _ h => h) (Or.inl ⟨rfl, fun W hW => by obtain ⟨_c, _⟩ := hW; go_simp⟩) (by assumption) ?_
      simp only [Act.put, List.setIfInBounds_toArray, List.set_cons_zero, List.set_cons_succ]
      refine takeH 9 (some 40) (.int .i64 mode) rfl rfl (by kernel_rfl) (by kernel_rfl) (by kernel_rfl) (fun _ _ _ h => h) (yg_move rfl (.tmp 2) rfl _ rfl) (by assumption) ?_
      simp only [Act.put, List.setIfInBounds_toArray, List.set_cons_zero, List.set_cons_succ]
      refine oneH 4 rfl (by kernel_rfl) (fun K' hK => ?_)
      go_simp
      refine (kF p _ hHeld.2).mono ?_
      rintro e w4 ⟨rfl, b4⟩
      have H4 := hHeld.below b4 hHeld.lt
      refine hK _ _ H4 ?_
      clear hK
      refine oneH 10 rfl (by kernel_rfl) (fun K' hK => ?_)
      go_simp
      refine (kR _).mono ?_
      rintro e w5 ⟨c, rfl, hc, sc, b5⟩
      have H5 := H4.below b5 H4.lt
      refine hK _ _ H5 ?_
      clear hK
      refine oneH 11 rfl (by kernel_rfl) (fun K' hK => ?_)
      go_simp
      refine (kW c _ sc).mono ?_
      rintro e w6 ⟨v3, rfl, o3, b6⟩
      have H6 := H5.below b6 H5.lt
      refine hK _ _ H6 ?_
      clear hK
      have bd := (Below.refl w1.heap.size w1).drew
      have B4 := (B1.trans (bd.mono B1.size)).trans (b4.mono (B1.trans (bd.mono B1.size)).size)
      have R4 := (R1.below bd (Nat.le_refl _)).below b4 (Nat.le_refl _)
      have B5 := B4.trans (b5.mono B4.size)
      have R5 := R4.below b5 (Nat.le_refl _)
      have B6 := B5.trans (b6.mono B5.size)
      have R6 := R5.below b6 (Nat.le_refl _)
      obtain ⟨⟨g3, l3⟩, ok3⟩ := fw
      obtain ⟨s3, rfl, q3⟩ := o3
      obtain ⟨ad3, cap3, rfl, -⟩ := q3.row
      have hR := R5.hi
      have d0 := R6.c0
      have d1 := R6.c1
      have f0 := R6.f0
      have f1 := R6.f1
      refine takeH 12 (some 43) (.agg #[.bool g3, .slice ad3 l3.length cap3]) rfl rfl (by kernel_rfl) (by kernel_rfl) (by kernel_rfl) (fun _ _ _ h => h) (Or.inl ⟨rfl, fun W hW => by obtain _ := hW; go_simp⟩) (by assumption) ?_
      simp only [Act.put, List.setIfInBounds_toArray, List.set_cons_zero, List.set_cons_succ]
      refine takeH 13 (some 44) (.bool ok3) rfl rfl (by kernel_rfl) (by kernel_rfl) (by kernel_rfl) (fun _ _ _ h => h) (Or.inl ⟨rfl, fun W hW => by obtain _ := hW; go_simp⟩) (by assumption) ?_
      simp only [Act.put, List.setIfInBounds_toArray, List.set_cons_zero, List.set_cons_succ]
      refine oneH 14 rfl (by kernel_rfl) (fun K' hK => ?_)
      go_simp
      refine hK _ _ ((H6.other ⟨w.heap.size + 1, 0, none⟩ (by show p ≠ w.heap.size + 1; omega) _).other ⟨w.heap.size + 1, 1, none⟩ (by show p ≠ w.heap.size + 1; omega) _) ?_
      clear hK
      refine takeH 15 (some 7) (.bool ok3) rfl rfl (by kernel_rfl) (by kernel_rfl) (by kernel_rfl) (fun _ _ _ h => h) (yg_assign rfl (.tmp 44) rfl _ rfl) ((H6.other ⟨w.heap.size + 1, 0, none⟩ (by show p ≠ w.heap.size + 1; omega) _).other ⟨w.heap.size + 1, 1, none⟩ (by show p ≠ w.heap.size + 1; omega) _) ?_
      simp only [Act.put, List.setIfInBounds_toArray, List.set_cons_zero, List.set_cons_succ]
      refine wpAnyH_done (by kernel_rfl) ?_ _
      have o6 := ownsRow_setCell_below (a := ⟨w.heap.size + 1, 0, none⟩) q3 (by exact hR) (.bool g3)
      have o7 := ownsRow_setCell_below (a := ⟨w.heap.size + 1, 1, none⟩) o6 (by exact hR) (.slice ad3 l3.length cap3)
      have HO : Hid (World.ownsRow _ w.heap.size 3 1 (.slice ad3 l3.length cap3) l3.length (l3.map (Value.int .i64))) := ownsRow_mono o7 B5.size
      have HB : Hid (Below w.heap.size w _) := (B6.setCell (p := ⟨w.heap.size + 1, 0, none⟩) (by show w.heap.size ≤ w.heap.size + 1; omega) (.bool g3)).setCell (p := ⟨w.heap.size + 1, 1, none⟩) (by show w.heap.size ≤ w.heap.size + 1; omega) (.slice ad3 l3.length cap3)
      clear o6 o7 R0 R1 R4 R5 R6 B0 B1 B4 B5 B6 b1 b4 b5 b6 kM kF kR kW sc q3 H4 H5 H6 hHeld
      go_wp2
      (try simp only [Exit.inBlock, Exit.then])
      refine bodyPost_ret (v := .tuple #[.agg #[.bool g3, .slice ad3 l3.length cap3], .bool ok3]) ?_ rfl ⟨_, by rw [HR.out], by rw [HR.out]; exact ⟨_, rfl, HO.out⟩, HB.out⟩
      rw [results_cell_tmp rfl]
      go_simp
    · have kM := fun W => modeOk_no mode W hm
      have HR : Hid (ratR a k mode = ((false, []), false)) := by show _ = _; unfold ratR; rw [if_neg (fun h => hm h.2.2.2)]
      clear hm
      obtain ⟨rr, hr⟩ : ∃ r, ratR a k mode = r := ⟨_, rfl⟩
      rw [hr] at HR
      rw [hr]
      clear hr
      obtain ⟨s, rfl, hs⟩ := ha
      obtain ⟨ad, cap, rfl, -⟩ := id hs
      generalize a.1 = g0 at *
      generalize a.2.length = len at *
      have B0 := below2 w (.cells #[.bool g0, .slice ad len cap] 26) (.cells #[.bool false, .slice none 0 0] 26)
      have s2 : (w.alloc (.cells #[.bool g0, .slice ad len cap] 26)).heap.size = w.heap.size + 1 := by simp
      have R0 := BoxW.made (w.alloc (.cells #[.bool g0, .slice ad len cap] 26)) (.bool false) (.slice none 0 0) 26
      rw [s2] at R0
      clear s2 hs
      go_enter Try.func30, Try.ntmps30
      go_wp2_with fail
      refine (kT _ B0).mono ?_
      generalize (w.alloc (.cells #[.bool g0, .slice ad len cap] 26)).alloc (.cells #[.bool false, .slice none 0 0] 26) = w0 at *
      rintro e w1 ⟨p, rfl, hp, sp, b1⟩
      have R1 := R0.below b1 (Nat.le_refl _)
      have B1 := B0.trans (b1.mono B0.size)
      have c0 := R1.c0
      have c1' := R1.c1
      have f0 := R1.f0
      have f1 := R1.f1
      have HB : Hid (Below w.heap.size w ((w1.setCell ⟨w.heap.size + 1, 0, none⟩ (.bool false)).setCell ⟨w.heap.size + 1, 1, none⟩ (.slice none 0 0))) := (B1.setCell (p := ⟨w.heap.size + 1, 0, none⟩) (by show w.heap.size ≤ w.heap.size + 1; omega) (.bool false)).setCell (p := ⟨w.heap.size + 1, 1, none⟩) (by show w.heap.size ≤ w.heap.size + 1; omega) (.slice none 0 0)
      clear R0 B0 b1 R1 B1 kT sp
      go_wp2_with (first | (go_at_call 61; refine (kM _).mono ?_; rintro e w1 ⟨rfl, rfl⟩))
      (try simp only [Exit.inBlock, Exit.then])
      refine bodyPost_ret (v := .tuple #[.agg #[.bool false, .slice none 0 0], .bool false]) ?_ rfl ⟨_, by rw [HR.out], by rw [HR.out]; exact ⟨_, rfl, World.ownsRow_nil _ _ _ _⟩, HB.out⟩
      rw [results_cell_tmp rfl]
      go_simp
  · have hf : okW a = false := by simpa using hok
    have kT := fun W (h : Below w.heap.size w W) => sFromNo va a W (ha.below h (Nat.le_refl _)) hla hf
    have HR : Hid (ratR a k mode = ((false, []), false)) := by show _ = _; unfold ratR; rw [if_neg (fun q => hok q.1)]
    clear hok hf
    obtain ⟨rr, hr⟩ : ∃ r, ratR a k mode = r := ⟨_, rfl⟩
    rw [hr] at HR
    rw [hr]
    clear hr
    obtain ⟨s, rfl, hs⟩ := ha
    obtain ⟨ad, cap, rfl, -⟩ := id hs
    generalize a.1 = g0 at *
    generalize a.2.length = len at *
    have B0 := below2 w (.cells #[.bool g0, .slice ad len cap] 26) (.cells #[.bool false, .slice none 0 0] 26)
    have s2 : (w.alloc (.cells #[.bool g0, .slice ad len cap] 26)).heap.size = w.heap.size + 1 := by simp
    have R0 := BoxW.made (w.alloc (.cells #[.bool g0, .slice ad len cap] 26)) (.bool false) (.slice none 0 0) 26
    rw [s2] at R0
    clear s2 hs
    go_enter Try.func30, Try.ntmps30
    go_wp2_with fail
    refine (kT _ B0).mono ?_
    generalize (w.alloc (.cells #[.bool g0, .slice ad len cap] 26)).alloc (.cells #[.bool false, .slice none 0 0] 26) = w0 at *
    rintro e w1 ⟨rfl, b1⟩
    have R1 := R0.below b1 (Nat.le_refl _)
    have B1 := B0.trans (b1.mono B0.size)
    have c0 := R1.c0
    have c1' := R1.c1
    have f0 := R1.f0
    have f1 := R1.f1
    have HB : Hid (Below w.heap.size w ((w1.setCell ⟨w.heap.size + 1, 0, none⟩ (.bool false)).setCell ⟨w.heap.size + 1, 1, none⟩ (.slice none 0 0))) := (B1.setCell (p := ⟨w.heap.size + 1, 0, none⟩) (by show w.heap.size ≤ w.heap.size + 1; omega) (.bool false)).setCell (p := ⟨w.heap.size + 1, 1, none⟩) (by show w.heap.size ≤ w.heap.size + 1; omega) (.slice none 0 0)
    clear R0 B0 b1 R1 B1 kT
    go_wp2
    (try simp only [Exit.inBlock, Exit.then])
    refine bodyPost_ret (v := .tuple #[.agg #[.bool false, .slice none 0 0], .bool false]) ?_ rfl ⟨_, by rw [HR.out], by rw [HR.out]; exact ⟨_, rfl, World.ownsRow_nil _ _ _ _⟩, HB.out⟩
    rw [results_cell_tmp rfl]
    go_simp

end Go.Proofs.Ytlnpfjnpnjiepaa
