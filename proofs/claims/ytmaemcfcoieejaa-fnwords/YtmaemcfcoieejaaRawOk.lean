/- RawOk, of the specification and of the program, by one contract. -/
import Derived.Test.YtmaemcfcoieejaaILeast
import Derived.Test.YtmaemcfcoieejaaReg0
namespace Go.Proofs.Ytmaemcfcoieejaa
open Go.RowKit
set_option linter.unusedSimpArgs false


set_option maxHeartbeats 1600000 in
theorem sRawOk (g : Bool) (m n v : Int) (w : World) :
    Calls Try.prog 12 #[vF g m n, .int .i64 v] w fun e w' => e = .returned (.bool (rawR g m n v)) ∧ Below w.heap.size w w' := by
  have B0 := BoxF.made w g m n 25
  have kF := fun W (h : BoxF w g m n W) => (sFmtOk g m n W).mono (fun e w' (q : e = .returned (.bool (fok m n)) ∧ Below W.heap.size W w') => (⟨q.1, h.below q.2⟩ : e = .returned (.bool (fok m n)) ∧ BoxF w g m n w'))
  have kL := fun W (h : BoxF w g m n W) => (sLeast g m n W).mono (fun e w' (q : e = .returned (.int .i64 (leastR g m n)) ∧ Below W.heap.size W w') => (⟨q.1, h.below q.2⟩ : e = .returned (.int .i64 (leastR g m n)) ∧ BoxF w g m n w'))
  have kM := fun W (h : BoxF w g m n W) => (sMost g m n W).mono (fun e w' (q : e = .returned (.int .i64 (mostR g m n)) ∧ Below W.heap.size W w') => (⟨q.1, h.below q.2⟩ : e = .returned (.int .i64 (mostR g m n)) ∧ BoxF w g m n w'))
  obtain ⟨r, hr⟩ : ∃ r, rawR g m n v = r := ⟨_, rfl⟩
  have HR : Hid (rawR g m n v = r) := hr
  obtain ⟨lo, hlo⟩ : ∃ z, leastR g m n = z := ⟨_, rfl⟩
  obtain ⟨hi, hhi⟩ : ∃ z, mostR g m n = z := ⟨_, rfl⟩
  obtain ⟨b, hb⟩ : ∃ b, fok m n = b := ⟨_, rfl⟩
  have hr2 : r = (b && decide (lo ≤ v) && decide (v ≤ hi)) := by rw [← hr, ← hlo, ← hhi, ← hb]; rfl
  have kI : b = true → ∀ W, BoxF w g m n W → Calls Try.prog 21 #[.int .i64 v, .int .i64 lo, .int .i64 hi] W fun e w' => e = .returned (.bool r) ∧ BoxF w g m n w' := by
    intro hbt W hW
    subst hbt
    by_cases h : lo ≤ v ∧ v ≤ hi
    · refine (in_yes v lo hi W h.1 h.2).mono ?_
      rintro e w' ⟨rfl, rfl⟩
      exact ⟨by rw [hr2]; simp [h.1, h.2], hW⟩
    · refine (in_no v lo hi W h).mono ?_
      rintro e w' ⟨rfl, rfl⟩
      refine ⟨?_, hW⟩
      rw [hr2]
      by_cases h1 : lo ≤ v
      · have h2 : ¬ v ≤ hi := fun q => h ⟨h1, q⟩
        simp [h2]
      · simp [h1]
  simp only [hlo] at kL
  simp only [hhi] at kM
  simp only [hb] at kF
  cases b
  · have hr3 : r = false := by rw [hr2]; simp
    subst hr3
    clear hr hr2 hlo hhi hb kI kL kM
    go_enter Try.func12, Try.ntmps12
    go_wp2_with fail
    generalize w.alloc (.cells #[.bool g, .int .i64 m, .int .i64 n] 25) = w1 at *
    have B1 := B0.drew
    obtain ⟨d0, d1, d2, -, -⟩ := id B1
    refine wp_region_held_drew (S := BoxF w g m n) (by kernel_rfl) B1 ?_
    intro hHeld
    refine takeH 0 (some 5) (.agg #[.bool g, .int .i64 m, .int .i64 n]) rfl rfl (by kernel_rfl) (by kernel_rfl) (by kernel_rfl) (fun _ _ _ h => h) (Or.inl ⟨rfl, fun W hW => by obtain ⟨c0, c1, c2, -, -⟩ := hW; go_simp⟩) (by assumption) ?_
    simp only [Act.put, List.setIfInBounds_toArray, List.set_cons_zero, List.set_cons_succ]
    refine oneH 1 rfl (by kernel_rfl) (fun K' hK => ?_)
    go_simp
    refine (kF _ (by assumption)).mono ?_
    rintro e w4 ⟨rfl, X4⟩
    refine hK _ _ X4 ?_
    clear hK
    refine takeH 2 (some 7) (.bool false) rfl rfl (by kernel_rfl) (by kernel_rfl) (by kernel_rfl) (fun _ _ _ h => h) (yg_move rfl (.tmp 6) rfl _ rfl) (by assumption) ?_
    simp only [Act.put, List.setIfInBounds_toArray, List.set_cons_zero, List.set_cons_succ]
    refine takeH 3 (some 8) (undef) rfl rfl (by kernel_rfl) (by kernel_rfl) (by kernel_rfl) (fun _ _ _ h => h) (yg_skip rfl) (by assumption) ?_
    simp only [Act.put, List.setIfInBounds_toArray, List.set_cons_zero, List.set_cons_succ]
    refine takeH 4 (some 9) (undef) rfl rfl (by kernel_rfl) (by kernel_rfl) (by kernel_rfl) (fun _ _ _ h => h) (yg_skip rfl) (by assumption) ?_
    simp only [Act.put, List.setIfInBounds_toArray, List.set_cons_zero, List.set_cons_succ]
    refine takeH 5 (some 10) (undef) rfl rfl (by kernel_rfl) (by kernel_rfl) (by kernel_rfl) (fun _ _ _ h => h) (yg_skip rfl) (by assumption) ?_
    simp only [Act.put, List.setIfInBounds_toArray, List.set_cons_zero, List.set_cons_succ]
    refine takeH 6 (some 11) (undef) rfl rfl (by kernel_rfl) (by kernel_rfl) (by kernel_rfl) (fun _ _ _ h => h) (yg_skip rfl) (by assumption) ?_
    simp only [Act.put, List.setIfInBounds_toArray, List.set_cons_zero, List.set_cons_succ]
    refine takeH 7 (some 12) (undef) rfl rfl (by kernel_rfl) (by kernel_rfl) (by kernel_rfl) (fun _ _ _ h => h) (yg_skip rfl) (by assumption) ?_
    simp only [Act.put, List.setIfInBounds_toArray, List.set_cons_zero, List.set_cons_succ]
    refine takeH 8 (some 13) (undef) rfl rfl (by kernel_rfl) (by kernel_rfl) (by kernel_rfl) (fun _ _ _ h => h) (yg_skip rfl) (by assumption) ?_
    simp only [Act.put, List.setIfInBounds_toArray, List.set_cons_zero, List.set_cons_succ]
    refine takeH 9 (some 14) (.bool false) rfl rfl (by kernel_rfl) (by kernel_rfl) (by kernel_rfl) (fun _ _ _ h => h) (yg_pick rfl (.tmp 7) (.tmp 13) (.const (.bool false)) rfl false rfl _ rfl) (by assumption) ?_
    simp only [Act.put, List.setIfInBounds_toArray, List.set_cons_zero, List.set_cons_succ]
    refine takeH 10 (some 4) (.bool false) rfl rfl (by kernel_rfl) (by kernel_rfl) (by kernel_rfl) (fun _ _ _ h => h) (yg_assign rfl (.tmp 14) rfl _ rfl) (by assumption) ?_
    simp only [Act.put, List.setIfInBounds_toArray, List.set_cons_zero, List.set_cons_succ]
    refine wpAnyH_done (by kernel_rfl) ?_ _
    go_wp2
    go_ret
    exact ⟨by rw [HR.out]; rfl, X4.2.2.2.2⟩
  · have kJ := kI rfl
    clear kI
    clear hr hr2 hlo hhi hb
    go_enter Try.func12, Try.ntmps12
    go_wp2_with fail
    generalize w.alloc (.cells #[.bool g, .int .i64 m, .int .i64 n] 25) = w1 at *
    have B1 := B0.drew
    obtain ⟨d0, d1, d2, -, -⟩ := id B1
    refine wp_region_held_drew (S := BoxF w g m n) (by kernel_rfl) B1 ?_
    intro hHeld
    refine takeH 0 (some 5) (.agg #[.bool g, .int .i64 m, .int .i64 n]) rfl rfl (by kernel_rfl) (by kernel_rfl) (by kernel_rfl) (fun _ _ _ h => h) (Or.inl ⟨rfl, fun W hW => by obtain ⟨c0, c1, c2, -, -⟩ := hW; go_simp⟩) (by assumption) ?_
    simp only [Act.put, List.setIfInBounds_toArray, List.set_cons_zero, List.set_cons_succ]
    refine oneH 1 rfl (by kernel_rfl) (fun K' hK => ?_)
    go_simp
    refine (kF _ (by assumption)).mono ?_
    rintro e w4 ⟨rfl, X4⟩
    refine hK _ _ X4 ?_
    clear hK
    refine takeH 2 (some 7) (.bool true) rfl rfl (by kernel_rfl) (by kernel_rfl) (by kernel_rfl) (fun _ _ _ h => h) (yg_move rfl (.tmp 6) rfl _ rfl) (by assumption) ?_
    simp only [Act.put, List.setIfInBounds_toArray, List.set_cons_zero, List.set_cons_succ]
    refine takeH 3 (some 8) (.int .i64 v) rfl rfl (by kernel_rfl) (by kernel_rfl) (by kernel_rfl) (fun _ _ _ h => h) (yg_move rfl (.tmp 1) rfl _ rfl) (by assumption) ?_
    simp only [Act.put, List.setIfInBounds_toArray, List.set_cons_zero, List.set_cons_succ]
    refine takeH 4 (some 9) (.agg #[.bool g, .int .i64 m, .int .i64 n]) rfl rfl (by kernel_rfl) (by kernel_rfl) (by kernel_rfl) (fun _ _ _ h => h) (Or.inl ⟨rfl, fun W hW => by obtain ⟨c0, c1, c2, -, -⟩ := hW; go_simp⟩) (by assumption) ?_
    simp only [Act.put, List.setIfInBounds_toArray, List.set_cons_zero, List.set_cons_succ]
    refine takeH 6 (some 11) (.agg #[.bool g, .int .i64 m, .int .i64 n]) rfl rfl (by kernel_rfl) (by kernel_rfl) (by kernel_rfl) (fun _ _ _ h => h) (Or.inl ⟨rfl, fun W hW => by obtain ⟨c0, c1, c2, -, -⟩ := hW; go_simp⟩) (by assumption) ?_
    simp only [Act.put, List.setIfInBounds_toArray, List.set_cons_zero, List.set_cons_succ]
    refine oneH 5 rfl (by kernel_rfl) (fun K' hK => ?_)
    go_simp
    refine (kL _ (by assumption)).mono ?_
    rintro e w5 ⟨rfl, X5⟩
    refine hK _ _ X5 ?_
    clear hK
    refine oneH 7 rfl (by kernel_rfl) (fun K' hK => ?_)
    go_simp
    refine (kM _ (by assumption)).mono ?_
    rintro e w6 ⟨rfl, X6⟩
    refine hK _ _ X6 ?_
    clear hK
    refine oneH 8 rfl (by kernel_rfl) (fun K' hK => ?_)
    go_simp
    refine (kJ _ (by assumption)).mono ?_
    rintro e w7 ⟨rfl, X7⟩
    refine hK _ _ X7 ?_
    clear hK
    refine takeH 9 (some 14) (.bool r) rfl rfl (by kernel_rfl) (by kernel_rfl) (by kernel_rfl) (fun _ _ _ h => h) (yg_pick rfl (.tmp 7) (.tmp 13) (.const (.bool false)) rfl true rfl _ rfl) (by assumption) ?_
    simp only [Act.put, List.setIfInBounds_toArray, List.set_cons_zero, List.set_cons_succ]
    refine takeH 10 (some 4) (.bool r) rfl rfl (by kernel_rfl) (by kernel_rfl) (by kernel_rfl) (fun _ _ _ h => h) (yg_assign rfl (.tmp 14) rfl _ rfl) (by assumption) ?_
    simp only [Act.put, List.setIfInBounds_toArray, List.set_cons_zero, List.set_cons_succ]
    refine wpAnyH_done (by kernel_rfl) ?_ _
    all_goals
      go_wp2
      go_ret
      exact ⟨by rw [HR.out]; rfl, X7.2.2.2.2⟩

set_option maxHeartbeats 1600000 in
theorem iRawOk (g : Bool) (m n v : Int) (w : World) :
    Calls Try.prog 16 #[vF g m n, .int .i64 v] w fun e w' => e = .returned (.bool (rawR g m n v)) ∧ Below w.heap.size w w' := by
  have B0 := BoxF.made w g m n 25
  have kF := fun W => iFmtOk g m n W
  have kL := fun W => iLeast g m n W
  have kM := fun W => iMost g m n W
  have HR : Hid (rawR g m n v = (fok m n && decide (leastR g m n ≤ v) && decide (v ≤ mostR g m n))) := rfl
  obtain ⟨lo, hlo⟩ : ∃ z, leastR g m n = z := ⟨_, rfl⟩
  obtain ⟨hi, hhi⟩ : ∃ z, mostR g m n = z := ⟨_, rfl⟩
  obtain ⟨b, hb⟩ : ∃ b, fok m n = b := ⟨_, rfl⟩
  obtain ⟨c, hc⟩ : ∃ c, decide (lo ≤ v) = c := ⟨_, rfl⟩
  simp only [hlo] at kL
  simp only [hhi] at kM
  simp only [hb] at kF
  rw [hlo, hhi, hb, hc] at HR
  clear hlo hhi hb
  cases b
  · go_enter Try.func16, Try.ntmps16
    go_wp2_with fail
    refine (kF _).mono ?_
    rintro e w1 ⟨rfl, b1⟩
    have B1 := B0.below b1
    clear B0 b1
    go_wp2
    go_ret
    exact ⟨by rw [HR.out]; rfl, B1.2.2.2.2⟩
  · cases c
    · go_enter Try.func16, Try.ntmps16
      go_wp2_with fail
      refine (kF _).mono ?_
      rintro e w1 ⟨rfl, b1⟩
      have B1 := B0.below b1
      clear B0 b1
      obtain ⟨d0, d1, d2, -, -⟩ := id B1
      go_wp2_with fail
      refine (kL _).mono ?_
      rintro e w2 ⟨rfl, b2⟩
      have B2 := B1.below b2
      clear B1 b2 d0 d1 d2
      go_wp2
      go_ret
      exact ⟨by rw [HR.out]; rfl, B2.2.2.2.2⟩
    · go_enter Try.func16, Try.ntmps16
      go_wp2_with fail
      refine (kF _).mono ?_
      rintro e w1 ⟨rfl, b1⟩
      have B1 := B0.below b1
      clear B0 b1
      obtain ⟨d0, d1, d2, -, -⟩ := id B1
      go_wp2_with fail
      refine (kL _).mono ?_
      rintro e w2 ⟨rfl, b2⟩
      have B2 := B1.below b2
      clear B1 b2 d0 d1 d2
      obtain ⟨d0, d1, d2, -, -⟩ := id B2
      go_wp2_with fail
      refine (kM _).mono ?_
      rintro e w3 ⟨rfl, b3⟩
      have B3 := B2.below b3
      clear B2 b3 d0 d1 d2
      go_wp2
      go_ret
      exact ⟨by rw [HR.out]; rfl, B3.2.2.2.2⟩

end Go.Proofs.Ytmaemcfcoieejaa
