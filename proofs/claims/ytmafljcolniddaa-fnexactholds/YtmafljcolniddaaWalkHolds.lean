/- The law FnExactHolds: its walk. -/
import Derived.Test.YtmafljcolniddaaHoldI
namespace Go.Proofs.Ytmafljcolniddaa
open Go.RowKit
set_option linter.unusedSimpArgs false

set_option maxRecDepth 20000 in
set_option maxHeartbeats 6400000 in
theorem walkHolds (g : Bool) (m n : Int) (g' : Bool) (m' n' : Int) (w : World) :
    Calls Try.prog 3 #[vF g m n, vF g' m' n'] w fun e w' => e = .returned (.bool true) ∧ Below w.heap.size w w' := by
  have s1 : (w.alloc (.cells #[.bool g, .int .i64 m, .int .i64 n] 23)).heap.size = w.heap.size + 1 := by simp
  have X := (Box3.made w (.bool g) (.int .i64 m) (.int .i64 n) 23).below (below1 _ (.cells #[.bool g', .int .i64 m', .int .i64 n'] 23)) (Nat.le_refl _)
  have A := Box3.made (w.alloc (.cells #[.bool g, .int .i64 m, .int .i64 n] 23)) (.bool g') (.int .i64 m') (.int .i64 n') 23
  rw [s1] at A
  have B := below2 w (.cells #[.bool g, .int .i64 m, .int .i64 n] 23) (.cells #[.bool g', .int .i64 m', .int .i64 n'] 23)
  clear s1
  have kT1 := fun W => toF g m n W
  have kT2 := fun W => toF g' m' n' W
  have kS := fun W => sHolds g m n g' m' n' W
  have kI := fun W => iHolds g m n g' m' n' W
  obtain ⟨rr, hrr⟩ : ∃ r, holdsB g m n g' m' n' = r := ⟨_, rfl⟩
  simp only [hrr] at kS kI
  clear hrr
  have er : (rr != rr) = false := by simp
  go_enter Try.func3, Try.ntmps3
  go_wp2_with fail
  generalize (w.alloc (.cells #[.bool g, .int .i64 m, .int .i64 n] 23)).alloc (.cells #[.bool g', .int .i64 m', .int .i64 n'] 23) = w0 at *
  have bd := (Below.refl w0.heap.size w0).drew
  replace X := X.below bd (Nat.le_refl _)
  replace A := A.below bd (Nat.le_refl _)
  replace B := B.trans (bd.mono B.size)
  refine wp_region_held_drew (S := fun W => W.cell? ⟨w.heap.size, 0, none⟩ = some (.bool g) ∧ W.cell? ⟨w.heap.size, 1, none⟩ = some (.int .i64 m) ∧ W.cell? ⟨w.heap.size, 2, none⟩ = some (.int .i64 n) ∧ W.cell? ⟨w.heap.size + 1, 0, none⟩ = some (.bool g') ∧ W.cell? ⟨w.heap.size + 1, 1, none⟩ = some (.int .i64 m') ∧ W.cell? ⟨w.heap.size + 1, 2, none⟩ = some (.int .i64 n')) (by kernel_rfl) ⟨X.c0, X.c1, X.c2, A.c0, A.c1, A.c2⟩ ?_
  intro hHeld
  generalize w0.drew = v0 at *
  clear bd
  refine takeH 0 (some 7) (.agg #[.bool g, .int .i64 m, .int .i64 n]) rfl rfl (by kernel_rfl) (by kernel_rfl) (by kernel_rfl) (fun _ _ _ h => h) (Or.inl ⟨rfl, fun W hW => by obtain ⟨_a, _b, _c, _, _, _⟩ := hW; go_simp⟩) (by assumption) ?_
  simp only [Act.put, List.setIfInBounds_toArray, List.set_cons_zero, List.set_cons_succ]
  refine takeH 2 (some 9) (.agg #[.bool g', .int .i64 m', .int .i64 n']) rfl rfl (by kernel_rfl) (by kernel_rfl) (by kernel_rfl) (fun _ _ _ h => h) (Or.inl ⟨rfl, fun W hW => by obtain ⟨_, _, _, _a, _b, _c⟩ := hW; go_simp⟩) (by assumption) ?_
  simp only [Act.put, List.setIfInBounds_toArray, List.set_cons_zero, List.set_cons_succ]
  refine oneH 1 rfl (by kernel_rfl) (fun K' hK => ?_)
  go_simp
  refine (kT1 _).mono ?_
  rintro e v1 ⟨rfl, e1⟩
  replace X := X.below e1 (Nat.le_refl _)
  replace A := A.below e1 (Nat.le_refl _)
  replace B := B.trans (e1.mono B.size)
  refine hK _ _ ⟨X.c0, X.c1, X.c2, A.c0, A.c1, A.c2⟩ ?_
  clear hK hHeld
  refine oneH 3 rfl (by kernel_rfl) (fun K' hK => ?_)
  go_simp
  refine (kT2 _).mono ?_
  rintro e v2 ⟨rfl, e2⟩
  replace X := X.below e2 (Nat.le_refl _)
  replace A := A.below e2 (Nat.le_refl _)
  replace B := B.trans (e2.mono B.size)
  refine hK _ _ ⟨X.c0, X.c1, X.c2, A.c0, A.c1, A.c2⟩ ?_
  clear hK
  refine oneH 4 rfl (by kernel_rfl) (fun K' hK => ?_)
  go_simp
  refine (kS _).mono ?_
  rintro e v3 ⟨rfl, e3⟩
  replace X := X.below e3 (Nat.le_refl _)
  replace A := A.below e3 (Nat.le_refl _)
  replace B := B.trans (e3.mono B.size)
  refine hK _ _ ⟨X.c0, X.c1, X.c2, A.c0, A.c1, A.c2⟩ ?_
  clear hK e1 e2 e3
  have hHeld := (⟨X.c0, X.c1, X.c2, A.c0, A.c1, A.c2⟩ : _ ∧ _ ∧ _ ∧ _ ∧ _ ∧ _)
  refine takeH 5 (some 5) (.bool rr) rfl rfl (by kernel_rfl) (by kernel_rfl) (by kernel_rfl) (fun _ _ _ h => h) (yg_assign rfl (.tmp 11) rfl _ rfl) (by assumption) ?_
  simp only [Act.put, List.setIfInBounds_toArray, List.set_cons_zero, List.set_cons_succ]
  refine wpAnyH_done (by kernel_rfl) ?_ _
  clear hHeld
  go_wp2_with fail
  generalize v3 = u0 at *
  have bd := (Below.refl u0.heap.size u0).drew
  replace X := X.below bd (Nat.le_refl _)
  replace A := A.below bd (Nat.le_refl _)
  replace B := B.trans (bd.mono B.size)
  refine wp_region_held_drew (S := fun W => W.cell? ⟨w.heap.size, 0, none⟩ = some (.bool g) ∧ W.cell? ⟨w.heap.size, 1, none⟩ = some (.int .i64 m) ∧ W.cell? ⟨w.heap.size, 2, none⟩ = some (.int .i64 n) ∧ W.cell? ⟨w.heap.size + 1, 0, none⟩ = some (.bool g') ∧ W.cell? ⟨w.heap.size + 1, 1, none⟩ = some (.int .i64 m') ∧ W.cell? ⟨w.heap.size + 1, 2, none⟩ = some (.int .i64 n')) (by kernel_rfl) ⟨X.c0, X.c1, X.c2, A.c0, A.c1, A.c2⟩ ?_
  intro hHeld
  generalize u0.drew = v0 at *
  clear bd
  refine takeH 0 (some 12) (.agg #[.bool g, .int .i64 m, .int .i64 n]) rfl rfl (by kernel_rfl) (by kernel_rfl) (by kernel_rfl) (fun _ _ _ h => h) (Or.inl ⟨rfl, fun W hW => by obtain ⟨_a, _b, _c, _, _, _⟩ := hW; go_simp⟩) (by assumption) ?_
  simp only [Act.put, List.setIfInBounds_toArray, List.set_cons_zero, List.set_cons_succ]
  refine takeH 2 (some 14) (.agg #[.bool g', .int .i64 m', .int .i64 n']) rfl rfl (by kernel_rfl) (by kernel_rfl) (by kernel_rfl) (fun _ _ _ h => h) (Or.inl ⟨rfl, fun W hW => by obtain ⟨_, _, _, _a, _b, _c⟩ := hW; go_simp⟩) (by assumption) ?_
  simp only [Act.put, List.setIfInBounds_toArray, List.set_cons_zero, List.set_cons_succ]
  refine oneH 1 rfl (by kernel_rfl) (fun K' hK => ?_)
  go_simp
  refine (kT1 _).mono ?_
  rintro e v1 ⟨rfl, e1⟩
  replace X := X.below e1 (Nat.le_refl _)
  replace A := A.below e1 (Nat.le_refl _)
  replace B := B.trans (e1.mono B.size)
  refine hK _ _ ⟨X.c0, X.c1, X.c2, A.c0, A.c1, A.c2⟩ ?_
  clear hK hHeld
  refine oneH 3 rfl (by kernel_rfl) (fun K' hK => ?_)
  go_simp
  refine (kT2 _).mono ?_
  rintro e v2 ⟨rfl, e2⟩
  replace X := X.below e2 (Nat.le_refl _)
  replace A := A.below e2 (Nat.le_refl _)
  replace B := B.trans (e2.mono B.size)
  refine hK _ _ ⟨X.c0, X.c1, X.c2, A.c0, A.c1, A.c2⟩ ?_
  clear hK
  refine oneH 4 rfl (by kernel_rfl) (fun K' hK => ?_)
  go_simp
  refine (kI _).mono ?_
  rintro e v3 ⟨rfl, e3⟩
  replace X := X.below e3 (Nat.le_refl _)
  replace A := A.below e3 (Nat.le_refl _)
  replace B := B.trans (e3.mono B.size)
  refine hK _ _ ⟨X.c0, X.c1, X.c2, A.c0, A.c1, A.c2⟩ ?_
  clear hK e1 e2 e3
  have hHeld := (⟨X.c0, X.c1, X.c2, A.c0, A.c1, A.c2⟩ : _ ∧ _ ∧ _ ∧ _ ∧ _ ∧ _)
  refine takeH 5 (some 6) (.bool rr) rfl rfl (by kernel_rfl) (by kernel_rfl) (by kernel_rfl) (fun _ _ _ h => h) (yg_assign rfl (.tmp 16) rfl _ rfl) (by assumption) ?_
  simp only [Act.put, List.setIfInBounds_toArray, List.set_cons_zero, List.set_cons_succ]
  refine wpAnyH_done (by kernel_rfl) ?_ _
  clear hHeld
  go_wp2
  go_ret
  exact ⟨rfl, B⟩

end Go.Proofs.Ytmafljcolniddaa
