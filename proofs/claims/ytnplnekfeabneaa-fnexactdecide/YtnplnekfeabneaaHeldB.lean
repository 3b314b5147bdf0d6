/- heldAt of the program and l19Ok of the specification, each by its contract. -/
import Derived.Test.YtnplnekfeabneaaRawIvB
import Derived.Test.YtnplnekfeabneaaSIvOk
namespace Go.Proofs.Ytnplnekfeabneaa
open Go.RowKit
set_option linter.unusedSimpArgs false

def heldOk (a : Vh) (p f : Int) : Bool := okV a && decide (1 ≤ p ∧ p ≤ 480) && decide (0 ≤ f ∧ f ≤ 60) && decide (f ≤ p)
theorem partsAt (p : Int) (w : World) : Calls Try.prog 46 #[.int .i64 p] w fun e w' => e = .returned (.bool (decide (1 ≤ p ∧ p ≤ 480))) ∧ w' = w := by
  by_cases h1 : 1 ≤ p
  · by_cases h2 : p ≤ 480
    · rw [decide_eq_true ⟨h1, h2⟩]
      go_enter Try.func46, Try.ntmps46
      go_wp2
      go_ret
      exact ⟨rfl, rfl⟩
    · rw [decide_eq_false (by omega)]
      have h3 : decide (p ≤ 480) = false := decide_eq_false h2
      clear h2
      go_enter Try.func46, Try.ntmps46
      go_wp2
      go_ret
      exact ⟨rfl, rfl⟩
  · rw [decide_eq_false (by omega)]
    have h3 : decide (1 ≤ p) = false := decide_eq_false h1
    clear h1
    go_enter Try.func46, Try.ntmps46
    go_wp2
    go_ret
    exact ⟨rfl, rfl⟩

set_option maxRecDepth 20000 in
set_option maxHeartbeats 6400000 in
theorem heldAt_c (va : Value) (a : Vh) (p f : Int) (w : World) (ha : rowV w va a) (hl0 : a.1.2.length ≤ 1048576) (hl1 : a.2.2.length ≤ 1048576) :
    Calls Try.prog 24 #[va, .int .i64 p, .int .i64 f] w fun e w' => ∃ X Y : Option Addr, e = .returned (.tuple #[.agg #[.pointer X, .pointer Y], .bool (heldOk a p f)]) ∧ Below w.heap.size w w' ∧ (heldOk a p f = true → ∃ i j, X = some ⟨i, 0, none⟩ ∧ Y = some ⟨j, 0, none⟩ ∧ SG w' i (valW a.1) ∧ SG w' j (valW a.2)) := by
  have kA := fun W (h : Below w.heap.size w W) => spanFrom_b va a W (ha.below h (Nat.le_refl _)) hl0 hl1
  have kI := fun W => partsAt p W
  have kJ := fun W => pointAt f W
  unfold heldOk
  generalize okV a = r0 at *
  generalize decide (1 ≤ p ∧ p ≤ 480) = r1 at *
  generalize decide (0 ≤ f ∧ f ≤ 60) = r2 at *
  generalize valW a.1 = x at *
  generalize valW a.2 = y at *
  obtain ⟨s, t, rfl, hs, ht⟩ := ha
  obtain ⟨ad, cap, rfl, -⟩ := id hs
  obtain ⟨ae, cbp, rfl, -⟩ := id ht
  obtain ⟨g, hg⟩ : ∃ g, a.1.1 = g := ⟨_, rfl⟩
  obtain ⟨g', hg'⟩ : ∃ g, a.2.1 = g := ⟨_, rfl⟩
  obtain ⟨len, hlen⟩ : ∃ l, a.1.2.length = l := ⟨_, rfl⟩
  obtain ⟨len2, hlen2⟩ : ∃ l, a.2.2.length = l := ⟨_, rfl⟩
  rw [hg, hg', hlen, hlen2] at kA
  rw [hg, hg', hlen, hlen2]
  clear hs ht hg hg' hlen hlen2 hl0 hl1
  have s1 : (w.alloc (.cells #[.bool g, .slice ad len cap, .bool g', .slice ae len2 cbp] 32)).heap.size = w.heap.size + 1 := by simp
  have R0 := BoxW.made (w.alloc (.cells #[.bool g, .slice ad len cap, .bool g', .slice ae len2 cbp] 32)) (.pointer none) (.pointer none) 51
  rw [s1] at R0
  have B0 := below2 w (.cells #[.bool g, .slice ad len cap, .bool g', .slice ae len2 cbp] 32) (.cells #[.pointer none, .pointer none] 51)
  clear s1
  cases r0
  · clear kI kJ
    go_enter Try.func24, Try.ntmps24
    go_wp2_with fail
    refine (kA _ B0).mono ?_
    generalize (w.alloc (.cells #[.bool g, .slice ad len cap, .bool g', .slice ae len2 cbp] 32)).alloc (.cells #[.pointer none, .pointer none] 51) = w0 at *
    rintro e w1' ⟨X, Y, rfl, b1', hXY⟩
    have hR0 := R0.hi
    have E1 := BoxW.made w1' (.pointer X) (.pointer Y) 51
    have bF := below1 w1' (.cells #[.pointer X, .pointer Y] 51)
    have b1 := b1'.trans (bF.mono b1'.size)
    have R1 := R0.below b1 (Nat.le_refl _)
    have B1 := B0.trans (b1.mono B0.size)
    have hE1 : w0.heap.size ≤ w1'.heap.size := b1'.size
    clear R0 B0 b1 kA
    go_wp2_with fail
    generalize w1'.alloc (.cells #[.pointer X, .pointer Y] 51) = w1 at *
    have hl6 : ∀ i x, SG w1' i x → i < w1'.heap.size := fun _ _ h => h.lt
    generalize w1'.heap.size = f6 at *
    have bd := (Below.refl w1.heap.size w1).drew
    have E3 := E1.below bd (Nat.le_refl _)
    have R3 := R1.below bd (Nat.le_refl _)
    have B3 := B1.trans (bd.mono B1.size)
    refine wp_region_held_drew (S := fun W => W.cell? ⟨f6, 0, none⟩ = some (.pointer X) ∧ W.cell? ⟨f6, 1, none⟩ = some (.pointer Y)) (by kernel_rfl) ⟨E3.c0, E3.c1⟩ ?_
    intro hHeld
    generalize w1.drew = w3 at *
    refine takeH 0 (some 15) (.agg #[.pointer X, .pointer Y]) rfl rfl (by kernel_rfl) (by kernel_rfl) (by kernel_rfl) (fun _ _ _ h => h) (Or.inl ⟨rfl, fun W hW => by obtain ⟨_a, _b⟩ := hW; go_simp⟩) (by assumption) ?_
    simp only [Act.put, List.setIfInBounds_toArray, List.set_cons_zero, List.set_cons_succ]
    refine takeH 1 (some 16) (.bool false) rfl rfl (by kernel_rfl) (by kernel_rfl) (by kernel_rfl) (fun _ _ _ h => h) (yg_move rfl (.tmp 9) rfl _ rfl) (by assumption) ?_
    simp only [Act.put, List.setIfInBounds_toArray, List.set_cons_zero, List.set_cons_succ]
    refine takeH 2 (some 17) (.bool false) rfl rfl (by kernel_rfl) (by kernel_rfl) (by kernel_rfl) (fun _ _ _ h => h) (yg_move rfl (.tmp 16) rfl _ rfl) (by assumption) ?_
    simp only [Act.put, List.setIfInBounds_toArray, List.set_cons_zero, List.set_cons_succ]
    refine takeH 3 (some 18) (undef) rfl rfl (by kernel_rfl) (by kernel_rfl) (by kernel_rfl) (fun _ _ _ h => h) (yg_skip rfl) (by assumption) ?_
    simp only [Act.put, List.setIfInBounds_toArray, List.set_cons_zero, List.set_cons_succ]
    refine takeH 4 (some 19) (undef) rfl rfl (by kernel_rfl) (by kernel_rfl) (by kernel_rfl) (fun _ _ _ h => h) (yg_skip rfl) (by assumption) ?_
    simp only [Act.put, List.setIfInBounds_toArray, List.set_cons_zero, List.set_cons_succ]
    refine takeH 5 (some 20) (.bool false) rfl rfl (by kernel_rfl) (by kernel_rfl) (by kernel_rfl) (fun _ _ _ h => h) (yg_pick rfl (.tmp 17) (.tmp 19) (.const (.bool false)) rfl false rfl _ rfl) (by assumption) ?_
    simp only [Act.put, List.setIfInBounds_toArray, List.set_cons_zero, List.set_cons_succ]
    refine takeH 6 (some 21) (.bool false) rfl rfl (by kernel_rfl) (by kernel_rfl) (by kernel_rfl) (fun _ _ _ h => h) (yg_move rfl (.tmp 20) rfl _ rfl) (by assumption) ?_
    simp only [Act.put, List.setIfInBounds_toArray, List.set_cons_zero, List.set_cons_succ]
    refine takeH 7 (some 22) (undef) rfl rfl (by kernel_rfl) (by kernel_rfl) (by kernel_rfl) (fun _ _ _ h => h) (yg_skip rfl) (by assumption) ?_
    simp only [Act.put, List.setIfInBounds_toArray, List.set_cons_zero, List.set_cons_succ]
    refine takeH 8 (some 23) (undef) rfl rfl (by kernel_rfl) (by kernel_rfl) (by kernel_rfl) (fun _ _ _ h => h) (yg_skip rfl) (by assumption) ?_
    simp only [Act.put, List.setIfInBounds_toArray, List.set_cons_zero, List.set_cons_succ]
    refine takeH 9 (some 24) (.bool false) rfl rfl (by kernel_rfl) (by kernel_rfl) (by kernel_rfl) (fun _ _ _ h => h) (yg_pick rfl (.tmp 21) (.tmp 23) (.const (.bool false)) rfl false rfl _ rfl) (by assumption) ?_
    simp only [Act.put, List.setIfInBounds_toArray, List.set_cons_zero, List.set_cons_succ]
    refine takeH 10 (some 25) (.bool false) rfl rfl (by kernel_rfl) (by kernel_rfl) (by kernel_rfl) (fun _ _ _ h => h) (yg_move rfl (.tmp 24) rfl _ rfl) (by assumption) ?_
    simp only [Act.put, List.setIfInBounds_toArray, List.set_cons_zero, List.set_cons_succ]
    refine takeH 11 (some 26) (undef) rfl rfl (by kernel_rfl) (by kernel_rfl) (by kernel_rfl) (fun _ _ _ h => h) (yg_skip rfl) (by assumption) ?_
    simp only [Act.put, List.setIfInBounds_toArray, List.set_cons_zero, List.set_cons_succ]
    refine takeH 12 (some 27) (undef) rfl rfl (by kernel_rfl) (by kernel_rfl) (by kernel_rfl) (fun _ _ _ h => h) (yg_skip rfl) (by assumption) ?_
    simp only [Act.put, List.setIfInBounds_toArray, List.set_cons_zero, List.set_cons_succ]
    refine takeH 13 (some 28) (undef) rfl rfl (by kernel_rfl) (by kernel_rfl) (by kernel_rfl) (fun _ _ _ h => h) (yg_skip rfl) (by assumption) ?_
    simp only [Act.put, List.setIfInBounds_toArray, List.set_cons_zero, List.set_cons_succ]
    refine takeH 14 (some 29) (.bool false) rfl rfl (by kernel_rfl) (by kernel_rfl) (by kernel_rfl) (fun _ _ _ h => h) (yg_pick rfl (.tmp 25) (.tmp 28) (.const (.bool false)) rfl false rfl _ rfl) (by assumption) ?_
    simp only [Act.put, List.setIfInBounds_toArray, List.set_cons_zero, List.set_cons_succ]
    have E7 := E3.tn ((tnC w3 (w.heap.size + 1) 0 (.pointer X)).trans (tnC _ (w.heap.size + 1) 1 (.pointer Y))) (fun k hk hs => by simp at hk hs; omega)
    have r0 := R3.c0
    have f0 := R3.f0
    have r1 := R3.c1
    have f1 := R3.f1
    refine oneH 15 rfl (by kernel_rfl) (fun K' hK => ?_)
    go_simp
    refine hK _ _ ⟨E7.c0, E7.c1⟩ ?_
    clear hK
    refine takeH 16 (some 7) (.bool false) rfl rfl (by kernel_rfl) (by kernel_rfl) (by kernel_rfl) (fun _ _ _ h => h) (yg_assign rfl (.tmp 29) rfl _ rfl) ⟨E7.c0, E7.c1⟩ ?_
    simp only [Act.put, List.setIfInBounds_toArray, List.set_cons_zero, List.set_cons_succ]
    refine wpAnyH_done (by kernel_rfl) ?_ _
    have HB : Hid (Below w.heap.size w _) := ((B3.setCell (p := ⟨w.heap.size + 1, 0, none⟩) (by show w.heap.size ≤ w.heap.size + 1; omega) (.pointer X)).setCell (p := ⟨w.heap.size + 1, 1, none⟩) (by show w.heap.size ≤ w.heap.size + 1; omega) (.pointer Y))
    clear hHeld E1 E3 E7 R1 R3 B1 B3 bd bF b1' hl6 hXY
    go_wp2
    (try simp only [Exit.inBlock, Exit.then])
    refine bodyPost_ret (v := .tuple #[.agg #[.pointer X, .pointer Y], .bool false]) ?_ rfl ?_
    · rw [results_cell_tmp rfl]
      go_simp
    · exact ⟨X, Y, rfl, HB.out, fun h => by simp at h⟩
  cases r1
  · clear kJ
    go_enter Try.func24, Try.ntmps24
    go_wp2_with fail
    refine (kA _ B0).mono ?_
    generalize (w.alloc (.cells #[.bool g, .slice ad len cap, .bool g', .slice ae len2 cbp] 32)).alloc (.cells #[.pointer none, .pointer none] 51) = w0 at *
    rintro e w1' ⟨X, Y, rfl, b1', hXY⟩
    have hR0 := R0.hi
    have E1 := BoxW.made w1' (.pointer X) (.pointer Y) 51
    have bF := below1 w1' (.cells #[.pointer X, .pointer Y] 51)
    have b1 := b1'.trans (bF.mono b1'.size)
    have R1 := R0.below b1 (Nat.le_refl _)
    have B1 := B0.trans (b1.mono B0.size)
    have hE1 : w0.heap.size ≤ w1'.heap.size := b1'.size
    clear R0 B0 b1 kA
    go_wp2_with fail
    generalize w1'.alloc (.cells #[.pointer X, .pointer Y] 51) = w1 at *
    have hl6 : ∀ i x, SG w1' i x → i < w1'.heap.size := fun _ _ h => h.lt
    generalize w1'.heap.size = f6 at *
    have bd := (Below.refl w1.heap.size w1).drew
    have E3 := E1.below bd (Nat.le_refl _)
    have R3 := R1.below bd (Nat.le_refl _)
    have B3 := B1.trans (bd.mono B1.size)
    refine wp_region_held_drew (S := fun W => W.cell? ⟨f6, 0, none⟩ = some (.pointer X) ∧ W.cell? ⟨f6, 1, none⟩ = some (.pointer Y)) (by kernel_rfl) ⟨E3.c0, E3.c1⟩ ?_
    intro hHeld
    generalize w1.drew = w3 at *
    refine takeH 0 (some 15) (.agg #[.pointer X, .pointer Y]) rfl rfl (by kernel_rfl) (by kernel_rfl) (by kernel_rfl) (fun _ _ _ h => h) (Or.inl ⟨rfl, fun W hW => by obtain ⟨_a, _b⟩ := hW; go_simp⟩) (by assumption) ?_
    simp only [Act.put, List.setIfInBounds_toArray, List.set_cons_zero, List.set_cons_succ]
    refine takeH 1 (some 16) (.bool true) rfl rfl (by kernel_rfl) (by kernel_rfl) (by kernel_rfl) (fun _ _ _ h => h) (yg_move rfl (.tmp 9) rfl _ rfl) (by assumption) ?_
    simp only [Act.put, List.setIfInBounds_toArray, List.set_cons_zero, List.set_cons_succ]
    refine takeH 2 (some 17) (.bool true) rfl rfl (by kernel_rfl) (by kernel_rfl) (by kernel_rfl) (fun _ _ _ h => h) (yg_move rfl (.tmp 16) rfl _ rfl) (by assumption) ?_
    simp only [Act.put, List.setIfInBounds_toArray, List.set_cons_zero, List.set_cons_succ]
    refine takeH 3 (some 18) (.int .i64 p) rfl rfl (by kernel_rfl) (by kernel_rfl) (by kernel_rfl) (fun _ _ _ h => h) (yg_move rfl (.tmp 1) rfl _ rfl) (by assumption) ?_
    simp only [Act.put, List.setIfInBounds_toArray, List.set_cons_zero, List.set_cons_succ]
    refine oneH 4 rfl (by kernel_rfl) (fun K' hK => ?_)
    go_simp
    refine (kI _).mono ?_
    rintro e w4 ⟨rfl, rfl⟩
    refine hK _ _ ⟨E3.c0, E3.c1⟩ ?_
    clear hK
    have hHeld := And.intro E3.c0 E3.c1
    refine takeH 5 (some 20) (.bool false) rfl rfl (by kernel_rfl) (by kernel_rfl) (by kernel_rfl) (fun _ _ _ h => h) (yg_pick rfl (.tmp 17) (.tmp 19) (.const (.bool false)) rfl true rfl _ rfl) (by assumption) ?_
    simp only [Act.put, List.setIfInBounds_toArray, List.set_cons_zero, List.set_cons_succ]
    refine takeH 6 (some 21) (.bool false) rfl rfl (by kernel_rfl) (by kernel_rfl) (by kernel_rfl) (fun _ _ _ h => h) (yg_move rfl (.tmp 20) rfl _ rfl) (by assumption) ?_
    simp only [Act.put, List.setIfInBounds_toArray, List.set_cons_zero, List.set_cons_succ]
    refine takeH 7 (some 22) (undef) rfl rfl (by kernel_rfl) (by kernel_rfl) (by kernel_rfl) (fun _ _ _ h => h) (yg_skip rfl) (by assumption) ?_
    simp only [Act.put, List.setIfInBounds_toArray, List.set_cons_zero, List.set_cons_succ]
    refine takeH 8 (some 23) (undef) rfl rfl (by kernel_rfl) (by kernel_rfl) (by kernel_rfl) (fun _ _ _ h => h) (yg_skip rfl) (by assumption) ?_
    simp only [Act.put, List.setIfInBounds_toArray, List.set_cons_zero, List.set_cons_succ]
    refine takeH 9 (some 24) (.bool false) rfl rfl (by kernel_rfl) (by kernel_rfl) (by kernel_rfl) (fun _ _ _ h => h) (yg_pick rfl (.tmp 21) (.tmp 23) (.const (.bool false)) rfl false rfl _ rfl) (by assumption) ?_
    simp only [Act.put, List.setIfInBounds_toArray, List.set_cons_zero, List.set_cons_succ]
    refine takeH 10 (some 25) (.bool false) rfl rfl (by kernel_rfl) (by kernel_rfl) (by kernel_rfl) (fun _ _ _ h => h) (yg_move rfl (.tmp 24) rfl _ rfl) (by assumption) ?_
    simp only [Act.put, List.setIfInBounds_toArray, List.set_cons_zero, List.set_cons_succ]
    refine takeH 11 (some 26) (undef) rfl rfl (by kernel_rfl) (by kernel_rfl) (by kernel_rfl) (fun _ _ _ h => h) (yg_skip rfl) (by assumption) ?_
    simp only [Act.put, List.setIfInBounds_toArray, List.set_cons_zero, List.set_cons_succ]
    refine takeH 12 (some 27) (undef) rfl rfl (by kernel_rfl) (by kernel_rfl) (by kernel_rfl) (fun _ _ _ h => h) (yg_skip rfl) (by assumption) ?_
    simp only [Act.put, List.setIfInBounds_toArray, List.set_cons_zero, List.set_cons_succ]
    refine takeH 13 (some 28) (undef) rfl rfl (by kernel_rfl) (by kernel_rfl) (by kernel_rfl) (fun _ _ _ h => h) (yg_skip rfl) (by assumption) ?_
    simp only [Act.put, List.setIfInBounds_toArray, List.set_cons_zero, List.set_cons_succ]
    refine takeH 14 (some 29) (.bool false) rfl rfl (by kernel_rfl) (by kernel_rfl) (by kernel_rfl) (fun _ _ _ h => h) (yg_pick rfl (.tmp 25) (.tmp 28) (.const (.bool false)) rfl false rfl _ rfl) (by assumption) ?_
    simp only [Act.put, List.setIfInBounds_toArray, List.set_cons_zero, List.set_cons_succ]
    have E7 := E3.tn ((tnC w4 (w.heap.size + 1) 0 (.pointer X)).trans (tnC _ (w.heap.size + 1) 1 (.pointer Y))) (fun k hk hs => by simp at hk hs; omega)
    have r0 := R3.c0
    have f0 := R3.f0
    have r1 := R3.c1
    have f1 := R3.f1
    refine oneH 15 rfl (by kernel_rfl) (fun K' hK => ?_)
    go_simp
    refine hK _ _ ⟨E7.c0, E7.c1⟩ ?_
    clear hK
    refine takeH 16 (some 7) (.bool false) rfl rfl (by kernel_rfl) (by kernel_rfl) (by kernel_rfl) (fun _ _ _ h => h) (yg_assign rfl (.tmp 29) rfl _ rfl) ⟨E7.c0, E7.c1⟩ ?_
    simp only [Act.put, List.setIfInBounds_toArray, List.set_cons_zero, List.set_cons_succ]
    refine wpAnyH_done (by kernel_rfl) ?_ _
    have HB : Hid (Below w.heap.size w _) := ((B3.setCell (p := ⟨w.heap.size + 1, 0, none⟩) (by show w.heap.size ≤ w.heap.size + 1; omega) (.pointer X)).setCell (p := ⟨w.heap.size + 1, 1, none⟩) (by show w.heap.size ≤ w.heap.size + 1; omega) (.pointer Y))
    clear hHeld E1 E3 E7 R1 R3 B1 B3 bd bF b1' hl6 hXY
    go_wp2
    (try simp only [Exit.inBlock, Exit.then])
    refine bodyPost_ret (v := .tuple #[.agg #[.pointer X, .pointer Y], .bool false]) ?_ rfl ?_
    · rw [results_cell_tmp rfl]
      go_simp
    · exact ⟨X, Y, rfl, HB.out, fun h => by simp at h⟩
  cases r2
  · skip
    go_enter Try.func24, Try.ntmps24
    go_wp2_with fail
    refine (kA _ B0).mono ?_
    generalize (w.alloc (.cells #[.bool g, .slice ad len cap, .bool g', .slice ae len2 cbp] 32)).alloc (.cells #[.pointer none, .pointer none] 51) = w0 at *
    rintro e w1' ⟨X, Y, rfl, b1', hXY⟩
    have hR0 := R0.hi
    have E1 := BoxW.made w1' (.pointer X) (.pointer Y) 51
    have bF := below1 w1' (.cells #[.pointer X, .pointer Y] 51)
    have b1 := b1'.trans (bF.mono b1'.size)
    have R1 := R0.below b1 (Nat.le_refl _)
    have B1 := B0.trans (b1.mono B0.size)
    have hE1 : w0.heap.size ≤ w1'.heap.size := b1'.size
    clear R0 B0 b1 kA
    go_wp2_with fail
    generalize w1'.alloc (.cells #[.pointer X, .pointer Y] 51) = w1 at *
    have hl6 : ∀ i x, SG w1' i x → i < w1'.heap.size := fun _ _ h => h.lt
    generalize w1'.heap.size = f6 at *
    have bd := (Below.refl w1.heap.size w1).drew
    have E3 := E1.below bd (Nat.le_refl _)
    have R3 := R1.below bd (Nat.le_refl _)
    have B3 := B1.trans (bd.mono B1.size)
    refine wp_region_held_drew (S := fun W => W.cell? ⟨f6, 0, none⟩ = some (.pointer X) ∧ W.cell? ⟨f6, 1, none⟩ = some (.pointer Y)) (by kernel_rfl) ⟨E3.c0, E3.c1⟩ ?_
    intro hHeld
    generalize w1.drew = w3 at *
    refine takeH 0 (some 15) (.agg #[.pointer X, .pointer Y]) rfl rfl (by kernel_rfl) (by kernel_rfl) (by kernel_rfl) (fun _ _ _ h => h) (Or.inl ⟨rfl, fun W hW => by obtain ⟨_a, _b⟩ := hW; go_simp⟩) (by assumption) ?_
    simp only [Act.put, List.setIfInBounds_toArray, List.set_cons_zero, List.set_cons_succ]
    refine takeH 1 (some 16) (.bool true) rfl rfl (by kernel_rfl) (by kernel_rfl) (by kernel_rfl) (fun _ _ _ h => h) (yg_move rfl (.tmp 9) rfl _ rfl) (by assumption) ?_
    simp only [Act.put, List.setIfInBounds_toArray, List.set_cons_zero, List.set_cons_succ]
    refine takeH 2 (some 17) (.bool true) rfl rfl (by kernel_rfl) (by kernel_rfl) (by kernel_rfl) (fun _ _ _ h => h) (yg_move rfl (.tmp 16) rfl _ rfl) (by assumption) ?_
    simp only [Act.put, List.setIfInBounds_toArray, List.set_cons_zero, List.set_cons_succ]
    refine takeH 3 (some 18) (.int .i64 p) rfl rfl (by kernel_rfl) (by kernel_rfl) (by kernel_rfl) (fun _ _ _ h => h) (yg_move rfl (.tmp 1) rfl _ rfl) (by assumption) ?_
    simp only [Act.put, List.setIfInBounds_toArray, List.set_cons_zero, List.set_cons_succ]
    refine oneH 4 rfl (by kernel_rfl) (fun K' hK => ?_)
    go_simp
    refine (kI _).mono ?_
    rintro e w4 ⟨rfl, rfl⟩
    refine hK _ _ ⟨E3.c0, E3.c1⟩ ?_
    clear hK
    have hHeld := And.intro E3.c0 E3.c1
    refine takeH 5 (some 20) (.bool true) rfl rfl (by kernel_rfl) (by kernel_rfl) (by kernel_rfl) (fun _ _ _ h => h) (yg_pick rfl (.tmp 17) (.tmp 19) (.const (.bool false)) rfl true rfl _ rfl) (by assumption) ?_
    simp only [Act.put, List.setIfInBounds_toArray, List.set_cons_zero, List.set_cons_succ]
    refine takeH 6 (some 21) (.bool true) rfl rfl (by kernel_rfl) (by kernel_rfl) (by kernel_rfl) (fun _ _ _ h => h) (yg_move rfl (.tmp 20) rfl _ rfl) (by assumption) ?_
    simp only [Act.put, List.setIfInBounds_toArray, List.set_cons_zero, List.set_cons_succ]
    refine takeH 7 (some 22) (.int .i64 f) rfl rfl (by kernel_rfl) (by kernel_rfl) (by kernel_rfl) (fun _ _ _ h => h) (yg_move rfl (.tmp 2) rfl _ rfl) (by assumption) ?_
    simp only [Act.put, List.setIfInBounds_toArray, List.set_cons_zero, List.set_cons_succ]
    refine oneH 8 rfl (by kernel_rfl) (fun K' hK => ?_)
    go_simp
    refine (kJ _).mono ?_
    rintro e w4 ⟨rfl, rfl⟩
    refine hK _ _ ⟨E3.c0, E3.c1⟩ ?_
    clear hK
    have hHeld := And.intro E3.c0 E3.c1
    refine takeH 9 (some 24) (.bool false) rfl rfl (by kernel_rfl) (by kernel_rfl) (by kernel_rfl) (fun _ _ _ h => h) (yg_pick rfl (.tmp 21) (.tmp 23) (.const (.bool false)) rfl true rfl _ rfl) (by assumption) ?_
    simp only [Act.put, List.setIfInBounds_toArray, List.set_cons_zero, List.set_cons_succ]
    refine takeH 10 (some 25) (.bool false) rfl rfl (by kernel_rfl) (by kernel_rfl) (by kernel_rfl) (fun _ _ _ h => h) (yg_move rfl (.tmp 24) rfl _ rfl) (by assumption) ?_
    simp only [Act.put, List.setIfInBounds_toArray, List.set_cons_zero, List.set_cons_succ]
    refine takeH 11 (some 26) (undef) rfl rfl (by kernel_rfl) (by kernel_rfl) (by kernel_rfl) (fun _ _ _ h => h) (yg_skip rfl) (by assumption) ?_
    simp only [Act.put, List.setIfInBounds_toArray, List.set_cons_zero, List.set_cons_succ]
    refine takeH 12 (some 27) (undef) rfl rfl (by kernel_rfl) (by kernel_rfl) (by kernel_rfl) (fun _ _ _ h => h) (yg_skip rfl) (by assumption) ?_
    simp only [Act.put, List.setIfInBounds_toArray, List.set_cons_zero, List.set_cons_succ]
    refine takeH 13 (some 28) (undef) rfl rfl (by kernel_rfl) (by kernel_rfl) (by kernel_rfl) (fun _ _ _ h => h) (yg_skip rfl) (by assumption) ?_
    simp only [Act.put, List.setIfInBounds_toArray, List.set_cons_zero, List.set_cons_succ]
    refine takeH 14 (some 29) (.bool false) rfl rfl (by kernel_rfl) (by kernel_rfl) (by kernel_rfl) (fun _ _ _ h => h) (yg_pick rfl (.tmp 25) (.tmp 28) (.const (.bool false)) rfl false rfl _ rfl) (by assumption) ?_
    simp only [Act.put, List.setIfInBounds_toArray, List.set_cons_zero, List.set_cons_succ]
    have E7 := E3.tn ((tnC w4 (w.heap.size + 1) 0 (.pointer X)).trans (tnC _ (w.heap.size + 1) 1 (.pointer Y))) (fun k hk hs => by simp at hk hs; omega)
    have r0 := R3.c0
    have f0 := R3.f0
    have r1 := R3.c1
    have f1 := R3.f1
    refine oneH 15 rfl (by kernel_rfl) (fun K' hK => ?_)
    go_simp
    refine hK _ _ ⟨E7.c0, E7.c1⟩ ?_
    clear hK
    refine takeH 16 (some 7) (.bool false) rfl rfl (by kernel_rfl) (by kernel_rfl) (by kernel_rfl) (fun _ _ _ h => h) (yg_assign rfl (.tmp 29) rfl _ rfl) ⟨E7.c0, E7.c1⟩ ?_
    simp only [Act.put, List.setIfInBounds_toArray, List.set_cons_zero, List.set_cons_succ]
    refine wpAnyH_done (by kernel_rfl) ?_ _
    have HB : Hid (Below w.heap.size w _) := ((B3.setCell (p := ⟨w.heap.size + 1, 0, none⟩) (by show w.heap.size ≤ w.heap.size + 1; omega) (.pointer X)).setCell (p := ⟨w.heap.size + 1, 1, none⟩) (by show w.heap.size ≤ w.heap.size + 1; omega) (.pointer Y))
    clear hHeld E1 E3 E7 R1 R3 B1 B3 bd bF b1' hl6 hXY
    go_wp2
    (try simp only [Exit.inBlock, Exit.then])
    refine bodyPost_ret (v := .tuple #[.agg #[.pointer X, .pointer Y], .bool false]) ?_ rfl ?_
    · rw [results_cell_tmp rfl]
      go_simp
    · exact ⟨X, Y, rfl, HB.out, fun h => by simp at h⟩
  · skip
    go_enter Try.func24, Try.ntmps24
    go_wp2_with fail
    refine (kA _ B0).mono ?_
    generalize (w.alloc (.cells #[.bool g, .slice ad len cap, .bool g', .slice ae len2 cbp] 32)).alloc (.cells #[.pointer none, .pointer none] 51) = w0 at *
    rintro e w1' ⟨X, Y, rfl, b1', hXY⟩
    have hR0 := R0.hi
    have E1 := BoxW.made w1' (.pointer X) (.pointer Y) 51
    have bF := below1 w1' (.cells #[.pointer X, .pointer Y] 51)
    have b1 := b1'.trans (bF.mono b1'.size)
    have R1 := R0.below b1 (Nat.le_refl _)
    have B1 := B0.trans (b1.mono B0.size)
    have hE1 : w0.heap.size ≤ w1'.heap.size := b1'.size
    clear R0 B0 b1 kA
    go_wp2_with fail
    generalize w1'.alloc (.cells #[.pointer X, .pointer Y] 51) = w1 at *
    have hl6 : ∀ i x, SG w1' i x → i < w1'.heap.size := fun _ _ h => h.lt
    generalize w1'.heap.size = f6 at *
    have bd := (Below.refl w1.heap.size w1).drew
    have E3 := E1.below bd (Nat.le_refl _)
    have R3 := R1.below bd (Nat.le_refl _)
    have B3 := B1.trans (bd.mono B1.size)
    refine wp_region_held_drew (S := fun W => W.cell? ⟨f6, 0, none⟩ = some (.pointer X) ∧ W.cell? ⟨f6, 1, none⟩ = some (.pointer Y)) (by kernel_rfl) ⟨E3.c0, E3.c1⟩ ?_
    intro hHeld
    generalize w1.drew = w3 at *
    refine takeH 0 (some 15) (.agg #[.pointer X, .pointer Y]) rfl rfl (by kernel_rfl) (by kernel_rfl) (by kernel_rfl) (fun _ _ _ h => h) (Or.inl ⟨rfl, fun W hW => by obtain ⟨_a, _b⟩ := hW; go_simp⟩) (by assumption) ?_
    simp only [Act.put, List.setIfInBounds_toArray, List.set_cons_zero, List.set_cons_succ]
    refine takeH 1 (some 16) (.bool true) rfl rfl (by kernel_rfl) (by kernel_rfl) (by kernel_rfl) (fun _ _ _ h => h) (yg_move rfl (.tmp 9) rfl _ rfl) (by assumption) ?_
    simp only [Act.put, List.setIfInBounds_toArray, List.set_cons_zero, List.set_cons_succ]
    refine takeH 2 (some 17) (.bool true) rfl rfl (by kernel_rfl) (by kernel_rfl) (by kernel_rfl) (fun _ _ _ h => h) (yg_move rfl (.tmp 16) rfl _ rfl) (by assumption) ?_
    simp only [Act.put, List.setIfInBounds_toArray, List.set_cons_zero, List.set_cons_succ]
    refine takeH 3 (some 18) (.int .i64 p) rfl rfl (by kernel_rfl) (by kernel_rfl) (by kernel_rfl) (fun _ _ _ h => h) (yg_move rfl (.tmp 1) rfl _ rfl) (by assumption) ?_
    simp only [Act.put, List.setIfInBounds_toArray, List.set_cons_zero, List.set_cons_succ]
    refine oneH 4 rfl (by kernel_rfl) (fun K' hK => ?_)
    go_simp
    refine (kI _).mono ?_
    rintro e w4 ⟨rfl, rfl⟩
    refine hK _ _ ⟨E3.c0, E3.c1⟩ ?_
    clear hK
    have hHeld := And.intro E3.c0 E3.c1
    refine takeH 5 (some 20) (.bool true) rfl rfl (by kernel_rfl) (by kernel_rfl) (by kernel_rfl) (fun _ _ _ h => h) (yg_pick rfl (.tmp 17) (.tmp 19) (.const (.bool false)) rfl true rfl _ rfl) (by assumption) ?_
    simp only [Act.put, List.setIfInBounds_toArray, List.set_cons_zero, List.set_cons_succ]
    refine takeH 6 (some 21) (.bool true) rfl rfl (by kernel_rfl) (by kernel_rfl) (by kernel_rfl) (fun _ _ _ h => h) (yg_move rfl (.tmp 20) rfl _ rfl) (by assumption) ?_
    simp only [Act.put, List.setIfInBounds_toArray, List.set_cons_zero, List.set_cons_succ]
    refine takeH 7 (some 22) (.int .i64 f) rfl rfl (by kernel_rfl) (by kernel_rfl) (by kernel_rfl) (fun _ _ _ h => h) (yg_move rfl (.tmp 2) rfl _ rfl) (by assumption) ?_
    simp only [Act.put, List.setIfInBounds_toArray, List.set_cons_zero, List.set_cons_succ]
    refine oneH 8 rfl (by kernel_rfl) (fun K' hK => ?_)
    go_simp
    refine (kJ _).mono ?_
    rintro e w4 ⟨rfl, rfl⟩
    refine hK _ _ ⟨E3.c0, E3.c1⟩ ?_
    clear hK
    have hHeld := And.intro E3.c0 E3.c1
    refine takeH 9 (some 24) (.bool true) rfl rfl (by kernel_rfl) (by kernel_rfl) (by kernel_rfl) (fun _ _ _ h => h) (yg_pick rfl (.tmp 21) (.tmp 23) (.const (.bool false)) rfl true rfl _ rfl) (by assumption) ?_
    simp only [Act.put, List.setIfInBounds_toArray, List.set_cons_zero, List.set_cons_succ]
    refine takeH 10 (some 25) (.bool true) rfl rfl (by kernel_rfl) (by kernel_rfl) (by kernel_rfl) (fun _ _ _ h => h) (yg_move rfl (.tmp 24) rfl _ rfl) (by assumption) ?_
    simp only [Act.put, List.setIfInBounds_toArray, List.set_cons_zero, List.set_cons_succ]
    refine takeH 11 (some 26) (.int .i64 p) rfl rfl (by kernel_rfl) (by kernel_rfl) (by kernel_rfl) (fun _ _ _ h => h) (yg_move rfl (.tmp 1) rfl _ rfl) (by assumption) ?_
    simp only [Act.put, List.setIfInBounds_toArray, List.set_cons_zero, List.set_cons_succ]
    refine takeH 12 (some 27) (.int .i64 f) rfl rfl (by kernel_rfl) (by kernel_rfl) (by kernel_rfl) (fun _ _ _ h => h) (yg_move rfl (.tmp 2) rfl _ rfl) (by assumption) ?_
    simp only [Act.put, List.setIfInBounds_toArray, List.set_cons_zero, List.set_cons_succ]
    refine takeH 13 (some 28) (.bool (decide (f ≤ p))) rfl rfl (by kernel_rfl) (by kernel_rfl) (by kernel_rfl) (fun _ _ _ h => h) (Or.inl ⟨rfl, fun W hW => by obtain _ := hW; go_simp⟩) (by assumption) ?_
    simp only [Act.put, List.setIfInBounds_toArray, List.set_cons_zero, List.set_cons_succ]
    refine takeH 14 (some 29) (.bool (decide (f ≤ p))) rfl rfl (by kernel_rfl) (by kernel_rfl) (by kernel_rfl) (fun _ _ _ h => h) (yg_pick rfl (.tmp 25) (.tmp 28) (.const (.bool false)) rfl true rfl _ rfl) (by assumption) ?_
    simp only [Act.put, List.setIfInBounds_toArray, List.set_cons_zero, List.set_cons_succ]
    have E7 := E3.tn ((tnC w4 (w.heap.size + 1) 0 (.pointer X)).trans (tnC _ (w.heap.size + 1) 1 (.pointer Y))) (fun k hk hs => by simp at hk hs; omega)
    have r0 := R3.c0
    have f0 := R3.f0
    have r1 := R3.c1
    have f1 := R3.f1
    refine oneH 15 rfl (by kernel_rfl) (fun K' hK => ?_)
    go_simp
    refine hK _ _ ⟨E7.c0, E7.c1⟩ ?_
    clear hK
    refine takeH 16 (some 7) (.bool (decide (f ≤ p))) rfl rfl (by kernel_rfl) (by kernel_rfl) (by kernel_rfl) (fun _ _ _ h => h) (yg_assign rfl (.tmp 29) rfl _ rfl) ⟨E7.c0, E7.c1⟩ ?_
    simp only [Act.put, List.setIfInBounds_toArray, List.set_cons_zero, List.set_cons_succ]
    refine wpAnyH_done (by kernel_rfl) ?_ _
    have HB : Hid (Below w.heap.size w _) := ((B3.setCell (p := ⟨w.heap.size + 1, 0, none⟩) (by show w.heap.size ≤ w.heap.size + 1; omega) (.pointer X)).setCell (p := ⟨w.heap.size + 1, 1, none⟩) (by show w.heap.size ≤ w.heap.size + 1; omega) (.pointer Y))
    have hn := hXY (by first | exact trivial | rfl)
    have HQ : Hid (∃ i j, X = some ⟨i, 0, none⟩ ∧ Y = some ⟨j, 0, none⟩ ∧ SG ((w4.setCell ⟨w.heap.size + 1, 0, none⟩ (.pointer X)).setCell ⟨w.heap.size + 1, 1, none⟩ (.pointer Y)) i x ∧ SG ((w4.setCell ⟨w.heap.size + 1, 0, none⟩ (.pointer X)).setCell ⟨w.heap.size + 1, 1, none⟩ (.pointer Y)) j y) := by
      obtain ⟨i, j, hi, hj, si, sj, li, lj⟩ := hn
      have si2 := (si.below bF (hl6 _ _ si)).below bd (si.below bF (hl6 _ _ si)).lt
      have sj2 := (sj.below bF (hl6 _ _ sj)).below bd (sj.below bF (hl6 _ _ sj)).lt
      exact ⟨i, j, hi, hj, si2.tn ((tnC w4 (w.heap.size + 1) 0 (.pointer X)).trans (tnC _ (w.heap.size + 1) 1 (.pointer Y))) (fun h => by simp at h; omega), sj2.tn ((tnC w4 (w.heap.size + 1) 0 (.pointer X)).trans (tnC _ (w.heap.size + 1) 1 (.pointer Y))) (fun h => by simp at h; omega)⟩
    clear hHeld E1 E3 E7 R1 R3 B1 B3 bd bF b1' hl6 hXY hn
    go_wp2
    (try simp only [Exit.inBlock, Exit.then])
    refine bodyPost_ret (v := .tuple #[.agg #[.pointer X, .pointer Y], .bool (decide (f ≤ p))]) ?_ rfl ?_
    · rw [results_cell_tmp rfl]
      go_simp
    · exact ⟨X, Y, by simp, HB.out, fun _ => HQ.out⟩

end Go.Proofs.Ytnplnekfeabneaa
