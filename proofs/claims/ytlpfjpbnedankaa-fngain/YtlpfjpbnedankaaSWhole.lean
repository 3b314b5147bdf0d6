/- The program's whole and negated, each by its contract. -/
import Derived.Test.YtlpfjpbnedankaaSGB
import Derived.Test.YtlpfjpbnedankaaGB
import Derived.Deep.RegionHeld
namespace Go.Proofs.Ytlpfjpbnedankaa
open Go.RowKit
set_option linter.unusedSimpArgs false

theorem nilW (w : World) (base : Nat) : ownsW w base (.agg #[.bool false, .slice none 0 0]) (false, []) := ⟨_, rfl, nil_own w base⟩

set_option maxRecDepth 20000 in
set_option maxHeartbeats 1600000 in
/-- whole: sign and limbs, where there are not too many. -/
theorem sWhole (b : Nat) (z : Int) (w : World) (h : SG w b z) :
    Calls Try.prog 32 #[.pointer (some ⟨b, 0, none⟩)] w fun e w' => ∃ v, e = .returned (.tuple #[v, .bool (fitW z).2]) ∧ ownsW w' w.heap.size v (fitW z).1 ∧ Below w.heap.size w w' := by
  have hl := h.mag.len
  have hlt := h.lt
  have B0 := below1 w (.cells #[.bool false, .slice none 0 0] 27)
  have X0 := BoxW.made w (.bool false) (.slice none 0 0) 27
  have S0 := h.below B0 hlt
  have hs0 : (w.alloc (.cells #[.bool false, .slice none 0 0] 27)).heap.size = w.heap.size + 1 := by simp
  have kL := fun W => gList z.natAbs W hl
  clear h
  by_cases h48 : (limbs z.natAbs).length ≤ 48
  · have HF : Hid (fitW z = (mkW z, true)) := by show _ = _; rw [fitW, if_pos h48]
    have hfr : fitR z.natAbs = (limbs z.natAbs, true) := by unfold fitR; rw [if_pos h48]
    simp only [hfr] at kL
    have HM : Hid (mkW z = (decide (z < 0), limbs z.natAbs)) := rfl
    clear h48 hfr
    go_enter Try.func32, Try.ntmps32
    go_wp2_with (first | (go_at_call 65; fail) | ((with_reducible (refine wpL_id ?_)); refine wpA_load rfl (.tmp 9) rfl b 1 z.natAbs rfl S0.mag ?_))
    generalize w.alloc (.cells #[.bool false, .slice none 0 0] 27) = w0 at *
    refine (kL _).mono ?_
    rintro e w1 ⟨v1, rfl, o1, b1⟩
    have S1 := S0.below b1 S0.lt
    have X1 := X0.below b1 (Nat.le_refl _)
    have B1 := B0.trans (b1.mono B0.size)
    obtain ⟨ad, cap, rfl, -⟩ := o1.row
    have c0 := S1.sign
    have d0 := X1.c0
    have d1 := X1.c1
    have f0 := X1.f0
    have f1 := X1.f1
    obtain ⟨g, hg⟩ : ∃ g, decide (z < 0) = g := ⟨_, rfl⟩
    rw [hg] at c0 HM
    obtain ⟨xs, hxs⟩ : ∃ xs, limbs z.natAbs = xs := ⟨_, rfl⟩
    have o1' : ownsI w1 w0.heap.size (.slice ad xs.length cap) xs := by rw [← hxs]; exact o1
    rw [hxs] at HM
    have HO : Hid (ownsI w1 w0.heap.size (.slice ad xs.length cap) xs) := o1'
    have hne : ¬ (b = w.heap.size) := by omega
    have HZ : Hid (limbs z.natAbs = xs) := hxs
    rw [hxs]
    clear o1 o1' S1 X1 S0 X0 b1 kL hxs hg
    go_wp2
    (try simp only [Exit.inBlock, Exit.then])
    refine bodyPost_ret (v := .tuple #[.agg #[.bool g, .slice ad xs.length cap], .bool true]) ?_ rfl ⟨_, by rw [HF.out], ?_, ?_⟩
    · rw [results_cell_tmp rfl]
      go_simp
    · rw [HF.out]
      show ownsW _ _ _ (mkW z)
      rw [HM.out]
      refine ⟨_, rfl, ?_⟩
      have o2 := ownsRow_setCell_below (a := ⟨w.heap.size, 0, none⟩) HO.out (by show w.heap.size < w0.heap.size; omega) (.bool g)
      have o3 := ownsRow_setCell_below (a := ⟨w.heap.size, 1, none⟩) o2 (by show w.heap.size < w0.heap.size; omega) (.slice ad xs.length cap)
      exact ownsRow_mono o3 (by omega)
    · exact (B1.setCell (p := ⟨w.heap.size, 0, none⟩) (Nat.le_refl _) _).setCell (p := ⟨w.heap.size, 1, none⟩) (Nat.le_refl _) _
  · have HF : Hid (fitW z = ((false, []), false)) := by show _ = _; rw [fitW, if_neg h48]
    have hfr : fitR z.natAbs = ([], false) := by unfold fitR; rw [if_neg h48]
    simp only [hfr] at kL
    clear h48 hfr
    go_enter Try.func32, Try.ntmps32
    go_wp2_with (first | (go_at_call 65; fail) | ((with_reducible (refine wpL_id ?_)); refine wpA_load rfl (.tmp 9) rfl b 1 z.natAbs rfl S0.mag ?_))
    generalize w.alloc (.cells #[.bool false, .slice none 0 0] 27) = w0 at *
    refine (kL _).mono ?_
    rintro e w1 ⟨v1, rfl, o1, b1⟩
    have X1 := X0.below b1 (Nat.le_refl _)
    have B1 := B0.trans (b1.mono B0.size)
    have d0 := X1.c0
    have d1 := X1.c1
    have f0 := X1.f0
    have f1 := X1.f1
    clear o1 X1 S0 X0 b1 kL
    go_wp2
    (try simp only [Exit.inBlock, Exit.then])
    refine bodyPost_ret (v := .tuple #[.agg #[.bool false, .slice none 0 0], .bool false]) ?_ rfl ⟨_, by rw [HF.out], ?_, ?_⟩
    · rw [results_cell_tmp rfl]
      go_simp
    · rw [HF.out]
      exact nilW _ _
    · exact (B1.setCell (p := ⟨w.heap.size, 0, none⟩) (Nat.le_refl _) _).setCell (p := ⟨w.heap.size, 1, none⟩) (Nat.le_refl _) _

set_option maxRecDepth 20000 in
set_option maxHeartbeats 1600000 in
/-- negated. -/
theorem sNegated (b : Nat) (z : Int) (w : World) (h : SG w b z) :
    Calls Try.prog 109 #[.pointer (some ⟨b, 0, none⟩)] w fun e w' => ∃ c, e = .returned (.pointer (some ⟨c, 0, none⟩)) ∧ w.heap.size ≤ c ∧ SG w' c (-z) ∧ Below w.heap.size w w' := by
  have hl := h.mag.len
  have kN := fun W => newSigned_c (!(decide (z < 0))) z.natAbs W hl
  have hz : (if (!(decide (z < 0))) = true then -(z.natAbs : Int) else (z.natAbs : Int)) = -z := by by_cases hn : z < 0 <;> simp [hn] <;> omega
  simp only [hz] at kN
  have c0 := h.sign
  have HS := h.mag
  obtain ⟨g, hg⟩ : ∃ g, decide (z < 0) = g := ⟨_, rfl⟩
  rw [hg] at c0
  simp only [hg] at kN
  have hn0 : (⟨b, 0, none⟩ : Addr) = ⟨b, 0, none⟩ := rfl
  clear hz hg hn0 h
  generalize z.natAbs = n at *
  generalize -z = y at *
  go_enter Try.func109, Try.ntmps109
  go_wp2_with fail
  refine wp_region_held_drew (S := fun W => W.cell? ⟨b, 0, none⟩ = some (.bool g) ∧ GA W b 1 n) (by kernel_rfl) ⟨c0, HS.drew⟩ ?_
  intro hHeld
  refine takeH 0 (some 3) (.pointer (some ⟨b, 0, none⟩)) rfl rfl (by kernel_rfl) (by kernel_rfl) (by kernel_rfl) (fun _ _ _ h => h) (yg_move rfl (.tmp 0) rfl _ rfl) (by assumption) ?_
  simp only [Act.put, List.setIfInBounds_toArray, List.set_cons_zero, List.set_cons_succ]
  refine takeH 1 (some 4) (.pointer (some ⟨b, 0, none⟩)) rfl rfl (by kernel_rfl) (by kernel_rfl) (by kernel_rfl) (fun _ _ _ h => h) (Or.inl ⟨rfl, fun W hW => by obtain ⟨c0, -⟩ := hW; go_simp⟩) (by assumption) ?_
  simp only [Act.put, List.setIfInBounds_toArray, List.set_cons_zero, List.set_cons_succ]
  refine takeH 2 (some 5) (.pointer (some ⟨b, 0, none⟩)) rfl rfl (by kernel_rfl) (by kernel_rfl) (by kernel_rfl) (fun _ _ _ h => h) (Or.inl ⟨rfl, fun W hW => by obtain ⟨c0, -⟩ := hW; go_simp⟩) (by assumption) ?_
  simp only [Act.put, List.setIfInBounds_toArray, List.set_cons_zero, List.set_cons_succ]
  refine takeH 3 (some 6) (.bool g) rfl rfl (by kernel_rfl) (by kernel_rfl) (by kernel_rfl) (fun _ _ _ h => h) (Or.inl ⟨rfl, fun W hW => by obtain ⟨c0, -⟩ := hW; go_simp⟩) (by assumption) ?_
  simp only [Act.put, List.setIfInBounds_toArray, List.set_cons_zero, List.set_cons_succ]
  refine takeH 4 (some 7) (.bool (!g)) rfl rfl (by kernel_rfl) (by kernel_rfl) (by kernel_rfl) (fun _ _ _ h => h) (Or.inl ⟨rfl, fun W hW => by obtain ⟨c0, -⟩ := hW; go_simp⟩) (by assumption) ?_
  simp only [Act.put, List.setIfInBounds_toArray, List.set_cons_zero, List.set_cons_succ]
  refine takeH 5 (some 8) (.pointer (some ⟨b, 0, none⟩)) rfl rfl (by kernel_rfl) (by kernel_rfl) (by kernel_rfl) (fun _ _ _ h => h) (yg_move rfl (.tmp 0) rfl _ rfl) (by assumption) ?_
  simp only [Act.put, List.setIfInBounds_toArray, List.set_cons_zero, List.set_cons_succ]
  refine takeH 6 (some 9) (.pointer (some ⟨b, 0, none⟩)) rfl rfl (by kernel_rfl) (by kernel_rfl) (by kernel_rfl) (fun _ _ _ h => h) (Or.inl ⟨rfl, fun W hW => by obtain ⟨c0, -⟩ := hW; go_simp⟩) (by assumption) ?_
  simp only [Act.put, List.setIfInBounds_toArray, List.set_cons_zero, List.set_cons_succ]
  refine takeH 7 (some 10) (.pointer (some ⟨b, 1, none⟩)) rfl rfl (by kernel_rfl) (by kernel_rfl) (by kernel_rfl) (fun _ _ _ h => h) (Or.inl ⟨rfl, fun W hW => by obtain ⟨c0, -⟩ := hW; go_simp⟩) (by assumption) ?_
  simp only [Act.put, List.setIfInBounds_toArray, List.set_cons_zero, List.set_cons_succ]
  refine takeH 8 (some 11) (.agg (gC n)) rfl rfl (by kernel_rfl) (by kernel_rfl) (by kernel_rfl) (fun _ _ _ h => h) (yg_load rfl (.tmp 10) rfl b 1 n rfl (fun W h => h.2)) (by assumption) ?_
  simp only [Act.put, List.setIfInBounds_toArray, List.set_cons_zero, List.set_cons_succ]
  refine oneH 9 rfl (by kernel_rfl) (fun K' hK => ?_)
  go_simp
  refine (kN _).mono ?_
  rintro e w5 ⟨c, rfl, hc, s5, b5⟩
  have S5 : w5.cell? ⟨b, 0, none⟩ = some (.bool g) ∧ GA w5 b 1 n := ⟨(b5.cell (p := ⟨b, 0, none⟩) HS.drew.lt).trans hHeld.1, hHeld.2.below b5 HS.drew.lt⟩
  refine hK _ _ S5 ?_
  clear hK hHeld
  refine takeH 10 (some 2) (.pointer (some ⟨c, 0, none⟩)) rfl rfl (by kernel_rfl) (by kernel_rfl) (by kernel_rfl) (fun _ _ _ h => h) (yg_assign rfl (.tmp 12) rfl _ rfl) (by assumption) ?_
  simp only [Act.put, List.setIfInBounds_toArray, List.set_cons_zero, List.set_cons_succ]
  refine wpAnyH_done (by kernel_rfl) ?_ _
  clear S5 c0
  go_wp2
  go_ret
  exact ⟨c, rfl, hc, s5, (show Below w.heap.size w w.drew from ⟨rfl, rfl, rfl, Nat.le_refl _, fun _ _ => rfl⟩).trans b5⟩

end Go.Proofs.Ytlpfjpbnedankaa
