/- The program's WholeNeg, by its contract. -/
import Derived.Test.YtlnpfjnpnjiepaaSWhole
namespace Go.Proofs.Ytlnpfjnpnjiepaa
open Go.RowKit

theorem wnegR_len (a : Wh) : (wnegR a).2.length ≤ 1048576 := by
  unfold wnegR
  split
  · rename_i h
    have h1 := mkW_of h
    have h2 := okW_ok h
    have h3 := ((okB_iff a.2).1 h2).1
    have h4 : limbs (valW a).natAbs = a.2 := by rw [h1]; show _ = limbs _; rw [mkW_val]
    show (limbs (-(valW a)).natAbs).length ≤ 1048576
    rw [Int.natAbs_neg, h4]
    omega
  · simp

set_option maxRecDepth 20000 in
set_option maxHeartbeats 1600000 in
theorem iWholeNeg (va : Value) (a : Wh) (w : World) (ha : rowW w va a) (hl : a.2.length ≤ 1048576) :
    Calls Try.prog 16 #[va] w fun e w' => ∃ v, e = .returned v ∧ ownsW w' w.heap.size v (wnegR a) ∧ Below w.heap.size w w' := by
  by_cases hok : okW a = true
  · have kF := fun W (h : Below w.heap.size w W) => sFromYes va a W (ha.below h (Nat.le_refl _)) hl hok
    have HR : Hid (wnegR a = (fitW (-(valW a))).1) := by
      show _ = _
      have h1 := mkW_of hok
      have h3 := ((okB_iff a.2).1 (okW_ok hok)).1
      have h4 : limbs (valW a).natAbs = a.2 := by rw [h1]; show _ = limbs _; rw [mkW_val]
      unfold wnegR fitW
      rw [if_pos hok, if_pos (by rw [Int.natAbs_neg, h4]; exact h3)]
    have kN := fun b W h => sNegated b (valW a) W h
    have kW := fun b W h => sWhole b (-(valW a)) W h
    obtain ⟨s, rfl, hs⟩ := ha
    obtain ⟨ad, cap, rfl, -⟩ := id hs
    obtain ⟨r, hr⟩ : ∃ r, wnegR a = r := ⟨_, rfl⟩
    rw [hr] at HR ⊢
    clear hr
    generalize fitW (-(valW a)) = fw at *
    generalize -(valW a) = y at *
    generalize valW a = z at *
    generalize a.1 = g at *
    generalize a.2.length = len at *
    have B0 := below2 w (.cells #[.bool g, .slice ad len cap] 26) (.cells #[.bool false, .slice none 0 0] 26)
    have s1 : (w.alloc (.cells #[.bool g, .slice ad len cap] 26)).heap.size = w.heap.size + 1 := by simp
    have R0 := BoxW.made (w.alloc (.cells #[.bool g, .slice ad len cap] 26)) (.bool false) (.slice none 0 0) 26
    rw [s1] at R0
    clear hs hok s1
    go_enter Try.func16, Try.ntmps16
    go_wp2_with fail
    refine (kF _ B0).mono ?_
    generalize (w.alloc (.cells #[.bool g, .slice ad len cap] 26)).alloc (.cells #[.bool false, .slice none 0 0] 26) = w0 at *
    rintro e w1 ⟨b, rfl, hb, sb, b1⟩
    have R1 := R0.below b1 (Nat.le_refl _)
    have B1 := B0.trans (b1.mono B0.size)
    go_wp2_with fail
    refine (kN b w1 sb).mono ?_
    rintro e w2 ⟨c, rfl, hc, sc, b2⟩
    have R2 := R1.below b2 (Nat.le_refl _)
    have B2 := B1.trans (b2.mono B1.size)
    go_wp2_with fail
    refine (kW c w2 sc).mono ?_
    rintro e w3 ⟨v3, rfl, o3, b3⟩
    have R3 := R2.below b3 (Nat.le_refl _)
    have B3 := B2.trans (b3.mono B2.size)
    obtain ⟨⟨g3, l3⟩, ok3⟩ := fw
    obtain ⟨s3, rfl, q3⟩ := o3
    obtain ⟨ad3, cap3, rfl, -⟩ := q3.row
    have hb2 := B2.size
    have hR := R2.hi
    have Y4 := below1 w3 (.cells #[.bool g3, .slice ad3 l3.length cap3] 26)
    have R4 := R3.below Y4 (Nat.le_refl _)
    have R5 := R3.below (below1 w3 (.cells #[.bool false, .slice none 0 0] 26)) (Nat.le_refl _)
    have B4 := B3.trans (Y4.mono B3.size)
    have O4 := World.ownsRow.alloc q3 (.cells #[.bool g3, .slice ad3 l3.length cap3] 26)
    have HO : Hid ((w3.alloc (.cells #[.bool g3, .slice ad3 l3.length cap3] 26)).ownsRow w2.heap.size 3 1 (.slice ad3 l3.length cap3) l3.length (l3.map (Value.int .i64))) := O4
    have d0 := R4.c0
    have d1 := R4.c1
    have f0 := R4.f0
    have f1 := R4.f1
    have hne : ¬ (w3.heap.size = w.heap.size + 1) := by have := b3.size; omega
    have hne2 : ¬ (w.heap.size + 1 = w3.heap.size) := by have := b3.size; omega
    clear R0 R1 R2 R3 R4 R5 B0 B1 b1 b2 b3 kF kN kW sb sc q3 O4 Y4
    go_wp2
    (try simp only [Exit.inBlock, Exit.then])
    refine bodyPost_ret (v := .agg #[.bool g3, .slice ad3 l3.length cap3]) ?_ rfl ⟨_, rfl, ?_, ?_⟩
    · rw [results_cell1 rfl]
      go_simp
    · rw [HR.out]
      refine ⟨_, rfl, ?_⟩
      have o2 := ownsRow_setCell_below (a := ⟨w.heap.size + 1, 0, none⟩) HO.out (by exact hR) (.bool g3)
      have o3 := ownsRow_setCell_below (a := ⟨w.heap.size + 1, 1, none⟩) o2 (by exact hR) (.slice ad3 l3.length cap3)
      exact ownsRow_mono o3 hb2
    · exact (B4.setCell (p := ⟨w.heap.size + 1, 0, none⟩) (by show w.heap.size ≤ w.heap.size + 1; omega) _).setCell (p := ⟨w.heap.size + 1, 1, none⟩) (by show w.heap.size ≤ w.heap.size + 1; omega) _
  · have hf : okW a = false := by simpa using hok
    have kF := fun W (h : Below w.heap.size w W) => sFromNo va a W (ha.below h (Nat.le_refl _)) hl hf
    have HR : Hid (wnegR a = (false, [])) := by show _ = _; unfold wnegR; rw [if_neg hok]
    obtain ⟨s, rfl, hs⟩ := ha
    obtain ⟨ad, cap, rfl, -⟩ := id hs
    obtain ⟨r, hr⟩ : ∃ r, wnegR a = r := ⟨_, rfl⟩
    rw [hr] at HR ⊢
    clear hr
    generalize a.1 = g at *
    generalize a.2.length = len at *
    have B0 := below2 w (.cells #[.bool g, .slice ad len cap] 26) (.cells #[.bool false, .slice none 0 0] 26)
    have s1 : (w.alloc (.cells #[.bool g, .slice ad len cap] 26)).heap.size = w.heap.size + 1 := by simp
    have R0 := BoxW.made (w.alloc (.cells #[.bool g, .slice ad len cap] 26)) (.bool false) (.slice none 0 0) 26
    rw [s1] at R0
    clear hs hok hf s1
    go_enter Try.func16, Try.ntmps16
    go_wp2_with fail
    refine (kF _ B0).mono ?_
    generalize (w.alloc (.cells #[.bool g, .slice ad len cap] 26)).alloc (.cells #[.bool false, .slice none 0 0] 26) = w0 at *
    rintro e w1 ⟨rfl, b1⟩
    have R1 := R0.below b1 (Nat.le_refl _)
    have B1 := B0.trans (b1.mono B0.size)
    have d0 := R1.c0
    have d1 := R1.c1
    have f0 := R1.f0
    have f1 := R1.f1
    clear R0 R1 B0 b1 kF
    go_wp2
    (try simp only [Exit.inBlock, Exit.then])
    refine bodyPost_ret (v := .agg #[.bool false, .slice none 0 0]) ?_ rfl ⟨_, rfl, ?_, ?_⟩
    · rw [results_cell1 rfl]
      go_simp
    · rw [HR.out]
      exact nilW _ _
    · exact (B1.setCell (p := ⟨w.heap.size + 1, 0, none⟩) (by show w.heap.size ≤ w.heap.size + 1; omega) _).setCell (p := ⟨w.heap.size + 1, 1, none⟩) (by show w.heap.size ≤ w.heap.size + 1; omega) _

end Go.Proofs.Ytlnpfjnpnjiepaa
