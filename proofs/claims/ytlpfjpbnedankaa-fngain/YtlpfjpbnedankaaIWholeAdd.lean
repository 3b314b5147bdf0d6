/- The program's WholeAdd, by its contract. -/
import Derived.Test.YtlpfjpbnedankaaSC
import Derived.Test.YtlpfjpbnedankaaSgB
namespace Go.Proofs.Ytlpfjpbnedankaa
open Go.RowKit

theorem waddR_len (a b : Wh) : (waddR a b).1.2.length ≤ 1048576 := by
  unfold waddR
  split
  · exact fitW_len _
  · simp

set_option maxRecDepth 20000 in
set_option maxHeartbeats 3200000 in
theorem iWholeAdd (va vb : Value) (a b : Wh) (w : World) (ha : rowW w va a) (hb : rowW w vb b) (hla : a.2.length ≤ 1048576) (hlb : b.2.length ≤ 1048576) :
    Calls Try.prog 15 #[va, vb] w fun e w' => ∃ v, e = .returned (.tuple #[v, .bool (waddR a b).2]) ∧ ownsW w' w.heap.size v (waddR a b).1 ∧ Below w.heap.size w w' := by
  by_cases hok : okW a = true ∧ okW b = true
  · have kT := fun W (h : Below w.heap.size w W) => twoYes va vb a b W (ha.below h (Nat.le_refl _)) (hb.below h (Nat.le_refl _)) hla hlb hok.1 hok.2
    have l1 : (limbs (valW a).natAbs).length ≤ 48 := by
      have h3 := ((okW_iff a).1 hok.1).1.1
      have : (mkW (valW a)).2.length ≤ 48 := by rw [← mkW_of hok.1]; exact h3
      exact this
    have l2 : (limbs (valW b).natAbs).length ≤ 48 := by
      have h3 := ((okW_iff b).1 hok.2).1.1
      have : (mkW (valW b)).2.length ≤ 48 := by rw [← mkW_of hok.2]; exact h3
      exact this
    have kP := fun p q W h1 h2 => sgPlus p q (valW a) (valW b) W h1 h2 (by omega) (by omega)
    have kW := fun b' W h => sWhole b' (valW a + valW b) W h
    have HR : Hid (waddR a b = fitW (valW a + valW b)) := by show _ = _; unfold waddR; rw [if_pos hok]
    obtain ⟨rr, hr⟩ : ∃ r, waddR a b = r := ⟨_, rfl⟩
    rw [hr] at HR
    rw [hr]
    clear hok hr l1 l2
    generalize fitW (valW a + valW b) = fw at *
    generalize valW a + valW b = z at *
    generalize valW a = x at *
    generalize valW b = y at *
    obtain ⟨s, rfl, hs⟩ := ha
    obtain ⟨ad, cap, rfl, -⟩ := id hs
    obtain ⟨t, rfl, ht⟩ := hb
    obtain ⟨ae, cbp, rfl, -⟩ := id ht
    generalize a.1 = g at *
    generalize a.2.length = len at *
    generalize b.1 = g2 at *
    generalize b.2.length = len2 at *
    have B0 := below3 w (.cells #[.bool g, .slice ad len cap] 27) (.cells #[.bool g2, .slice ae len2 cbp] 27) (.cells #[.bool false, .slice none 0 0] 27)
    have s2 : ((w.alloc (.cells #[.bool g, .slice ad len cap] 27)).alloc (.cells #[.bool g2, .slice ae len2 cbp] 27)).heap.size = w.heap.size + 1 + 1 := by simp
    have R0 := BoxW.made ((w.alloc (.cells #[.bool g, .slice ad len cap] 27)).alloc (.cells #[.bool g2, .slice ae len2 cbp] 27)) (.bool false) (.slice none 0 0) 27
    rw [s2] at R0
    clear s2 hs ht
    go_enter Try.func15, Try.ntmps15
    go_wp2_with fail
    refine (kT _ B0).mono ?_
    generalize ((w.alloc (.cells #[.bool g, .slice ad len cap] 27)).alloc (.cells #[.bool g2, .slice ae len2 cbp] 27)).alloc (.cells #[.bool false, .slice none 0 0] 27) = w0 at *
    rintro e w1 ⟨p, q, rfl, sp, sq, b1⟩
    have R1 := R0.below b1 (Nat.le_refl _)
    have B1 := B0.trans (b1.mono B0.size)
    go_wp2_with fail
    refine (kP p q w1 sp sq).mono ?_
    rintro e w2 ⟨c, rfl, hc, sc, b2⟩
    have R2 := R1.below b2 (Nat.le_refl _)
    have B2 := B1.trans (b2.mono B1.size)
    go_wp2_with fail
    refine (kW c w2 sc).mono ?_
    rintro e w3 ⟨v3, rfl, o3, b3⟩
    have R3 := R2.below b3 (Nat.le_refl _)
    have B3 := B2.trans (b3.mono B2.size)
    obtain ⟨⟨g3, l3⟩, ok3⟩ := fw
    obtain ⟨s3, rfl, q3⟩ := o3
    obtain ⟨ad3, cap3, rfl, -⟩ := q3.row
    have hR := R2.hi
    have d0 := R3.c0
    have d1 := R3.c1
    have f0 := R3.f0
    have f1 := R3.f1
    have o6 := ownsRow_setCell_below (a := ⟨w.heap.size + 1 + 1, 0, none⟩) q3 (by exact hR) (.bool g3)
    have o7 := ownsRow_setCell_below (a := ⟨w.heap.size + 1 + 1, 1, none⟩) o6 (by exact hR) (.slice ad3 l3.length cap3)
    have HO : Hid (World.ownsRow _ w.heap.size 3 1 (.slice ad3 l3.length cap3) l3.length (l3.map (Value.int .i64))) := ownsRow_mono o7 B2.size
    have HB : Hid (Below w.heap.size w _) := (B3.setCell (p := ⟨w.heap.size + 1 + 1, 0, none⟩) (by show w.heap.size ≤ w.heap.size + 1 + 1; omega) (.bool g3)).setCell (p := ⟨w.heap.size + 1 + 1, 1, none⟩) (by show w.heap.size ≤ w.heap.size + 1 + 1; omega) (.slice ad3 l3.length cap3)
    clear o6 o7 R0 R1 R2 R3 B0 B1 B2 B3 b1 b2 b3 kT kP kW sp sq sc q3
    go_wp2
    (try simp only [Exit.inBlock, Exit.then])
    refine bodyPost_ret (v := .tuple #[.agg #[.bool g3, .slice ad3 l3.length cap3], .bool ok3]) ?_ rfl ⟨_, by rw [HR.out], by rw [HR.out]; exact ⟨_, rfl, HO.out⟩, HB.out⟩
    rw [results_cell_tmp rfl]
    go_simp
  · have hn : okW a = false ∨ okW b = false := by
      cases h1 : okW a
      · exact .inl rfl
      · cases h2 : okW b
        · exact .inr rfl
        · exact absurd ⟨h1, h2⟩ hok
    have kT := fun W (h : Below w.heap.size w W) => twoNo va vb a b W (ha.below h (Nat.le_refl _)) (hb.below h (Nat.le_refl _)) hla hlb hn
    have HR : Hid (waddR a b = ((false, []), false)) := by show _ = _; unfold waddR; rw [if_neg hok]
    obtain ⟨rr, hr⟩ : ∃ r, waddR a b = r := ⟨_, rfl⟩
    rw [hr] at HR
    rw [hr]
    clear hok hn hr
    obtain ⟨s, rfl, hs⟩ := ha
    obtain ⟨ad, cap, rfl, -⟩ := id hs
    obtain ⟨t, rfl, ht⟩ := hb
    obtain ⟨ae, cbp, rfl, -⟩ := id ht
    generalize a.1 = g at *
    generalize a.2.length = len at *
    generalize b.1 = g2 at *
    generalize b.2.length = len2 at *
    have B0 := below3 w (.cells #[.bool g, .slice ad len cap] 27) (.cells #[.bool g2, .slice ae len2 cbp] 27) (.cells #[.bool false, .slice none 0 0] 27)
    have s2 : ((w.alloc (.cells #[.bool g, .slice ad len cap] 27)).alloc (.cells #[.bool g2, .slice ae len2 cbp] 27)).heap.size = w.heap.size + 1 + 1 := by simp
    have R0 := BoxW.made ((w.alloc (.cells #[.bool g, .slice ad len cap] 27)).alloc (.cells #[.bool g2, .slice ae len2 cbp] 27)) (.bool false) (.slice none 0 0) 27
    rw [s2] at R0
    clear s2 hs ht
    go_enter Try.func15, Try.ntmps15
    go_wp2_with fail
    refine (kT _ B0).mono ?_
    generalize ((w.alloc (.cells #[.bool g, .slice ad len cap] 27)).alloc (.cells #[.bool g2, .slice ae len2 cbp] 27)).alloc (.cells #[.bool false, .slice none 0 0] 27) = w0 at *
    rintro e w1 ⟨p, q, rfl, b1⟩
    have R9 := R0.below b1 (Nat.le_refl _)
    have B9 := B0.trans (b1.mono B0.size)
    have c0 := R9.c0
    have c1' := R9.c1
    have f0 := R9.f0
    have f1 := R9.f1
    have HB : Hid (Below w.heap.size w ((w1.setCell ⟨w.heap.size + 1 + 1, 0, none⟩ (.bool false)).setCell ⟨w.heap.size + 1 + 1, 1, none⟩ (.slice none 0 0))) := (B9.setCell (p := ⟨w.heap.size + 1 + 1, 0, none⟩) (by show w.heap.size ≤ w.heap.size + 1 + 1; omega) (.bool false)).setCell (p := ⟨w.heap.size + 1 + 1, 1, none⟩) (by show w.heap.size ≤ w.heap.size + 1 + 1; omega) (.slice none 0 0)
    clear R0 B0 b1 R9 B9 kT
    go_wp2
    (try simp only [Exit.inBlock, Exit.then])
    refine bodyPost_ret (v := .tuple #[.agg #[.bool false, .slice none 0 0], .bool false]) ?_ rfl ⟨_, by rw [HR.out], by rw [HR.out]; exact ⟨_, rfl, World.ownsRow_nil _ _ _ _⟩, HB.out⟩
    rw [results_cell_tmp rfl]
    go_simp

end Go.Proofs.Ytlpfjpbnedankaa
