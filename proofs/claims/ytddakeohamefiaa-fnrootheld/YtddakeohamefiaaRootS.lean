/- The specification's l11Root, by its contract. -/
import Derived.Test.YtddakeohamefiaaRootedB
import Derived.Test.YtddakeohamefiaaSRoot
import Derived.Test.YtddakeohamefiaaSB
import Derived.Test.YtddakeohamefiaaOne
import Derived.Test.YtddakeohamefiaaVB
namespace Go.Proofs.Ytddakeohamefiaa
open Go.RowKit
set_option linter.unusedSimpArgs false

set_option maxRecDepth 20000 in
set_option maxHeartbeats 6400000 in
theorem sVRoot (va : Value) (a : Vh) (x y k : Nat) (w : World) (ha : rowV w va a) (hx : a.1.2 = limbs x) (hy : a.2.2 = limbs y) (hlx : (limbs x).length ≤ 48) (hly : (limbs y).length ≤ 48) (hk : k ≤ 500) :
    Calls Try.prog 54 #[va, .int .i64 k] w fun e w' => ∃ v, e = .returned v ∧ ownsV w' w.heap.size v ((false, limbs (isqrt (x * 2 ^ k))), (false, limbs (rtUp (y * 2 ^ k)))) ∧ Below w.heap.size w w' := by
  obtain ⟨s, t, rfl, hs, ht⟩ := ha
  rw [hx] at hs
  rw [hy] at ht
  obtain ⟨ad, cap, rfl, -⟩ := id hs
  obtain ⟨ae, cbp, rfl, -⟩ := id ht
  have h1 := shl_len x k
  have h2 := shl_len y k
  have kU1 := fun W (h : Below w.heap.size w W) => sUp _ (limbs x) k W (hs.below h (Nat.le_refl _)) (limbs_inR x) (by omega) (by omega)
  have kU2 := fun W (h : Below w.heap.size w W) => sUp _ (limbs y) k W (ht.below h (Nat.le_refl _)) (limbs_inR y) (by omega) (by omega)
  rw [num_limbs] at kU1 kU2
  obtain ⟨n1, hn1⟩ : ∃ n, x * 2 ^ k = n := ⟨_, rfl⟩
  obtain ⟨n2, hn2⟩ : ∃ n, y * 2 ^ k = n := ⟨_, rfl⟩
  rw [hn1] at kU1 h1
  rw [hn2] at kU2 h2
  rw [hn1, hn2]
  have kR1 := fun v W (h : rowI W v (limbs n1)) => sRoot v (limbs n1) W h ⟨limbs_inR n1, limbs_noZ n1⟩ (by omega)
  have kR2 := fun v W (h : rowI W v (limbs n2)) => sRoot v (limbs n2) W h ⟨limbs_inR n2, limbs_noZ n2⟩ (by omega)
  rw [num_limbs] at kR1 kR2
  obtain ⟨m1, hm1⟩ : ∃ n, isqrt n1 = n := ⟨_, rfl⟩
  have h3 : (limbs (isqrt n2)).length ≤ (limbs n2).length := limbs_mono (isqrt_le n2)
  have hup : rtUp n2 = if isqrt n2 * isqrt n2 < n2 then isqrt n2 + 1 else isqrt n2 := rfl
  obtain ⟨m, hm⟩ : ∃ n, isqrt n2 = n := ⟨_, rfl⟩
  rw [hm1] at kR1
  rw [hm] at kR2 h3 hup
  rw [hm1]
  have h4 := mul_limbs_len m m
  have kT := fun v W (h : rowI W v (limbs m)) => sTimes v v (limbs m) (limbs m) W h h (limbs_inR m) (limbs_inR m) (by omega) (by omega)
  have kC := fun v v' W (h : rowI W v (limbs (m * m))) (h' : rowI W v' (limbs n2)) => sCmp v v' (limbs (m * m)) (limbs n2) W h h' (limbs_inR _) (limbs_inR _) (by omega) (by omega)
  have kP := fun v v' W (h : rowI W v (limbs m)) (h' : rowI W v' [1]) => sPlus v v' (limbs m) [1] W h h' (limbs_inR _) inR_one (by omega) (by simp)
  simp only [num_limbs, num_one] at kT kC kP
  generalize a.1.1 = g1 at *
  generalize a.2.1 = g2 at *
  generalize a.1.2.length = len at *
  generalize a.2.2.length = len2 at *
  generalize (limbs x).length = len at *
  generalize (limbs y).length = len2 at *
  have s1 : (w.alloc (.cells #[.bool g1, .slice ad len cap, .bool g2, .slice ae len2 cbp] 28)).heap.size = w.heap.size + 1 := by simp
  have X0 := (BoxV.made w (.bool g1) (.slice ad len cap) (.bool g2) (.slice ae len2 cbp) 28).below (below1 _ (.cells #[.bool false, .slice none 0 0, .bool false, .slice none 0 0] 28)) (Nat.le_refl _)
  have R0 := BoxV.made (w.alloc (.cells #[.bool g1, .slice ad len cap, .bool g2, .slice ae len2 cbp] 28)) (.bool false) (.slice none 0 0) (.bool false) (.slice none 0 0) 28
  rw [s1] at R0
  have B0 := below2 w (.cells #[.bool g1, .slice ad len cap, .bool g2, .slice ae len2 cbp] 28) (.cells #[.bool false, .slice none 0 0, .bool false, .slice none 0 0] 28)
  clear s1 hs ht hx hy hlx hly hk hn1 hn2 hm1 hm h1 h2 h3 h4
  have hcm : cmpI (m * m) n2 = if m * m < n2 then -1 else if n2 < m * m then 1 else 0 := rfl
  by_cases hlt : m * m < n2
  · rw [if_pos hlt] at hcm hup
    rw [hcm] at kC
    rw [hup]
    obtain ⟨m2, hm2⟩ : ∃ n, m + 1 = n := ⟨_, rfl⟩
    rw [hm2] at kP
    rw [hm2]
    clear hcm hup hlt hm2
    go_enter Try.func54, Try.ntmps54
    go_wp2_with fail
    refine (kU1 _ B0).mono ?_
    generalize (w.alloc (.cells #[.bool g1, .slice ad len cap, .bool g2, .slice ae len2 cbp] 28)).alloc (.cells #[.bool false, .slice none 0 0, .bool false, .slice none 0 0] 28) = w0 at *
    rintro e w1 ⟨v1, rfl, o1, b1⟩
    have X1 := X0.below b1 (Nat.le_refl _)
    have R1 := R0.below b1 (Nat.le_refl _)
    have B1 := B0.trans (b1.mono B0.size)
    go_wp2_with fail
    refine (kR1 v1 _ o1.row).mono ?_
    rintro e w2 ⟨v2, rfl, o2, b2⟩
    have X2 := X1.below b2 (Nat.le_refl _)
    have R2 := R1.below b2 (Nat.le_refl _)
    have B2 := B1.trans (b2.mono B1.size)
    have x2 := X2.c2
    have x3 := X2.c3
    go_wp2_with fail
    refine (kU2 _ B2).mono ?_
    rintro e w3 ⟨v3, rfl, o3, b3⟩
    have R3 := R2.below b3 (Nat.le_refl _)
    have B3 := B2.trans (b3.mono B2.size)
    have o2 := ownsI.below o2 b3 (Nat.le_refl _)
    clear x2 x3 X0 X1 X2
    go_wp2_with fail
    refine (kR2 v3 _ o3.row).mono ?_
    rintro e w4 ⟨v4, rfl, o4, b4⟩
    have R4 := R3.below b4 (Nat.le_refl _)
    have B4 := B3.trans (b4.mono B3.size)
    have o2 := ownsI.below o2 b4 (Nat.le_refl _)
    have o3 := ownsI.below o3 b4 (Nat.le_refl _)
    go_wp2_with fail
    refine (kT v4 _ o4.row).mono ?_
    rintro e w5 ⟨v5, rfl, o5, b5⟩
    have R5 := R4.below b5 (Nat.le_refl _)
    have B5 := B4.trans (b5.mono B4.size)
    have o2 := ownsI.below o2 b5 (Nat.le_refl _)
    have o3 := ownsI.below o3 b5 (Nat.le_refl _)
    have o4 := ownsI.below o4 b5 (Nat.le_refl _)
    go_wp2_with fail
    refine (kC v5 v3 _ o5.row o3.row).mono ?_
    rintro e w5' ⟨rfl, rfl⟩
    have hR := R0.hi
    have hz0 := B0.size
    have hz1 := b1.size
    have hz2 := b2.size
    have hz3 := b3.size
    have hz4 := b4.size
    have o2l := fun k hk => (o2.ltb k hk).2
    have b6' := below1 w5' (.cells #[.int .i64 1] 3)
    have q4 := o4.row.below b6' (Nat.le_refl _)
    go_wp2_with fail
    refine (kP v4 _ _ q4 (one_row w5')).mono ?_
    rintro e w6 ⟨v6, rfl, o6, b6''⟩
    have b6 : Below w5'.heap.size w5' w6 := b6'.trans (b6''.mono b6'.size)
    have R6 := R5.below b6 (Nat.le_refl _)
    have B6 := B5.trans (b6.mono B5.size)
    have o2 := ownsI.below o2 b6 (Nat.le_refl _)
    have hz5 := b5.size
    have hz6 := b6'.size
    have p6 : ownsI w6 w5'.heap.size v6 (limbs m2) := ownsI_mono o6 hz6
    have hap : Apart (blkI v2) (blkI v6) := apart_of (fun k hk => (o2l k hk)) (fun k hk => (p6.ltb k hk).1)
    obtain ⟨af, cf, rfl, -⟩ := o2.row
    obtain ⟨ag, cg, rfl, -⟩ := p6.row
    have q2' : ownsI w6 w1.heap.size (.slice af (limbs m1).length cf) (limbs m1) := o2
    have q6' : ownsI w6 w5'.heap.size (.slice ag (limbs m2).length cg) (limbs m2) := p6
    have r0 := R6.c0
    have f0 := R6.f0
    have r1 := R6.c1
    have f1 := R6.f1
    have r2 := R6.c2
    have f2 := R6.f2
    have r3 := R6.c3
    have f3 := R6.f3
    have HA : Hid (ownsI _ w1.heap.size (.slice af (limbs m1).length cf) (limbs m1)) := ((((q2'.other (w.heap.size + 1) 0 (by omega) (.bool false)).other (w.heap.size + 1) 1 (by omega) (.slice af (limbs m1).length cf)).other (w.heap.size + 1) 2 (by omega) (.bool false)).other (w.heap.size + 1) 3 (by omega) (.slice ag (limbs m2).length cg))
    have HZ : Hid (ownsI _ w5'.heap.size (.slice ag (limbs m2).length cg) (limbs m2)) := ((((q6'.other (w.heap.size + 1) 0 (by omega) (.bool false)).other (w.heap.size + 1) 1 (by omega) (.slice af (limbs m1).length cf)).other (w.heap.size + 1) 2 (by omega) (.bool false)).other (w.heap.size + 1) 3 (by omega) (.slice ag (limbs m2).length cg))
    have HB : Hid (Below w.heap.size w _) := ((((B6.setCell (p := ⟨w.heap.size + 1, 0, none⟩) (by show w.heap.size ≤ w.heap.size + 1; omega) (.bool false)).setCell (p := ⟨w.heap.size + 1, 1, none⟩) (by show w.heap.size ≤ w.heap.size + 1; omega) (.slice af (limbs m1).length cf)).setCell (p := ⟨w.heap.size + 1, 2, none⟩) (by show w.heap.size ≤ w.heap.size + 1; omega) (.bool false)).setCell (p := ⟨w.heap.size + 1, 3, none⟩) (by show w.heap.size ≤ w.heap.size + 1; omega) (.slice ag (limbs m2).length cg))
    have HP : Hid (Apart (blkI (.slice af (limbs m1).length cf)) (blkI (.slice ag (limbs m2).length cg))) := hap
    have hbA : w.heap.size ≤ w1.heap.size := by omega
    have hbZ : w.heap.size ≤ w5'.heap.size := by omega
    clear o2 o3 o4 o5 o2l q2' q6' hap R0 R1 R2 R3 R4 R5 B0 B1 B2 B3 B4 B5 b1 b2 b3 b4 b5 kU1 kU2 kR1 kR2 kT kC kP hz0 hz1 hz2 hz3 hz4 hR R6 B6 b6 b6' b6'' hz5 hz6 o6 p6 q4
    generalize (limbs m1).length = lf at *
    generalize (limbs m2).length = lg at *
    go_wp2
    (try simp only [Exit.inBlock, Exit.then])
    refine bodyPost_ret (v := .agg #[.bool false, .slice af lf cf, .bool false, .slice ag lg cg]) ?_ rfl ⟨_, rfl, ⟨_, _, rfl, ownsI_mono HA.out hbA, ownsI_mono HZ.out hbZ, HP.out⟩, HB.out⟩
    rw [results_cell1 rfl]
    go_simp
  · rw [if_neg hlt] at hcm hup
    rw [hup]
    have hc0 : ¬ cmpI (m * m) n2 < 0 := by rw [hcm]; split <;> omega
    have hc1 : decide (cmpI (m * m) n2 < 0) = false := decide_eq_false hc0
    generalize cmpI (m * m) n2 = cm at *
    obtain ⟨m2, rfl⟩ : ∃ n, n = m := ⟨_, rfl⟩
    clear hcm hup hlt
    go_enter Try.func54, Try.ntmps54
    go_wp2_with fail
    refine (kU1 _ B0).mono ?_
    generalize (w.alloc (.cells #[.bool g1, .slice ad len cap, .bool g2, .slice ae len2 cbp] 28)).alloc (.cells #[.bool false, .slice none 0 0, .bool false, .slice none 0 0] 28) = w0 at *
    rintro e w1 ⟨v1, rfl, o1, b1⟩
    have X1 := X0.below b1 (Nat.le_refl _)
    have R1 := R0.below b1 (Nat.le_refl _)
    have B1 := B0.trans (b1.mono B0.size)
    go_wp2_with fail
    refine (kR1 v1 _ o1.row).mono ?_
    rintro e w2 ⟨v2, rfl, o2, b2⟩
    have X2 := X1.below b2 (Nat.le_refl _)
    have R2 := R1.below b2 (Nat.le_refl _)
    have B2 := B1.trans (b2.mono B1.size)
    have x2 := X2.c2
    have x3 := X2.c3
    go_wp2_with fail
    refine (kU2 _ B2).mono ?_
    rintro e w3 ⟨v3, rfl, o3, b3⟩
    have R3 := R2.below b3 (Nat.le_refl _)
    have B3 := B2.trans (b3.mono B2.size)
    have o2 := ownsI.below o2 b3 (Nat.le_refl _)
    clear x2 x3 X0 X1 X2
    go_wp2_with fail
    refine (kR2 v3 _ o3.row).mono ?_
    rintro e w4 ⟨v4, rfl, o4, b4⟩
    have o2l := fun k hk => (o2.ltb k hk).2
    have R4 := R3.below b4 (Nat.le_refl _)
    have B4 := B3.trans (b4.mono B3.size)
    have o2 := ownsI.below o2 b4 (Nat.le_refl _)
    have o3 := ownsI.below o3 b4 (Nat.le_refl _)
    go_wp2_with fail
    refine (kT v4 _ o4.row).mono ?_
    rintro e w5 ⟨v5, rfl, o5, b5⟩
    have R5 := R4.below b5 (Nat.le_refl _)
    have B5 := B4.trans (b5.mono B4.size)
    have o2 := ownsI.below o2 b5 (Nat.le_refl _)
    have o3 := ownsI.below o3 b5 (Nat.le_refl _)
    have o4 := ownsI.below o4 b5 (Nat.le_refl _)
    go_wp2_with fail
    refine (kC v5 v3 _ o5.row o3.row).mono ?_
    rintro e w5' ⟨rfl, rfl⟩
    have hR := R0.hi
    have hz0 := B0.size
    have hz1 := b1.size
    have hz2 := b2.size
    have hz3 := b3.size
    have hz4 := b4.size
    have hap : Apart (blkI v2) (blkI v4) := apart_of (fun k hk => (o2l k hk)) (fun k hk => (o4.ltb k hk).1)
    obtain ⟨af, cf, rfl, -⟩ := o2.row
    obtain ⟨ag, cg, rfl, -⟩ := o4.row
    have q2' : ownsI w5' w1.heap.size (.slice af (limbs m1).length cf) (limbs m1) := o2
    have q6' : ownsI w5' w3.heap.size (.slice ag (limbs m2).length cg) (limbs m2) := o4
    have r0 := R5.c0
    have f0 := R5.f0
    have r1 := R5.c1
    have f1 := R5.f1
    have r2 := R5.c2
    have f2 := R5.f2
    have r3 := R5.c3
    have f3 := R5.f3
    have HA : Hid (ownsI _ w1.heap.size (.slice af (limbs m1).length cf) (limbs m1)) := ((((q2'.other (w.heap.size + 1) 0 (by omega) (.bool false)).other (w.heap.size + 1) 1 (by omega) (.slice af (limbs m1).length cf)).other (w.heap.size + 1) 2 (by omega) (.bool false)).other (w.heap.size + 1) 3 (by omega) (.slice ag (limbs m2).length cg))
    have HZ : Hid (ownsI _ w3.heap.size (.slice ag (limbs m2).length cg) (limbs m2)) := ((((q6'.other (w.heap.size + 1) 0 (by omega) (.bool false)).other (w.heap.size + 1) 1 (by omega) (.slice af (limbs m1).length cf)).other (w.heap.size + 1) 2 (by omega) (.bool false)).other (w.heap.size + 1) 3 (by omega) (.slice ag (limbs m2).length cg))
    have HB : Hid (Below w.heap.size w _) := ((((B5.setCell (p := ⟨w.heap.size + 1, 0, none⟩) (by show w.heap.size ≤ w.heap.size + 1; omega) (.bool false)).setCell (p := ⟨w.heap.size + 1, 1, none⟩) (by show w.heap.size ≤ w.heap.size + 1; omega) (.slice af (limbs m1).length cf)).setCell (p := ⟨w.heap.size + 1, 2, none⟩) (by show w.heap.size ≤ w.heap.size + 1; omega) (.bool false)).setCell (p := ⟨w.heap.size + 1, 3, none⟩) (by show w.heap.size ≤ w.heap.size + 1; omega) (.slice ag (limbs m2).length cg))
    have HP : Hid (Apart (blkI (.slice af (limbs m1).length cf)) (blkI (.slice ag (limbs m2).length cg))) := hap
    have hbA : w.heap.size ≤ w1.heap.size := by omega
    have hbZ : w.heap.size ≤ w3.heap.size := by omega
    clear o2 o3 o4 o5 o2l q2' q6' hap R0 R1 R2 R3 R4 R5 B0 B1 B2 B3 B4 B5 b1 b2 b3 b4 b5 kU1 kU2 kR1 kR2 kT kC kP hz0 hz1 hz2 hz3 hz4 hR
    generalize (limbs m1).length = lf at *
    generalize (limbs m2).length = lg at *
    go_wp2
    (try simp only [Exit.inBlock, Exit.then])
    refine bodyPost_ret (v := .agg #[.bool false, .slice af lf cf, .bool false, .slice ag lg cg]) ?_ rfl ⟨_, rfl, ⟨_, _, rfl, ownsI_mono HA.out hbA, ownsI_mono HZ.out hbZ, HP.out⟩, HB.out⟩
    rw [results_cell1 rfl]
    go_simp

end Go.Proofs.Ytddakeohamefiaa
