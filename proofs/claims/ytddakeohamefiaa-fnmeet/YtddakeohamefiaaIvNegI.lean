/- IvNeg of the program, by its contract (without the specification's). -/
import Derived.Test.YtddakeohamefiaaIFrom
import Derived.Test.YtddakeohamefiaaSpans
namespace Go.Proofs.Ytddakeohamefiaa
open Go.RowKit
set_option linter.unusedSimpArgs false

def negVR (a : Vh) : Vh := if okV a = true then (fitV (-valW a.2) (-valW a.1)).1 else ((false, []), (false, []))
theorem negVR_len (a : Vh) : (negVR a).1.2.length ≤ 1048576 ∧ (negVR a).2.2.length ≤ 1048576 := by
  unfold negVR
  split
  · exact fitV_len _ _
  · simp
theorem fitV_small (x y : Int) (hx : (limbs x.natAbs).length ≤ 48) (hy : (limbs y.natAbs).length ≤ 48) : (fitV x y).1 = (mkW x, mkW y) := by
  have h1 : fitW x = (mkW x, true) := by unfold fitW; rw [if_pos hx]
  have h2 : fitW y = (mkW y, true) := by unfold fitW; rw [if_pos hy]
  unfold fitV
  rw [h1, h2]
  rfl

set_option maxRecDepth 20000 in
set_option maxHeartbeats 6400000 in
theorem iIvNeg (va : Value) (a : Vh) (w : World) (ha : rowV w va a) (hl0 : a.1.2.length ≤ 1048576) (hl1 : a.2.2.length ≤ 1048576) :
    Calls Try.prog 19 #[va] w fun e w' => ∃ v, e = .returned v ∧ ownsV w' w.heap.size v (negVR a) ∧ Below w.heap.size w w' := by
  have kA := fun W (h : Below w.heap.size w W) => spanFrom_b va a W (ha.below h (Nat.le_refl _)) hl0 hl1
  obtain ⟨ov, hov⟩ : ∃ o, okV a = o := ⟨_, rfl⟩
  rw [hov] at kA
  cases ov
  · have HR : Hid (negVR a = ((false, []), (false, []))) := by show _ = _; unfold negVR; rw [if_neg (by rw [hov]; simp)]
    obtain ⟨rr, hr⟩ : ∃ r, negVR a = r := ⟨_, rfl⟩
    rw [hr] at HR
    rw [hr]
    clear hr
    clear hov hl0 hl1
    obtain ⟨s, t, rfl, hs, ht⟩ := ha
    obtain ⟨ad, cap, rfl, -⟩ := id hs
    obtain ⟨ae, cbp, rfl, -⟩ := id ht
    obtain ⟨g, hg⟩ : ∃ g, a.1.1 = g := ⟨_, rfl⟩
    obtain ⟨g', hg'⟩ : ∃ g, a.2.1 = g := ⟨_, rfl⟩
    obtain ⟨len, hlen⟩ : ∃ l, a.1.2.length = l := ⟨_, rfl⟩
    obtain ⟨len2, hlen2⟩ : ∃ l, a.2.2.length = l := ⟨_, rfl⟩
    rw [hg, hg', hlen, hlen2] at kA
    rw [hg, hg', hlen, hlen2]
    clear hs ht hg hg' hlen hlen2
    have s1 : (w.alloc (.cells #[.bool g, .slice ad len cap, .bool g', .slice ae len2 cbp] 28)).heap.size = w.heap.size + 1 := by simp
    have X0 := (BoxV.made w (.bool g) (.slice ad len cap) (.bool g') (.slice ae len2 cbp) 28).below (below1 _ (.cells #[.bool false, .slice none 0 0, .bool false, .slice none 0 0] 28)) (Nat.le_refl _)
    have R0 := BoxV.made (w.alloc (.cells #[.bool g, .slice ad len cap, .bool g', .slice ae len2 cbp] 28)) (.bool false) (.slice none 0 0) (.bool false) (.slice none 0 0) 28
    rw [s1] at R0
    have B0 := below2 w (.cells #[.bool g, .slice ad len cap, .bool g', .slice ae len2 cbp] 28) (.cells #[.bool false, .slice none 0 0, .bool false, .slice none 0 0] 28)
    clear s1
    go_enter Try.func19, Try.ntmps19
    go_wp2_with fail
    refine (kA _ B0).mono ?_
    generalize (w.alloc (.cells #[.bool g, .slice ad len cap, .bool g', .slice ae len2 cbp] 28)).alloc (.cells #[.bool false, .slice none 0 0, .bool false, .slice none 0 0] 28) = w0 at *
    rintro e w1' ⟨X, Y, rfl, b1', hXY⟩
    have bF := below1 w1' (.cells #[.pointer X, .pointer Y] 54)
    have E1 := BoxW.made w1' (.pointer X) (.pointer Y) 54
    have b1 := b1'.trans (bF.mono b1'.size)
    have R1 := R0.below b1 (Nat.le_refl _)
    have B1 := B0.trans (b1.mono B0.size)
    have r0 := R1.c0
    have f0 := R1.f0
    have r1 := R1.c1
    have f1 := R1.f1
    have r2 := R1.c2
    have f2 := R1.f2
    have r3 := R1.c3
    have f3 := R1.f3
    have HB : Hid (Below w.heap.size w _) := ((((B1.setCell (p := ⟨w.heap.size + 1, 0, none⟩) (by show w.heap.size ≤ w.heap.size + 1; omega) (.bool false)).setCell (p := ⟨w.heap.size + 1, 1, none⟩) (by show w.heap.size ≤ w.heap.size + 1; omega) (.slice none 0 0)).setCell (p := ⟨w.heap.size + 1, 2, none⟩) (by show w.heap.size ≤ w.heap.size + 1; omega) (.bool false)).setCell (p := ⟨w.heap.size + 1, 3, none⟩) (by show w.heap.size ≤ w.heap.size + 1; omega) (.slice none 0 0))
    clear R0 R1 B0 B1 b1 X0 E1 hXY kA bF
    go_wp2
    (try simp only [Exit.inBlock, Exit.then])
    refine bodyPost_ret (v := .agg #[.bool false, .slice none 0 0, .bool false, .slice none 0 0]) ?_ rfl ⟨_, rfl, by rw [HR.out]; exact nilV _ _, HB.out⟩
    rw [results_cell1 rfl]
    go_simp
  · have HR : Hid (negVR a = (fitV (-valW a.2) (-valW a.1)).1) := by show _ = _; unfold negVR; rw [if_pos hov]
    have kS := fun p q W h1 h2 => negSpan_c p q (valW a.1) (valW a.2) W h1 h2
    unfold spanE at kS
    have kf := fun p q W h1 h2 => ivFrom_c p q (-valW a.2) (-valW a.1) W h1 h2
    obtain ⟨rr, hr⟩ : ∃ r, negVR a = r := ⟨_, rfl⟩
    rw [hr] at HR
    rw [hr]
    clear hr
    clear hov hl0 hl1
    generalize fitV (-valW a.2) (-valW a.1) = fw at *
    generalize -valW a.1 = d1 at *
    generalize -valW a.2 = d2 at *
    generalize valW a.1 = x at *
    generalize valW a.2 = y at *
    obtain ⟨s, t, rfl, hs, ht⟩ := ha
    obtain ⟨ad, cap, rfl, -⟩ := id hs
    obtain ⟨ae, cbp, rfl, -⟩ := id ht
    obtain ⟨g, hg⟩ : ∃ g, a.1.1 = g := ⟨_, rfl⟩
    obtain ⟨g', hg'⟩ : ∃ g, a.2.1 = g := ⟨_, rfl⟩
    obtain ⟨len, hlen⟩ : ∃ l, a.1.2.length = l := ⟨_, rfl⟩
    obtain ⟨len2, hlen2⟩ : ∃ l, a.2.2.length = l := ⟨_, rfl⟩
    rw [hg, hg', hlen, hlen2] at kA
    rw [hg, hg', hlen, hlen2]
    clear hs ht hg hg' hlen hlen2
    have s1 : (w.alloc (.cells #[.bool g, .slice ad len cap, .bool g', .slice ae len2 cbp] 28)).heap.size = w.heap.size + 1 := by simp
    have X0 := (BoxV.made w (.bool g) (.slice ad len cap) (.bool g') (.slice ae len2 cbp) 28).below (below1 _ (.cells #[.bool false, .slice none 0 0, .bool false, .slice none 0 0] 28)) (Nat.le_refl _)
    have R0 := BoxV.made (w.alloc (.cells #[.bool g, .slice ad len cap, .bool g', .slice ae len2 cbp] 28)) (.bool false) (.slice none 0 0) (.bool false) (.slice none 0 0) 28
    rw [s1] at R0
    have B0 := below2 w (.cells #[.bool g, .slice ad len cap, .bool g', .slice ae len2 cbp] 28) (.cells #[.bool false, .slice none 0 0, .bool false, .slice none 0 0] 28)
    clear s1
    go_enter Try.func19, Try.ntmps19
    go_wp2_with fail
    refine (kA _ B0).mono ?_
    generalize (w.alloc (.cells #[.bool g, .slice ad len cap, .bool g', .slice ae len2 cbp] 28)).alloc (.cells #[.bool false, .slice none 0 0, .bool false, .slice none 0 0] 28) = w0 at *
    rintro e w1' ⟨X, Y, rfl, b1', hXY⟩
    have bF := below1 w1' (.cells #[.pointer X, .pointer Y] 54)
    have E1 := BoxW.made w1' (.pointer X) (.pointer Y) 54
    have b1 := b1'.trans (bF.mono b1'.size)
    have R1 := R0.below b1 (Nat.le_refl _)
    have B1 := B0.trans (b1.mono B0.size)
    obtain ⟨p, q, rfl, rfl, sp, sq, -, -⟩ := hXY (by first | exact trivial | rfl)
    have sp1 := sp.below bF sp.lt
    have sq1 := sq.below bF sq.lt
    have hR0 := R0.hi
    have hE1 : w0.heap.size ≤ w1'.heap.size := b1'.size
    obtain ⟨⟨⟨n1, l1⟩, ⟨n2, l2⟩⟩, ok3⟩ := fw
    clear hXY kA R0 B0 b1 b1' X0 sp sq bF
    go_wp2_with fail
    generalize w1'.alloc (.cells #[.pointer (some ⟨p, 0, none⟩), .pointer (some ⟨q, 0, none⟩)] 54) = w1 at *
    generalize w1'.heap.size = f6 at *
    refine (kS p q _ sp1 sq1).mono ?_
    rintro e w4 ⟨c, d, rfl, sc, sd, b4⟩
    have R4 := R1.below b4 (Nat.le_refl _)
    have B4 := B1.trans (b4.mono B1.size)
    clear kS sp1 sq1 E1
    go_wp2_with fail
    refine (kf c d _ sc sd).mono ?_
    rintro e w6 ⟨v6, rfl, o6, b6⟩
    obtain ⟨s3, s4, rfl, q3, q4, hap⟩ := o6
    obtain ⟨ad3, cp3, rfl, -⟩ := q3.row
    obtain ⟨ad4, cp4, rfl, -⟩ := q4.row
    have q3' : ownsI w6 w4.heap.size (.slice ad3 l1.length cp3) l1 := q3
    have q4' : ownsI w6 w4.heap.size (.slice ad4 l2.length cp4) l2 := q4
    have hR4 := R4.hi
    have bE := below1 w6 (.cells #[.bool n1, .slice ad3 l1.length cp3, .bool n2, .slice ad4 l2.length cp4] 28)
    have E6 := BoxV.made w6 (.bool n1) (.slice ad3 l1.length cp3) (.bool n2) (.slice ad4 l2.length cp4) 28
    have R6 := (R4.below b6 (Nat.le_refl _)).below bE (Nat.le_refl _)
    have B6 := (B4.trans (b6.mono B4.size)).trans (bE.mono (B4.trans (b6.mono B4.size)).size)
    have q5 := ownsI.below q3' bE (Nat.le_refl _)
    have q6 := ownsI.below q4' bE (Nat.le_refl _)
    have hw6 := b6.size
    have hE0 := E6.c0
    have r0 := R6.c0
    have f0 := R6.f0
    have hE1 := E6.c1
    have r1 := R6.c1
    have f1 := R6.f1
    have hE2 := E6.c2
    have r2 := R6.c2
    have f2 := R6.f2
    have hE3 := E6.c3
    have r3 := R6.c3
    have f3 := R6.f3
    have HA : Hid (ownsI _ w4.heap.size (.slice ad3 l1.length cp3) l1) := ((((q5.other (w.heap.size + 1) 0 (by omega) (.bool n1)).other (w.heap.size + 1) 1 (by omega) (.slice ad3 l1.length cp3)).other (w.heap.size + 1) 2 (by omega) (.bool n2)).other (w.heap.size + 1) 3 (by omega) (.slice ad4 l2.length cp4))
    have HZ : Hid (ownsI _ w4.heap.size (.slice ad4 l2.length cp4) l2) := ((((q6.other (w.heap.size + 1) 0 (by omega) (.bool n1)).other (w.heap.size + 1) 1 (by omega) (.slice ad3 l1.length cp3)).other (w.heap.size + 1) 2 (by omega) (.bool n2)).other (w.heap.size + 1) 3 (by omega) (.slice ad4 l2.length cp4))
    have HB : Hid (Below w.heap.size w _) := ((((B6.setCell (p := ⟨w.heap.size + 1, 0, none⟩) (by show w.heap.size ≤ w.heap.size + 1; omega) (.bool n1)).setCell (p := ⟨w.heap.size + 1, 1, none⟩) (by show w.heap.size ≤ w.heap.size + 1; omega) (.slice ad3 l1.length cp3)).setCell (p := ⟨w.heap.size + 1, 2, none⟩) (by show w.heap.size ≤ w.heap.size + 1; omega) (.bool n2)).setCell (p := ⟨w.heap.size + 1, 3, none⟩) (by show w.heap.size ≤ w.heap.size + 1; omega) (.slice ad4 l2.length cp4))
    have HP : Hid (Apart (blkI (.slice ad3 l1.length cp3)) (blkI (.slice ad4 l2.length cp4))) := hap
    have hb4 := B4.size
    have hn1 : ¬ (w6.heap.size = w.heap.size + 1) := by omega
    have hn2 : ¬ (w.heap.size + 1 = w6.heap.size) := by omega
    clear q3 q4 q3' q4' q5 q6 E6 hap R1 R4 R6 B1 B4 B6 b4 b6 bE sc sd kf
    go_wp2
    (try simp only [Exit.inBlock, Exit.then])
    refine bodyPost_ret (v := .agg #[.bool n1, .slice ad3 l1.length cp3, .bool n2, .slice ad4 l2.length cp4]) ?_ rfl ⟨_, rfl, by rw [HR.out]; exact ⟨_, _, rfl, ownsI_mono HA.out hb4, ownsI_mono HZ.out hb4, HP.out⟩, HB.out⟩
    rw [results_cell1 rfl]
    go_simp

end Go.Proofs.Ytddakeohamefiaa
