/- IvWide of the specification and of the program, each by its contract. -/
import Derived.Test.YtddakeohamefiaaSVFits
import Derived.Test.YtddakeohamefiaaSIvOk
import Derived.Test.YtddakeohamefiaaSgPM
import Derived.Test.YtddakeohamefiaaSWSub
import Derived.Test.YtddakeohamefiaaSWholeOf
import Derived.Test.YtddakeohamefiaaSTB
import Derived.Test.YtddakeohamefiaaBase
import Derived.Test.YtddakeohamefiaaSpans
namespace Go.Proofs.Ytddakeohamefiaa
open Go.RowKit
set_option linter.unusedSimpArgs false

def wideR (a : Vh) (n : Int) : Vh × Bool := if okV a = true ∧ 0 ≤ n ∧ n ≤ 1000000 then fitV (valW a.1 - n) (valW a.2 + n) else (((false, []), (false, [])), false)
theorem wideR_len (a : Vh) (n : Int) : (wideR a n).1.1.2.length ≤ 1048576 ∧ (wideR a n).1.2.2.length ≤ 1048576 := by
  unfold wideR
  split
  · exact fitV_len _ _
  · simp

set_option maxRecDepth 20000 in
set_option maxHeartbeats 6400000 in
theorem iIvWide (va : Value) (a : Vh) (n : Int) (w : World) (ha : rowV w va a) (hl0 : a.1.2.length ≤ 1048576) (hl1 : a.2.2.length ≤ 1048576) :
    Calls Try.prog 17 #[va, .int .i64 n] w fun e w' => ∃ v, e = .returned (.tuple #[v, .bool (wideR a n).2]) ∧ ownsV w' w.heap.size v (wideR a n).1 ∧ Below w.heap.size w w' := by
  have kA := fun W (h : Below w.heap.size w W) => spanFrom_b va a W (ha.below h (Nat.le_refl _)) hl0 hl1
  obtain ⟨ov, hov⟩ : ∃ o, okV a = o := ⟨_, rfl⟩
  rw [hov] at kA
  cases ov
  · have HR : Hid (wideR a n = (((false, []), (false, [])), false)) := by show _ = _; unfold wideR; rw [if_neg (fun h => by rw [hov] at h; cases h.1)]
    obtain ⟨rr, hr⟩ : ∃ r, wideR a n = r := ⟨_, rfl⟩
    rw [hr] at HR
    rw [hr]
    clear hr
    clear hov hl0 hl1
    obtain ⟨s, t, rfl, hs, ht⟩ := ha
    obtain ⟨ad, cap, rfl, -⟩ := id hs
    obtain ⟨ae, cbp, rfl, -⟩ := id ht
    obtain ⟨g, hg⟩ : ∃ g, a.1.1 = g := ⟨_, rfl⟩
    obtain ⟨g', hg'⟩ : ∃ g, a.2.1 = g := ⟨_, rfl⟩
    obtain ⟨len, hlen⟩ : ∃ l, a.1.2.length = l := ⟨_, rfl⟩
    obtain ⟨len2, hlen2⟩ : ∃ l, a.2.2.length = l := ⟨_, rfl⟩
    rw [hg, hg', hlen, hlen2] at kA
    rw [hg, hg', hlen, hlen2]
    clear hs ht hg hg' hlen hlen2
    have s1 : (w.alloc (.cells #[.bool g, .slice ad len cap, .bool g', .slice ae len2 cbp] 28)).heap.size = w.heap.size + 1 := by simp
    have X0 := (BoxV.made w (.bool g) (.slice ad len cap) (.bool g') (.slice ae len2 cbp) 28).below (below1 _ (.cells #[.bool false, .slice none 0 0, .bool false, .slice none 0 0] 28)) (Nat.le_refl _)
    have R0 := BoxV.made (w.alloc (.cells #[.bool g, .slice ad len cap, .bool g', .slice ae len2 cbp] 28)) (.bool false) (.slice none 0 0) (.bool false) (.slice none 0 0) 28
    rw [s1] at R0
    have B0 := below2 w (.cells #[.bool g, .slice ad len cap, .bool g', .slice ae len2 cbp] 28) (.cells #[.bool false, .slice none 0 0, .bool false, .slice none 0 0] 28)
    clear s1
    go_enter Try.func17, Try.ntmps17
    go_wp2_with fail
    refine (kA _ B0).mono ?_
    generalize (w.alloc (.cells #[.bool g, .slice ad len cap, .bool g', .slice ae len2 cbp] 28)).alloc (.cells #[.bool false, .slice none 0 0, .bool false, .slice none 0 0] 28) = w0 at *
    rintro e w1' ⟨X, Y, rfl, b1', hXY⟩
    have bF := below1 w1' (.cells #[.pointer X, .pointer Y] 54)
    have E1 := BoxW.made w1' (.pointer X) (.pointer Y) 54
    have b1 := b1'.trans (bF.mono b1'.size)
    have R1 := R0.below b1 (Nat.le_refl _)
    have B1 := B0.trans (b1.mono B0.size)
    have r0 := R1.c0
    have f0 := R1.f0
    have r1 := R1.c1
    have f1 := R1.f1
    have r2 := R1.c2
    have f2 := R1.f2
    have r3 := R1.c3
    have f3 := R1.f3
    have HB : Hid (Below w.heap.size w _) := ((((B1.setCell (p := ⟨w.heap.size + 1, 0, none⟩) (by show w.heap.size ≤ w.heap.size + 1; omega) (.bool false)).setCell (p := ⟨w.heap.size + 1, 1, none⟩) (by show w.heap.size ≤ w.heap.size + 1; omega) (.slice none 0 0)).setCell (p := ⟨w.heap.size + 1, 2, none⟩) (by show w.heap.size ≤ w.heap.size + 1; omega) (.bool false)).setCell (p := ⟨w.heap.size + 1, 3, none⟩) (by show w.heap.size ≤ w.heap.size + 1; omega) (.slice none 0 0))
    clear R0 R1 B0 B1 b1 X0 E1 hXY kA bF
    go_wp2
    (try simp only [Exit.inBlock, Exit.then])
    refine bodyPost_ret (v := .tuple #[.agg #[.bool false, .slice none 0 0, .bool false, .slice none 0 0], .bool false]) ?_ rfl ⟨_, by rw [HR.out], by rw [HR.out]; exact nilV _ _, HB.out⟩
    rw [results_cell_tmp rfl]
    go_simp
  · by_cases hn1 : n < 0
    · have q1 : decide (n < 0) = true := decide_eq_true hn1
      have HR : Hid (wideR a n = (((false, []), (false, [])), false)) := by show _ = _; unfold wideR; rw [if_neg (by omega)]
      obtain ⟨rr, hr⟩ : ∃ r, wideR a n = r := ⟨_, rfl⟩
      rw [hr] at HR
      rw [hr]
      clear hr
      clear hov hl0 hl1
      obtain ⟨s, t, rfl, hs, ht⟩ := ha
      obtain ⟨ad, cap, rfl, -⟩ := id hs
      obtain ⟨ae, cbp, rfl, -⟩ := id ht
      obtain ⟨g, hg⟩ : ∃ g, a.1.1 = g := ⟨_, rfl⟩
      obtain ⟨g', hg'⟩ : ∃ g, a.2.1 = g := ⟨_, rfl⟩
      obtain ⟨len, hlen⟩ : ∃ l, a.1.2.length = l := ⟨_, rfl⟩
      obtain ⟨len2, hlen2⟩ : ∃ l, a.2.2.length = l := ⟨_, rfl⟩
      rw [hg, hg', hlen, hlen2] at kA
      rw [hg, hg', hlen, hlen2]
      clear hs ht hg hg' hlen hlen2
      have s1 : (w.alloc (.cells #[.bool g, .slice ad len cap, .bool g', .slice ae len2 cbp] 28)).heap.size = w.heap.size + 1 := by simp
      have X0 := (BoxV.made w (.bool g) (.slice ad len cap) (.bool g') (.slice ae len2 cbp) 28).below (below1 _ (.cells #[.bool false, .slice none 0 0, .bool false, .slice none 0 0] 28)) (Nat.le_refl _)
      have R0 := BoxV.made (w.alloc (.cells #[.bool g, .slice ad len cap, .bool g', .slice ae len2 cbp] 28)) (.bool false) (.slice none 0 0) (.bool false) (.slice none 0 0) 28
      rw [s1] at R0
      have B0 := below2 w (.cells #[.bool g, .slice ad len cap, .bool g', .slice ae len2 cbp] 28) (.cells #[.bool false, .slice none 0 0, .bool false, .slice none 0 0] 28)
      clear s1
      go_enter Try.func17, Try.ntmps17
      go_wp2_with fail
      refine (kA _ B0).mono ?_
      generalize (w.alloc (.cells #[.bool g, .slice ad len cap, .bool g', .slice ae len2 cbp] 28)).alloc (.cells #[.bool false, .slice none 0 0, .bool false, .slice none 0 0] 28) = w0 at *
      rintro e w1' ⟨X, Y, rfl, b1', hXY⟩
      have bF := below1 w1' (.cells #[.pointer X, .pointer Y] 54)
      have E1 := BoxW.made w1' (.pointer X) (.pointer Y) 54
      have b1 := b1'.trans (bF.mono b1'.size)
      have R1 := R0.below b1 (Nat.le_refl _)
      have B1 := B0.trans (b1.mono B0.size)
      have r0 := R1.c0
      have f0 := R1.f0
      have r1 := R1.c1
      have f1 := R1.f1
      have r2 := R1.c2
      have f2 := R1.f2
      have r3 := R1.c3
      have f3 := R1.f3
      have HB : Hid (Below w.heap.size w _) := ((((B1.setCell (p := ⟨w.heap.size + 1, 0, none⟩) (by show w.heap.size ≤ w.heap.size + 1; omega) (.bool false)).setCell (p := ⟨w.heap.size + 1, 1, none⟩) (by show w.heap.size ≤ w.heap.size + 1; omega) (.slice none 0 0)).setCell (p := ⟨w.heap.size + 1, 2, none⟩) (by show w.heap.size ≤ w.heap.size + 1; omega) (.bool false)).setCell (p := ⟨w.heap.size + 1, 3, none⟩) (by show w.heap.size ≤ w.heap.size + 1; omega) (.slice none 0 0))
      clear R0 R1 B0 B1 b1 X0 E1 hXY kA bF
      go_wp2
      (try simp only [Exit.inBlock, Exit.then])
      refine bodyPost_ret (v := .tuple #[.agg #[.bool false, .slice none 0 0, .bool false, .slice none 0 0], .bool false]) ?_ rfl ⟨_, by rw [HR.out], by rw [HR.out]; exact nilV _ _, HB.out⟩
      rw [results_cell_tmp rfl]
      go_simp
    by_cases hn2 : 1000000 < n
    · have q1 : decide (n < 0) = false := decide_eq_false hn1
      have q2 : decide (1000000 < n) = true := decide_eq_true hn2
      have HR : Hid (wideR a n = (((false, []), (false, [])), false)) := by show _ = _; unfold wideR; rw [if_neg (by omega)]
      obtain ⟨rr, hr⟩ : ∃ r, wideR a n = r := ⟨_, rfl⟩
      rw [hr] at HR
      rw [hr]
      clear hr
      clear hov hl0 hl1
      obtain ⟨s, t, rfl, hs, ht⟩ := ha
      obtain ⟨ad, cap, rfl, -⟩ := id hs
      obtain ⟨ae, cbp, rfl, -⟩ := id ht
      obtain ⟨g, hg⟩ : ∃ g, a.1.1 = g := ⟨_, rfl⟩
      obtain ⟨g', hg'⟩ : ∃ g, a.2.1 = g := ⟨_, rfl⟩
      obtain ⟨len, hlen⟩ : ∃ l, a.1.2.length = l := ⟨_, rfl⟩
      obtain ⟨len2, hlen2⟩ : ∃ l, a.2.2.length = l := ⟨_, rfl⟩
      rw [hg, hg', hlen, hlen2] at kA
      rw [hg, hg', hlen, hlen2]
      clear hs ht hg hg' hlen hlen2
      have s1 : (w.alloc (.cells #[.bool g, .slice ad len cap, .bool g', .slice ae len2 cbp] 28)).heap.size = w.heap.size + 1 := by simp
      have X0 := (BoxV.made w (.bool g) (.slice ad len cap) (.bool g') (.slice ae len2 cbp) 28).below (below1 _ (.cells #[.bool false, .slice none 0 0, .bool false, .slice none 0 0] 28)) (Nat.le_refl _)
      have R0 := BoxV.made (w.alloc (.cells #[.bool g, .slice ad len cap, .bool g', .slice ae len2 cbp] 28)) (.bool false) (.slice none 0 0) (.bool false) (.slice none 0 0) 28
      rw [s1] at R0
      have B0 := below2 w (.cells #[.bool g, .slice ad len cap, .bool g', .slice ae len2 cbp] 28) (.cells #[.bool false, .slice none 0 0, .bool false, .slice none 0 0] 28)
      clear s1
      go_enter Try.func17, Try.ntmps17
      go_wp2_with fail
      refine (kA _ B0).mono ?_
      generalize (w.alloc (.cells #[.bool g, .slice ad len cap, .bool g', .slice ae len2 cbp] 28)).alloc (.cells #[.bool false, .slice none 0 0, .bool false, .slice none 0 0] 28) = w0 at *
      rintro e w1' ⟨X, Y, rfl, b1', hXY⟩
      have bF := below1 w1' (.cells #[.pointer X, .pointer Y] 54)
      have E1 := BoxW.made w1' (.pointer X) (.pointer Y) 54
      have b1 := b1'.trans (bF.mono b1'.size)
      have R1 := R0.below b1 (Nat.le_refl _)
      have B1 := B0.trans (b1.mono B0.size)
      have r0 := R1.c0
      have f0 := R1.f0
      have r1 := R1.c1
      have f1 := R1.f1
      have r2 := R1.c2
      have f2 := R1.f2
      have r3 := R1.c3
      have f3 := R1.f3
      have HB : Hid (Below w.heap.size w _) := ((((B1.setCell (p := ⟨w.heap.size + 1, 0, none⟩) (by show w.heap.size ≤ w.heap.size + 1; omega) (.bool false)).setCell (p := ⟨w.heap.size + 1, 1, none⟩) (by show w.heap.size ≤ w.heap.size + 1; omega) (.slice none 0 0)).setCell (p := ⟨w.heap.size + 1, 2, none⟩) (by show w.heap.size ≤ w.heap.size + 1; omega) (.bool false)).setCell (p := ⟨w.heap.size + 1, 3, none⟩) (by show w.heap.size ≤ w.heap.size + 1; omega) (.slice none 0 0))
      clear R0 R1 B0 B1 b1 X0 E1 hXY kA bF
      go_wp2
      (try simp only [Exit.inBlock, Exit.then])
      refine bodyPost_ret (v := .tuple #[.agg #[.bool false, .slice none 0 0, .bool false, .slice none 0 0], .bool false]) ?_ rfl ⟨_, by rw [HR.out], by rw [HR.out]; exact nilV _ _, HB.out⟩
      rw [results_cell_tmp rfl]
      go_simp
    have q1 : decide (n < 0) = false := decide_eq_false hn1
    have q2 : decide (1000000 < n) = false := decide_eq_false hn2
    have HR : Hid (wideR a n = fitV (valW a.1 - n) (valW a.2 + n)) := by show _ = _; unfold wideR; rw [if_pos ⟨hov, by omega, by omega⟩]
    have z := okV_yes hov
    have l1' := okW_lenV z.1
    have l2' := okW_lenV z.2.1
    have ln : (limbs n.natAbs).length ≤ 1 := limbs_len_le _ 1 (by omega)
    have kS := fun p q W h1 h2 => widerSpan_c p q (valW a.1) (valW a.2) n W h1 h2 (by omega) (by omega) (by omega) (by omega) (by omega)
    unfold spanE at kS
    have kf := fun p q W h1 h2 => ivFrom_c p q (valW a.1 - n) (valW a.2 + n) W h1 h2
    obtain ⟨rr, hr⟩ : ∃ r, wideR a n = r := ⟨_, rfl⟩
    rw [hr] at HR
    rw [hr]
    clear hr
    clear hov hl0 hl1 z l1' l2' ln
    generalize fitV (valW a.1 - n) (valW a.2 + n) = fw at *
    generalize valW a.1 - n = d1 at *
    generalize valW a.2 + n = d2 at *
    generalize valW a.1 = x at *
    generalize valW a.2 = y at *
    obtain ⟨s, t, rfl, hs, ht⟩ := ha
    obtain ⟨ad, cap, rfl, -⟩ := id hs
    obtain ⟨ae, cbp, rfl, -⟩ := id ht
    obtain ⟨g, hg⟩ : ∃ g, a.1.1 = g := ⟨_, rfl⟩
    obtain ⟨g', hg'⟩ : ∃ g, a.2.1 = g := ⟨_, rfl⟩
    obtain ⟨len, hlen⟩ : ∃ l, a.1.2.length = l := ⟨_, rfl⟩
    obtain ⟨len2, hlen2⟩ : ∃ l, a.2.2.length = l := ⟨_, rfl⟩
    rw [hg, hg', hlen, hlen2] at kA
    rw [hg, hg', hlen, hlen2]
    clear hs ht hg hg' hlen hlen2
    have s1 : (w.alloc (.cells #[.bool g, .slice ad len cap, .bool g', .slice ae len2 cbp] 28)).heap.size = w.heap.size + 1 := by simp
    have X0 := (BoxV.made w (.bool g) (.slice ad len cap) (.bool g') (.slice ae len2 cbp) 28).below (below1 _ (.cells #[.bool false, .slice none 0 0, .bool false, .slice none 0 0] 28)) (Nat.le_refl _)
    have R0 := BoxV.made (w.alloc (.cells #[.bool g, .slice ad len cap, .bool g', .slice ae len2 cbp] 28)) (.bool false) (.slice none 0 0) (.bool false) (.slice none 0 0) 28
    rw [s1] at R0
    have B0 := below2 w (.cells #[.bool g, .slice ad len cap, .bool g', .slice ae len2 cbp] 28) (.cells #[.bool false, .slice none 0 0, .bool false, .slice none 0 0] 28)
    clear s1
    go_enter Try.func17, Try.ntmps17
    go_wp2_with fail
    refine (kA _ B0).mono ?_
    generalize (w.alloc (.cells #[.bool g, .slice ad len cap, .bool g', .slice ae len2 cbp] 28)).alloc (.cells #[.bool false, .slice none 0 0, .bool false, .slice none 0 0] 28) = w0 at *
    rintro e w1' ⟨X, Y, rfl, b1', hXY⟩
    have bF := below1 w1' (.cells #[.pointer X, .pointer Y] 54)
    have E1 := BoxW.made w1' (.pointer X) (.pointer Y) 54
    have b1 := b1'.trans (bF.mono b1'.size)
    have R1 := R0.below b1 (Nat.le_refl _)
    have B1 := B0.trans (b1.mono B0.size)
    obtain ⟨p, q, rfl, rfl, sp, sq, -, -⟩ := hXY (by first | exact trivial | rfl)
    have sp1 := sp.below bF sp.lt
    have sq1 := sq.below bF sq.lt
    have hR0 := R0.hi
    have hE1 : w0.heap.size ≤ w1'.heap.size := b1'.size
    clear hXY kA R0 B0 b1 b1' X0 sp sq bF
    go_wp2_with fail
    generalize w1'.alloc (.cells #[.pointer (some ⟨p, 0, none⟩), .pointer (some ⟨q, 0, none⟩)] 54) = w1 at *
    generalize w1'.heap.size = f6 at *
    refine (kS p q _ sp1 sq1).mono ?_
    rintro e w4 ⟨c, d, rfl, sc, sd, b4⟩
    have R4 := R1.below b4 (Nat.le_refl _)
    have B4 := B1.trans (b4.mono B1.size)
    clear kS sp1 sq1 E1
    go_wp2_with fail
    refine (kf c d _ sc sd).mono ?_
    rintro e w6 ⟨v6, rfl, o6, b6⟩
    obtain ⟨⟨⟨n1, l1⟩, ⟨n2, l2⟩⟩, ok3⟩ := fw
    obtain ⟨s3, s4, rfl, q3, q4, hap⟩ := o6
    obtain ⟨ad3, cp3, rfl, -⟩ := q3.row
    obtain ⟨ad4, cp4, rfl, -⟩ := q4.row
    have q3' : ownsI w6 w4.heap.size (.slice ad3 l1.length cp3) l1 := q3
    have q4' : ownsI w6 w4.heap.size (.slice ad4 l2.length cp4) l2 := q4
    have hR4 := R4.hi
    have R6 := R4.below b6 (Nat.le_refl _)
    have B6 := B4.trans (b6.mono B4.size)
    have r0 := R6.c0
    have f0 := R6.f0
    have r1 := R6.c1
    have f1 := R6.f1
    have r2 := R6.c2
    have f2 := R6.f2
    have r3 := R6.c3
    have f3 := R6.f3
    have HA : Hid (ownsI _ w4.heap.size (.slice ad3 l1.length cp3) l1) := ((((q3'.other (w.heap.size + 1) 0 (by omega) (.bool n1)).other (w.heap.size + 1) 1 (by omega) (.slice ad3 l1.length cp3)).other (w.heap.size + 1) 2 (by omega) (.bool n2)).other (w.heap.size + 1) 3 (by omega) (.slice ad4 l2.length cp4))
    have HZ : Hid (ownsI _ w4.heap.size (.slice ad4 l2.length cp4) l2) := ((((q4'.other (w.heap.size + 1) 0 (by omega) (.bool n1)).other (w.heap.size + 1) 1 (by omega) (.slice ad3 l1.length cp3)).other (w.heap.size + 1) 2 (by omega) (.bool n2)).other (w.heap.size + 1) 3 (by omega) (.slice ad4 l2.length cp4))
    have HB : Hid (Below w.heap.size w _) := ((((B6.setCell (p := ⟨w.heap.size + 1, 0, none⟩) (by show w.heap.size ≤ w.heap.size + 1; omega) (.bool n1)).setCell (p := ⟨w.heap.size + 1, 1, none⟩) (by show w.heap.size ≤ w.heap.size + 1; omega) (.slice ad3 l1.length cp3)).setCell (p := ⟨w.heap.size + 1, 2, none⟩) (by show w.heap.size ≤ w.heap.size + 1; omega) (.bool n2)).setCell (p := ⟨w.heap.size + 1, 3, none⟩) (by show w.heap.size ≤ w.heap.size + 1; omega) (.slice ad4 l2.length cp4))
    have HP : Hid (Apart (blkI (.slice ad3 l1.length cp3)) (blkI (.slice ad4 l2.length cp4))) := hap
    have hb4 := B4.size
    clear q3 q4 q3' q4' hap R1 R4 R6 B1 B4 B6 b4 b6 sc sd kf
    go_wp2
    (try simp only [Exit.inBlock, Exit.then])
    refine bodyPost_ret (v := .tuple #[.agg #[.bool n1, .slice ad3 l1.length cp3, .bool n2, .slice ad4 l2.length cp4], .bool ok3]) ?_ rfl ⟨_, by rw [HR.out], by rw [HR.out]; exact ⟨_, _, rfl, ownsI_mono HA.out hb4, ownsI_mono HZ.out hb4, HP.out⟩, HB.out⟩
    rw [results_cell_tmp rfl]
    go_simp


end Go.Proofs.Ytddakeohamefiaa
