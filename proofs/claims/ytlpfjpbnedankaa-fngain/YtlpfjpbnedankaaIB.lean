/- Several small texts in one: IFrom, IMeet, SVFits. -/
import Derived.Test.YtlpfjpbnedankaaITwoSp
import Derived.Test.YtlpfjpbnedankaaSWhole
/- The program's ivFrom, by its contract. -/
namespace Go.Proofs.Ytlpfjpbnedankaa
open Go.RowKit
set_option linter.unusedSimpArgs false

/-- What fits is answered, else nothing and no. -/
def fitV (x y : Int) : Vh × Bool := if (fitW x).2 = true ∧ (fitW y).2 = true then (((fitW x).1, (fitW y).1), true) else (((false, []), (false, [])), false)
theorem fitV_len (x y : Int) : (fitV x y).1.1.2.length ≤ 1048576 ∧ (fitV x y).1.2.2.length ≤ 1048576 := by
  unfold fitV
  split
  · exact ⟨fitW_len x, fitW_len y⟩
  · simp

set_option maxRecDepth 20000 in
set_option maxHeartbeats 6400000 in
theorem ivFrom_c (p q : Nat) (x y : Int) (w : World) (hp : SG w p x) (hq : SG w q y) :
    Calls Try.prog 24 #[.agg #[.pointer (some ⟨p, 0, none⟩), .pointer (some ⟨q, 0, none⟩)]] w fun e w' => ∃ v, e = .returned (.tuple #[v, .bool (fitV x y).2]) ∧ ownsV w' w.heap.size v (fitV x y).1 ∧ Below w.heap.size w w' := by
  have kA := fun W (h : Below w.heap.size w W) => sWhole p x W (hp.below h hp.lt)
  have kB := fun W (h : Below w.heap.size w W) => sWhole q y W (hq.below h hq.lt)
  have HF : Hid (fitV x y = if (fitW x).2 = true ∧ (fitW y).2 = true then (((fitW x).1, (fitW y).1), true) else (((false, []), (false, [])), false)) := rfl
  obtain ⟨fv, hfv⟩ : ∃ f, fitV x y = f := ⟨_, rfl⟩
  rw [hfv] at HF
  rw [hfv]
  obtain ⟨⟨⟨ga, la⟩, oa⟩, hfa⟩ : ∃ f, fitW x = f := ⟨_, rfl⟩
  obtain ⟨⟨⟨gb, lb⟩, ob⟩, hfb⟩ : ∃ f, fitW y = f := ⟨_, rfl⟩
  rw [hfa] at kA HF
  rw [hfb] at kB HF
  clear hp hq hfv hfa hfb
  have s1 : (w.alloc (.cells #[.pointer (some ⟨p, 0, none⟩), .pointer (some ⟨q, 0, none⟩)] 52)).heap.size = w.heap.size + 1 := by simp
  have X0 := (BoxW.made w (.pointer (some ⟨p, 0, none⟩)) (.pointer (some ⟨q, 0, none⟩)) 52).below (below1 _ (.cells #[.bool false, .slice none 0 0, .bool false, .slice none 0 0] 29)) (Nat.le_refl _)
  have R0 := BoxV.made (w.alloc (.cells #[.pointer (some ⟨p, 0, none⟩), .pointer (some ⟨q, 0, none⟩)] 52)) (.bool false) (.slice none 0 0) (.bool false) (.slice none 0 0) 29
  rw [s1] at R0
  have B0 := below2 w (.cells #[.pointer (some ⟨p, 0, none⟩), .pointer (some ⟨q, 0, none⟩)] 52) (.cells #[.bool false, .slice none 0 0, .bool false, .slice none 0 0] 29)
  clear s1
  go_enter Try.func24, Try.ntmps24
  go_wp2_with fail
  refine (kA _ B0).mono ?_
  generalize (w.alloc (.cells #[.pointer (some ⟨p, 0, none⟩), .pointer (some ⟨q, 0, none⟩)] 52)).alloc (.cells #[.bool false, .slice none 0 0, .bool false, .slice none 0 0] 29) = w0 at *
  rintro e w1 ⟨v1, rfl, o1, b1⟩
  obtain ⟨sa, rfl, q1⟩ := o1
  obtain ⟨ad, cp, rfl, -⟩ := q1.row
  have q1' : ownsI w1 w0.heap.size (.slice ad la.length cp) la := q1
  have hR0 := R0.hi
  have bA := below1 w1 (.cells #[.bool ga, .slice ad la.length cp] 27)
  have X1 := (X0.below b1 (Nat.le_refl _)).below bA (Nat.le_refl _)
  have R1 := (R0.below b1 (Nat.le_refl _)).below bA (Nat.le_refl _)
  have E1 := BoxW.made w1 (.bool ga) (.slice ad la.length cp) 27
  have B1 := (B0.trans (b1.mono B0.size)).trans (bA.mono (B0.trans (b1.mono B0.size)).size)
  have q2 := ownsI.below q1' bA (Nat.le_refl _)
  have hw01 := b1.size
  clear q1 q1' b1 X0 R0 kA bA
  have c0 := X1.c0
  have c1 := X1.c1
  go_wp2_with fail
  clear c0 c1
  refine (kB _ B1).mono ?_
  generalize w1.alloc (.cells #[.bool ga, .slice ad la.length cp] 27) = w2 at *
  generalize w1.heap.size = f4 at *
  rintro e w3 ⟨v3, rfl, o3, b3⟩
  obtain ⟨sb, rfl, q3⟩ := o3
  obtain ⟨ae, cq, rfl, -⟩ := q3.row
  have q3' : ownsI w3 w2.heap.size (.slice ae lb.length cq) lb := q3
  have hE1 := E1.hi
  have hR1 := R1.hi
  have bB := below1 w3 (.cells #[.bool gb, .slice ae lb.length cq] 27)
  have R3 := (R1.below b3 (Nat.le_refl _)).below bB (Nat.le_refl _)
  have E3 := (E1.below b3 (Nat.le_refl _)).below bB (Nat.le_refl _)
  have G3 := BoxW.made w3 (.bool gb) (.slice ae lb.length cq) 27
  have B3 := (B1.trans (b3.mono B1.size)).trans (bB.mono (B1.trans (b3.mono B1.size)).size)
  have z2 := ownsI.below (ownsI.below q2 b3 (Nat.le_refl _)) bB (Nat.le_refl _)
  have z3 := ownsI.below q3' bB (Nat.le_refl _)
  have hap : Apart (blkI (.slice ad la.length cp)) (blkI (.slice ae lb.length cq)) := apart_of (fun k hk => (q2.ltb k hk).2) (fun k hk => (q3'.ltb k hk).1)
  have hw23 := b3.size
  clear q2 q3 q3' b3 X1 R1 E1 B1 kB bB
  have e0 := E3.c0
  have e1 := E3.c1
  have g0 := G3.c0
  have g1 := G3.c1
  have r0 := R3.c0
  have r1 := R3.c1
  have r2 := R3.c2
  have r3 := R3.c3
  have t0 := R3.f0
  have t1 := R3.f1
  have t2 := R3.f2
  have t3 := R3.f3
  by_cases hok : oa = true ∧ ob = true
  · obtain ⟨rfl, rfl⟩ := hok
    have HV : Hid (fv = (((ga, la), (gb, lb)), true)) := by show _ = _; rw [HF.out]; simp
    have HA : Hid (ownsI _ w0.heap.size (.slice ad la.length cp) la) := (((z2.other (w.heap.size + 1) 0 (by omega) (.bool ga)).other (w.heap.size + 1) 1 (by omega) (.slice ad la.length cp)).other (w.heap.size + 1) 2 (by omega) (.bool gb)).other (w.heap.size + 1) 3 (by omega) (.slice ae lb.length cq)
    have HZ : Hid (ownsI _ w2.heap.size (.slice ae lb.length cq) lb) := (((z3.other (w.heap.size + 1) 0 (by omega) (.bool ga)).other (w.heap.size + 1) 1 (by omega) (.slice ad la.length cp)).other (w.heap.size + 1) 2 (by omega) (.bool gb)).other (w.heap.size + 1) 3 (by omega) (.slice ae lb.length cq)
    have HB : Hid (Below w.heap.size w _) := (((B3.setCell (p := ⟨w.heap.size + 1, 0, none⟩) (by show w.heap.size ≤ w.heap.size + 1; omega) (.bool ga)).setCell (p := ⟨w.heap.size + 1, 1, none⟩) (by show w.heap.size ≤ w.heap.size + 1; omega) (.slice ad la.length cp)).setCell (p := ⟨w.heap.size + 1, 2, none⟩) (by show w.heap.size ≤ w.heap.size + 1; omega) (.bool gb)).setCell (p := ⟨w.heap.size + 1, 3, none⟩) (by show w.heap.size ≤ w.heap.size + 1; omega) (.slice ae lb.length cq)
    have HP : Hid (Apart (blkI (.slice ad la.length cp)) (blkI (.slice ae lb.length cq))) := hap
    have hb2 : w.heap.size ≤ w2.heap.size := by omega
    have hb0 : w.heap.size ≤ w0.heap.size := by omega
    clear z2 z3 R3 E3 G3 B3 hap HF
    go_wp2
    (try simp only [Exit.inBlock, Exit.then])
    refine bodyPost_ret (v := .tuple #[.agg #[.bool ga, .slice ad la.length cp, .bool gb, .slice ae lb.length cq], .bool true]) ?_ rfl ⟨_, by rw [HV.out], by rw [HV.out]; exact ⟨_, _, rfl, ownsI_mono HA.out hb0, ownsI_mono HZ.out hb2, HP.out⟩, HB.out⟩
    rw [results_cell_tmp rfl]
    go_simp
  · have HV : Hid (fv = (((false, []), (false, [])), false)) := by show _ = _; rw [HF.out, if_neg hok]
    have HB : Hid (Below w.heap.size w _) := (((B3.setCell (p := ⟨w.heap.size + 1, 0, none⟩) (by show w.heap.size ≤ w.heap.size + 1; omega) (.bool false)).setCell (p := ⟨w.heap.size + 1, 1, none⟩) (by show w.heap.size ≤ w.heap.size + 1; omega) (.slice none 0 0)).setCell (p := ⟨w.heap.size + 1, 2, none⟩) (by show w.heap.size ≤ w.heap.size + 1; omega) (.bool false)).setCell (p := ⟨w.heap.size + 1, 3, none⟩) (by show w.heap.size ≤ w.heap.size + 1; omega) (.slice none 0 0)
    clear z2 z3 R3 E3 G3 B3 hap HF
    cases oa
    · clear hok
      go_wp2
      (try simp only [Exit.inBlock, Exit.then])
      refine bodyPost_ret (v := .tuple #[.agg #[.bool false, .slice none 0 0, .bool false, .slice none 0 0], .bool false]) ?_ rfl ⟨_, by rw [HV.out], by rw [HV.out]; exact nilV _ _, HB.out⟩
      rw [results_cell_tmp rfl]
      go_simp
    · cases ob
      · clear hok
        go_wp2
        (try simp only [Exit.inBlock, Exit.then])
        refine bodyPost_ret (v := .tuple #[.agg #[.bool false, .slice none 0 0, .bool false, .slice none 0 0], .bool false]) ?_ rfl ⟨_, by rw [HV.out], by rw [HV.out]; exact nilV _ _, HB.out⟩
        rw [results_cell_tmp rfl]
        go_simp
      · exact absurd ⟨rfl, rfl⟩ hok

end Go.Proofs.Ytlpfjpbnedankaa

/- The program's meets, within, IvMeet and IvIn, each by its contract. -/
namespace Go.Proofs.Ytlpfjpbnedankaa
open Go.RowKit
set_option linter.unusedSimpArgs false

def meetR (a b : Vh) : Bool := okV a && okV b && (decide (valW a.1 ≤ valW b.2) && decide (valW b.1 ≤ valW a.2))
def ivInR (a b : Vh) : Bool := okV a && okV b && (decide (valW b.1 ≤ valW a.1) && decide (valW a.2 ≤ valW b.2))

set_option maxRecDepth 20000 in
set_option maxHeartbeats 1600000 in
theorem hMeets (p q p' q' : Nat) (x1 y1 x2 y2 : Int) (w : World) (h1 : SG w p x1) (h2 : SG w q y1) (h3 : SG w p' x2) (h4 : SG w q' y2) :
    Calls Try.prog 40 #[.agg #[.pointer (some ⟨p, 0, none⟩), .pointer (some ⟨q, 0, none⟩)], .agg #[.pointer (some ⟨p', 0, none⟩), .pointer (some ⟨q', 0, none⟩)]] w fun e w' => e = .returned (.bool (decide (x1 ≤ y2) && decide (x2 ≤ y1))) ∧ Below w.heap.size w w' := by
  have kA := fun W (h : Below w.heap.size w W) => sOrder p q' x1 y2 W (h1.below h h1.lt) (h4.below h h4.lt)
  have kB := fun W (h : Below w.heap.size w W) => sOrder p' q x2 y1 W (h3.below h h3.lt) (h2.below h h2.lt)
  rw [← ord_le x1 y2, ← ord_le x2 y1]
  generalize (if x1 < y2 then (-1 : Int) else if y2 < x1 then 1 else 0) = c1 at *
  generalize (if x2 < y1 then (-1 : Int) else if y1 < x2 then 1 else 0) = c2 at *
  have s1 : (w.alloc (.cells #[.pointer (some ⟨p, 0, none⟩), .pointer (some ⟨q, 0, none⟩)] 52)).heap.size = w.heap.size + 1 := by simp
  have X0 := (BoxW.made w (.pointer (some ⟨p, 0, none⟩)) (.pointer (some ⟨q, 0, none⟩)) 52).below (below1 _ (.cells #[.pointer (some ⟨p', 0, none⟩), .pointer (some ⟨q', 0, none⟩)] 52)) (Nat.le_refl _)
  have Y0 := BoxW.made (w.alloc (.cells #[.pointer (some ⟨p, 0, none⟩), .pointer (some ⟨q, 0, none⟩)] 52)) (.pointer (some ⟨p', 0, none⟩)) (.pointer (some ⟨q', 0, none⟩)) 52
  rw [s1] at Y0
  have B0 := below2 w (.cells #[.pointer (some ⟨p, 0, none⟩), .pointer (some ⟨q, 0, none⟩)] 52) (.cells #[.pointer (some ⟨p', 0, none⟩), .pointer (some ⟨q', 0, none⟩)] 52)
  clear s1 h1 h2 h3 h4
  by_cases hc : c1 ≤ 0
  · have e1 : decide (c1 ≤ 0) = true := decide_eq_true hc
    rw [e1]
    go_enter Try.func40, Try.ntmps40
    go_wp2_with fail
    refine (kA _ B0).mono ?_
    generalize (w.alloc (.cells #[.pointer (some ⟨p, 0, none⟩), .pointer (some ⟨q, 0, none⟩)] 52)).alloc (.cells #[.pointer (some ⟨p', 0, none⟩), .pointer (some ⟨q', 0, none⟩)] 52) = w0 at *
    rintro e w1 ⟨rfl, b1⟩
    have X1 := X0.below b1 (Nat.le_refl _)
    have Y1 := Y0.below b1 (Nat.le_refl _)
    have B1 := B0.trans (b1.mono B0.size)
    have a0 := X1.c0
    have a1 := X1.c1
    have a2 := Y1.c0
    have a3 := Y1.c1
    go_wp2_with fail
    refine (kB _ B1).mono ?_
    rintro e w2 ⟨rfl, b2⟩
    have B2 := B1.trans (b2.mono B1.size)
    clear a0 a1 a2 a3 kA kB
    go_wp2
    go_ret
    exact ⟨by simp, B2⟩
  · have e1 : decide (c1 ≤ 0) = false := decide_eq_false hc
    rw [e1]
    go_enter Try.func40, Try.ntmps40
    go_wp2_with fail
    refine (kA _ B0).mono ?_
    generalize (w.alloc (.cells #[.pointer (some ⟨p, 0, none⟩), .pointer (some ⟨q, 0, none⟩)] 52)).alloc (.cells #[.pointer (some ⟨p', 0, none⟩), .pointer (some ⟨q', 0, none⟩)] 52) = w0 at *
    rintro e w1 ⟨rfl, b1⟩
    have B1 := B0.trans (b1.mono B0.size)
    clear kA kB
    go_wp2
    go_ret
    exact ⟨by simp, B1⟩

set_option maxRecDepth 20000 in
set_option maxHeartbeats 3200000 in
theorem iIvMeet (va vb : Value) (a b : Vh) (w : World) (ha : rowV w va a) (hb : rowV w vb b) (hl0 : a.1.2.length ≤ 1048576) (hl1 : a.2.2.length ≤ 1048576) (hl2 : b.1.2.length ≤ 1048576) (hl3 : b.2.2.length ≤ 1048576) :
    Calls Try.prog 16 #[va, vb] w fun e w' => e = .returned (.bool (meetR a b)) ∧ Below w.heap.size w w' := by
  have kT := fun W (h : Below w.heap.size w W) => twoSpans_c va vb a b W (ha.below h (Nat.le_refl _)) (hb.below h (Nat.le_refl _)) hl0 hl1 hl2 hl3
  have kM := fun p q p' q' W h1 h2 h3 h4 => hMeets p q p' q' (valW a.1) (valW a.2) (valW b.1) (valW b.2) W h1 h2 h3 h4
  obtain ⟨rv, hrv⟩ : ∃ r, meetR a b = r := ⟨_, rfl⟩
  rw [hrv]
  have HV : Hid (meetR a b = rv) := hrv
  have HD : Hid (meetR a b = (okV a && okV b && (decide (valW a.1 ≤ valW b.2) && decide (valW b.1 ≤ valW a.2)))) := rfl
  clear hrv
  obtain ⟨s, t, rfl, hs, ht⟩ := ha
  obtain ⟨u, v, rfl, hu, hv⟩ := hb
  obtain ⟨ad, cap, rfl, -⟩ := id hs
  obtain ⟨ae, cbp, rfl, -⟩ := id ht
  obtain ⟨bd, cap2, rfl, -⟩ := id hu
  obtain ⟨be, cbp2, rfl, -⟩ := id hv
  clear hs ht hu hv
  have B0 := below2 w (.cells #[.bool a.1.1, .slice ad a.1.2.length cap, .bool a.2.1, .slice ae a.2.2.length cbp] 29) (.cells #[.bool b.1.1, .slice bd b.1.2.length cap2, .bool b.2.1, .slice be b.2.2.length cbp2] 29)
  go_enter Try.func16, Try.ntmps16
  go_wp2_with fail
  refine (kT _ B0).mono ?_
  generalize (w.alloc (.cells #[.bool a.1.1, .slice ad a.1.2.length cap, .bool a.2.1, .slice ae a.2.2.length cbp] 29)).alloc (.cells #[.bool b.1.1, .slice bd b.1.2.length cap2, .bool b.2.1, .slice be b.2.2.length cbp2] 29) = w0 at *
  rintro e w1 ⟨X, Y, X', Y', rfl, b1, h1⟩
  have B1 := B0.trans (b1.mono B0.size)
  have bF := below2 w1 (.cells #[.pointer X, .pointer Y] 52) (.cells #[.pointer X', .pointer Y'] 52)
  have B2 := B1.trans (bF.mono B1.size)
  have s1 : (w1.alloc (.cells #[.pointer X, .pointer Y] 52)).heap.size = w1.heap.size + 1 := by simp
  have E1 := (BoxW.made w1 (.pointer X) (.pointer Y) 52).below (below1 _ (.cells #[.pointer X', .pointer Y'] 52)) (Nat.le_refl _)
  have G1 := BoxW.made (w1.alloc (.cells #[.pointer X, .pointer Y] 52)) (.pointer X') (.pointer Y') 52
  rw [s1] at G1
  clear s1 kT
  by_cases hok : okV a = true ∧ okV b = true
  · obtain ⟨p, q, p', q', rfl, rfl, rfl, rfl, s1, s2, s3, s4, -⟩ := h1 hok.1 hok.2
    have hand : (okV a && okV b) = true := by rw [hok.1, hok.2]; rfl
    have kN := kM p q p' q' _ (s1.below bF s1.lt) (s2.below bF s2.lt) (s3.below bF s3.lt) (s4.below bF s4.lt)
    have hdd := HD.out
    rw [hand, Bool.true_and] at hdd
    rw [← hdd, HV.out] at kN
    simp only [hand]
    clear h1 hok hand HD HV kM s1 s2 s3 s4 hdd
    go_wp2_with fail
    refine kN.mono ?_
    rintro e w3 ⟨rfl, b3⟩
    have B3 := B2.trans (b3.mono B2.size)
    clear kN
    go_wp2
    go_ret
    exact ⟨rfl, B3⟩
  · have hand : (okV a && okV b) = false := by
      cases h5 : okV a
      · rfl
      · cases h6 : okV b
        · rfl
        · exact absurd ⟨h5, h6⟩ hok
    have hrv : rv = false := by rw [← HV.out, HD.out, hand]; rfl
    subst hrv
    simp only [hand]
    clear h1 hok hand HD HV kM
    go_wp2
    go_ret
    exact ⟨rfl, B2⟩

end Go.Proofs.Ytlpfjpbnedankaa

/- The specification's l10Fits, by its contract. -/
namespace Go.Proofs.Ytlpfjpbnedankaa
open Go.RowKit
set_option linter.unusedSimpArgs false

end Go.Proofs.Ytlpfjpbnedankaa
