/- The program's meets, within, IvMeet and IvIn, each by its contract. -/
import Derived.Test.YtddakeohamefiaaSTB
namespace Go.Proofs.Ytddakeohamefiaa
open Go.RowKit
set_option linter.unusedSimpArgs false

def meetR (a b : Vh) : Bool := okV a && okV b && (decide (valW a.1 ≤ valW b.2) && decide (valW b.1 ≤ valW a.2))
def ivInR (a b : Vh) : Bool := okV a && okV b && (decide (valW b.1 ≤ valW a.1) && decide (valW a.2 ≤ valW b.2))

set_option maxRecDepth 20000 in
set_option maxHeartbeats 1600000 in
theorem hMeets (p q p' q' : Nat) (x1 y1 x2 y2 : Int) (w : World) (h1 : SG w p x1) (h2 : SG w q y1) (h3 : SG w p' x2) (h4 : SG w q' y2) :
    Calls Try.prog 40 #[.agg #[.pointer (some ⟨p, 0, none⟩), .pointer (some ⟨q, 0, none⟩)], .agg #[.pointer (some ⟨p', 0, none⟩), .pointer (some ⟨q', 0, none⟩)]] w fun e w' => e = .returned (.bool (decide (x1 ≤ y2) && decide (x2 ≤ y1))) ∧ Below w.heap.size w w' := by
  have kA := fun W (h : Below w.heap.size w W) => sOrder p q' x1 y2 W (h1.below h h1.lt) (h4.below h h4.lt)
  have kB := fun W (h : Below w.heap.size w W) => sOrder p' q x2 y1 W (h3.below h h3.lt) (h2.below h h2.lt)
  rw [← ord_le x1 y2, ← ord_le x2 y1]
  generalize (if x1 < y2 then (-1 : Int) else if y2 < x1 then 1 else 0) = c1 at *
  generalize (if x2 < y1 then (-1 : Int) else if y1 < x2 then 1 else 0) = c2 at *
  have s1 : (w.alloc (.cells #[.pointer (some ⟨p, 0, none⟩), .pointer (some ⟨q, 0, none⟩)] 54)).heap.size = w.heap.size + 1 := by simp
  have X0 := (BoxW.made w (.pointer (some ⟨p, 0, none⟩)) (.pointer (some ⟨q, 0, none⟩)) 54).below (below1 _ (.cells #[.pointer (some ⟨p', 0, none⟩), .pointer (some ⟨q', 0, none⟩)] 54)) (Nat.le_refl _)
  have Y0 := BoxW.made (w.alloc (.cells #[.pointer (some ⟨p, 0, none⟩), .pointer (some ⟨q, 0, none⟩)] 54)) (.pointer (some ⟨p', 0, none⟩)) (.pointer (some ⟨q', 0, none⟩)) 54
  rw [s1] at Y0
  have B0 := below2 w (.cells #[.pointer (some ⟨p, 0, none⟩), .pointer (some ⟨q, 0, none⟩)] 54) (.cells #[.pointer (some ⟨p', 0, none⟩), .pointer (some ⟨q', 0, none⟩)] 54)
  clear s1 h1 h2 h3 h4
  by_cases hc : c1 ≤ 0
  · have e1 : decide (c1 ≤ 0) = true := decide_eq_true hc
    rw [e1]
    go_enter Try.func40, Try.ntmps40
    go_wp2_with fail
    refine (kA _ B0).mono ?_
    generalize (w.alloc (.cells #[.pointer (some ⟨p, 0, none⟩), .pointer (some ⟨q, 0, none⟩)] 54)).alloc (.cells #[.pointer (some ⟨p', 0, none⟩), .pointer (some ⟨q', 0, none⟩)] 54) = w0 at *
    rintro e w1 ⟨rfl, b1⟩
    have X1 := X0.below b1 (Nat.le_refl _)
    have Y1 := Y0.below b1 (Nat.le_refl _)
    have B1 := B0.trans (b1.mono B0.size)
    have a0 := X1.c0
    have a1 := X1.c1
    have a2 := Y1.c0
    have a3 := Y1.c1
    go_wp2_with fail
    refine (kB _ B1).mono ?_
    rintro e w2 ⟨rfl, b2⟩
    have B2 := B1.trans (b2.mono B1.size)
    clear a0 a1 a2 a3 kA kB
    go_wp2
    go_ret
    exact ⟨by simp, B2⟩
  · have e1 : decide (c1 ≤ 0) = false := decide_eq_false hc
    rw [e1]
    go_enter Try.func40, Try.ntmps40
    go_wp2_with fail
    refine (kA _ B0).mono ?_
    generalize (w.alloc (.cells #[.pointer (some ⟨p, 0, none⟩), .pointer (some ⟨q, 0, none⟩)] 54)).alloc (.cells #[.pointer (some ⟨p', 0, none⟩), .pointer (some ⟨q', 0, none⟩)] 54) = w0 at *
    rintro e w1 ⟨rfl, b1⟩
    have B1 := B0.trans (b1.mono B0.size)
    clear kA kB
    go_wp2
    go_ret
    exact ⟨by simp, B1⟩

set_option maxRecDepth 20000 in
set_option maxHeartbeats 1600000 in
theorem hWithin (p q p' q' : Nat) (x1 y1 x2 y2 : Int) (w : World) (h1 : SG w p x1) (h2 : SG w q y1) (h3 : SG w p' x2) (h4 : SG w q' y2) :
    Calls Try.prog 38 #[.agg #[.pointer (some ⟨p, 0, none⟩), .pointer (some ⟨q, 0, none⟩)], .agg #[.pointer (some ⟨p', 0, none⟩), .pointer (some ⟨q', 0, none⟩)]] w fun e w' => e = .returned (.bool (decide (x2 ≤ x1) && decide (y1 ≤ y2))) ∧ Below w.heap.size w w' := by
  have kA := fun W (h : Below w.heap.size w W) => sOrder p' p x2 x1 W (h3.below h h3.lt) (h1.below h h1.lt)
  have kB := fun W (h : Below w.heap.size w W) => sOrder q q' y1 y2 W (h2.below h h2.lt) (h4.below h h4.lt)
  rw [← ord_le x2 x1, ← ord_le y1 y2]
  generalize (if x2 < x1 then (-1 : Int) else if x1 < x2 then 1 else 0) = c1 at *
  generalize (if y1 < y2 then (-1 : Int) else if y2 < y1 then 1 else 0) = c2 at *
  have s1 : (w.alloc (.cells #[.pointer (some ⟨p, 0, none⟩), .pointer (some ⟨q, 0, none⟩)] 54)).heap.size = w.heap.size + 1 := by simp
  have X0 := (BoxW.made w (.pointer (some ⟨p, 0, none⟩)) (.pointer (some ⟨q, 0, none⟩)) 54).below (below1 _ (.cells #[.pointer (some ⟨p', 0, none⟩), .pointer (some ⟨q', 0, none⟩)] 54)) (Nat.le_refl _)
  have Y0 := BoxW.made (w.alloc (.cells #[.pointer (some ⟨p, 0, none⟩), .pointer (some ⟨q, 0, none⟩)] 54)) (.pointer (some ⟨p', 0, none⟩)) (.pointer (some ⟨q', 0, none⟩)) 54
  rw [s1] at Y0
  have B0 := below2 w (.cells #[.pointer (some ⟨p, 0, none⟩), .pointer (some ⟨q, 0, none⟩)] 54) (.cells #[.pointer (some ⟨p', 0, none⟩), .pointer (some ⟨q', 0, none⟩)] 54)
  clear s1 h1 h2 h3 h4
  by_cases hc : c1 ≤ 0
  · have e1 : decide (c1 ≤ 0) = true := decide_eq_true hc
    rw [e1]
    go_enter Try.func38, Try.ntmps38
    go_wp2_with fail
    refine (kA _ B0).mono ?_
    generalize (w.alloc (.cells #[.pointer (some ⟨p, 0, none⟩), .pointer (some ⟨q, 0, none⟩)] 54)).alloc (.cells #[.pointer (some ⟨p', 0, none⟩), .pointer (some ⟨q', 0, none⟩)] 54) = w0 at *
    rintro e w1 ⟨rfl, b1⟩
    have X1 := X0.below b1 (Nat.le_refl _)
    have Y1 := Y0.below b1 (Nat.le_refl _)
    have B1 := B0.trans (b1.mono B0.size)
    have a0 := X1.c0
    have a1 := X1.c1
    have a2 := Y1.c0
    have a3 := Y1.c1
    go_wp2_with fail
    refine (kB _ B1).mono ?_
    rintro e w2 ⟨rfl, b2⟩
    have B2 := B1.trans (b2.mono B1.size)
    clear a0 a1 a2 a3 kA kB
    go_wp2
    go_ret
    exact ⟨by simp, B2⟩
  · have e1 : decide (c1 ≤ 0) = false := decide_eq_false hc
    rw [e1]
    go_enter Try.func38, Try.ntmps38
    go_wp2_with fail
    refine (kA _ B0).mono ?_
    generalize (w.alloc (.cells #[.pointer (some ⟨p, 0, none⟩), .pointer (some ⟨q, 0, none⟩)] 54)).alloc (.cells #[.pointer (some ⟨p', 0, none⟩), .pointer (some ⟨q', 0, none⟩)] 54) = w0 at *
    rintro e w1 ⟨rfl, b1⟩
    have B1 := B0.trans (b1.mono B0.size)
    clear kA kB
    go_wp2
    go_ret
    exact ⟨by simp, B1⟩

set_option maxRecDepth 20000 in
set_option maxHeartbeats 3200000 in
theorem iIvMeet (va vb : Value) (a b : Vh) (w : World) (ha : rowV w va a) (hb : rowV w vb b) (hl0 : a.1.2.length ≤ 1048576) (hl1 : a.2.2.length ≤ 1048576) (hl2 : b.1.2.length ≤ 1048576) (hl3 : b.2.2.length ≤ 1048576) :
    Calls Try.prog 14 #[va, vb] w fun e w' => e = .returned (.bool (meetR a b)) ∧ Below w.heap.size w w' := by
  have kT := fun W (h : Below w.heap.size w W) => twoSpans_c va vb a b W (ha.below h (Nat.le_refl _)) (hb.below h (Nat.le_refl _)) hl0 hl1 hl2 hl3
  have kM := fun p q p' q' W h1 h2 h3 h4 => hMeets p q p' q' (valW a.1) (valW a.2) (valW b.1) (valW b.2) W h1 h2 h3 h4
  obtain ⟨rv, hrv⟩ : ∃ r, meetR a b = r := ⟨_, rfl⟩
  rw [hrv]
  have HV : Hid (meetR a b = rv) := hrv
  have HD : Hid (meetR a b = (okV a && okV b && (decide (valW a.1 ≤ valW b.2) && decide (valW b.1 ≤ valW a.2)))) := rfl
  clear hrv
  obtain ⟨s, t, rfl, hs, ht⟩ := ha
  obtain ⟨u, v, rfl, hu, hv⟩ := hb
  obtain ⟨ad, cap, rfl, -⟩ := id hs
  obtain ⟨ae, cbp, rfl, -⟩ := id ht
  obtain ⟨bd, cap2, rfl, -⟩ := id hu
  obtain ⟨be, cbp2, rfl, -⟩ := id hv
  clear hs ht hu hv
  have B0 := below2 w (.cells #[.bool a.1.1, .slice ad a.1.2.length cap, .bool a.2.1, .slice ae a.2.2.length cbp] 28) (.cells #[.bool b.1.1, .slice bd b.1.2.length cap2, .bool b.2.1, .slice be b.2.2.length cbp2] 28)
  go_enter Try.func14, Try.ntmps14
  go_wp2_with fail
  refine (kT _ B0).mono ?_
  generalize (w.alloc (.cells #[.bool a.1.1, .slice ad a.1.2.length cap, .bool a.2.1, .slice ae a.2.2.length cbp] 28)).alloc (.cells #[.bool b.1.1, .slice bd b.1.2.length cap2, .bool b.2.1, .slice be b.2.2.length cbp2] 28) = w0 at *
  rintro e w1 ⟨X, Y, X', Y', rfl, b1, h1⟩
  have B1 := B0.trans (b1.mono B0.size)
  have bF := below2 w1 (.cells #[.pointer X, .pointer Y] 54) (.cells #[.pointer X', .pointer Y'] 54)
  have B2 := B1.trans (bF.mono B1.size)
  have s1 : (w1.alloc (.cells #[.pointer X, .pointer Y] 54)).heap.size = w1.heap.size + 1 := by simp
  have E1 := (BoxW.made w1 (.pointer X) (.pointer Y) 54).below (below1 _ (.cells #[.pointer X', .pointer Y'] 54)) (Nat.le_refl _)
  have G1 := BoxW.made (w1.alloc (.cells #[.pointer X, .pointer Y] 54)) (.pointer X') (.pointer Y') 54
  rw [s1] at G1
  clear s1 kT
  by_cases hok : okV a = true ∧ okV b = true
  · obtain ⟨p, q, p', q', rfl, rfl, rfl, rfl, s1, s2, s3, s4, -⟩ := h1 hok.1 hok.2
    have hand : (okV a && okV b) = true := by rw [hok.1, hok.2]; rfl
    have kN := kM p q p' q' _ (s1.below bF s1.lt) (s2.below bF s2.lt) (s3.below bF s3.lt) (s4.below bF s4.lt)
    have hdd := HD.out
    rw [hand, Bool.true_and] at hdd
    rw [← hdd, HV.out] at kN
    simp only [hand]
    clear h1 hok hand HD HV kM s1 s2 s3 s4 hdd
    go_wp2_with fail
    refine kN.mono ?_
    rintro e w3 ⟨rfl, b3⟩
    have B3 := B2.trans (b3.mono B2.size)
    clear kN
    go_wp2
    go_ret
    exact ⟨rfl, B3⟩
  · have hand : (okV a && okV b) = false := by
      cases h5 : okV a
      · rfl
      · cases h6 : okV b
        · rfl
        · exact absurd ⟨h5, h6⟩ hok
    have hrv : rv = false := by rw [← HV.out, HD.out, hand]; rfl
    subst hrv
    simp only [hand]
    clear h1 hok hand HD HV kM
    go_wp2
    go_ret
    exact ⟨rfl, B2⟩

set_option maxRecDepth 20000 in
set_option maxHeartbeats 3200000 in
theorem iIvIn (va vb : Value) (a b : Vh) (w : World) (ha : rowV w va a) (hb : rowV w vb b) (hl0 : a.1.2.length ≤ 1048576) (hl1 : a.2.2.length ≤ 1048576) (hl2 : b.1.2.length ≤ 1048576) (hl3 : b.2.2.length ≤ 1048576) :
    Calls Try.prog 11 #[va, vb] w fun e w' => e = .returned (.bool (ivInR a b)) ∧ Below w.heap.size w w' := by
  have kT := fun W (h : Below w.heap.size w W) => twoSpans_c va vb a b W (ha.below h (Nat.le_refl _)) (hb.below h (Nat.le_refl _)) hl0 hl1 hl2 hl3
  have kM := fun p q p' q' W h1 h2 h3 h4 => hWithin p q p' q' (valW a.1) (valW a.2) (valW b.1) (valW b.2) W h1 h2 h3 h4
  obtain ⟨rv, hrv⟩ : ∃ r, ivInR a b = r := ⟨_, rfl⟩
  rw [hrv]
  have HV : Hid (ivInR a b = rv) := hrv
  have HD : Hid (ivInR a b = (okV a && okV b && (decide (valW b.1 ≤ valW a.1) && decide (valW a.2 ≤ valW b.2)))) := rfl
  clear hrv
  obtain ⟨s, t, rfl, hs, ht⟩ := ha
  obtain ⟨u, v, rfl, hu, hv⟩ := hb
  obtain ⟨ad, cap, rfl, -⟩ := id hs
  obtain ⟨ae, cbp, rfl, -⟩ := id ht
  obtain ⟨bd, cap2, rfl, -⟩ := id hu
  obtain ⟨be, cbp2, rfl, -⟩ := id hv
  clear hs ht hu hv
  have B0 := below2 w (.cells #[.bool a.1.1, .slice ad a.1.2.length cap, .bool a.2.1, .slice ae a.2.2.length cbp] 28) (.cells #[.bool b.1.1, .slice bd b.1.2.length cap2, .bool b.2.1, .slice be b.2.2.length cbp2] 28)
  go_enter Try.func11, Try.ntmps11
  go_wp2_with fail
  refine (kT _ B0).mono ?_
  generalize (w.alloc (.cells #[.bool a.1.1, .slice ad a.1.2.length cap, .bool a.2.1, .slice ae a.2.2.length cbp] 28)).alloc (.cells #[.bool b.1.1, .slice bd b.1.2.length cap2, .bool b.2.1, .slice be b.2.2.length cbp2] 28) = w0 at *
  rintro e w1 ⟨X, Y, X', Y', rfl, b1, h1⟩
  have B1 := B0.trans (b1.mono B0.size)
  have bF := below2 w1 (.cells #[.pointer X, .pointer Y] 54) (.cells #[.pointer X', .pointer Y'] 54)
  have B2 := B1.trans (bF.mono B1.size)
  have s1 : (w1.alloc (.cells #[.pointer X, .pointer Y] 54)).heap.size = w1.heap.size + 1 := by simp
  have E1 := (BoxW.made w1 (.pointer X) (.pointer Y) 54).below (below1 _ (.cells #[.pointer X', .pointer Y'] 54)) (Nat.le_refl _)
  have G1 := BoxW.made (w1.alloc (.cells #[.pointer X, .pointer Y] 54)) (.pointer X') (.pointer Y') 54
  rw [s1] at G1
  clear s1 kT
  by_cases hok : okV a = true ∧ okV b = true
  · obtain ⟨p, q, p', q', rfl, rfl, rfl, rfl, s1, s2, s3, s4, -⟩ := h1 hok.1 hok.2
    have hand : (okV a && okV b) = true := by rw [hok.1, hok.2]; rfl
    have kN := kM p q p' q' _ (s1.below bF s1.lt) (s2.below bF s2.lt) (s3.below bF s3.lt) (s4.below bF s4.lt)
    have hdd := HD.out
    rw [hand, Bool.true_and] at hdd
    rw [← hdd, HV.out] at kN
    simp only [hand]
    clear h1 hok hand HD HV kM s1 s2 s3 s4 hdd
    go_wp2_with fail
    refine kN.mono ?_
    rintro e w3 ⟨rfl, b3⟩
    have B3 := B2.trans (b3.mono B2.size)
    clear kN
    go_wp2
    go_ret
    exact ⟨rfl, B3⟩
  · have hand : (okV a && okV b) = false := by
      cases h5 : okV a
      · rfl
      · cases h6 : okV b
        · rfl
        · exact absurd ⟨h5, h6⟩ hok
    have hrv : rv = false := by rw [← HV.out, HD.out, hand]; rfl
    subst hrv
    simp only [hand]
    clear h1 hok hand HD HV kM
    go_wp2
    go_ret
    exact ⟨rfl, B2⟩


end Go.Proofs.Ytddakeohamefiaa
