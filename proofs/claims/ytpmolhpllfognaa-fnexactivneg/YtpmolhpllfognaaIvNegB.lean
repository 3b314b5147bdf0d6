/- IvNeg of the specification and of the program, each by its contract. -/
import Derived.Test.YtpmolhpllfognaaIvSubB
import Derived.Test.YtpmolhpllfognaaCutV
namespace Go.Proofs.Ytpmolhpllfognaa
open Go.RowKit
set_option linter.unusedSimpArgs false

def negVR (a : Vh) : Vh := if okV a = true then (fitV (-valW a.2) (-valW a.1)).1 else ((false, []), (false, []))
theorem negVR_len (a : Vh) : (negVR a).1.2.length ≤ 1048576 ∧ (negVR a).2.2.length ≤ 1048576 := by
  unfold negVR
  split
  · exact fitV_len _ _
  · simp
theorem fitV_small (x y : Int) (hx : (limbs x.natAbs).length ≤ 48) (hy : (limbs y.natAbs).length ≤ 48) : (fitV x y).1 = (mkW x, mkW y) := by
  have h1 : fitW x = (mkW x, true) := by unfold fitW; rw [if_pos hx]
  have h2 : fitW y = (mkW y, true) := by unfold fitW; rw [if_pos hy]
  unfold fitV
  rw [h1, h2]
  rfl

def CutMN (A : Nat → Nat → Option Addr → Nat → Option Addr → Nat → Nat → Act) (r : Vh) (base : Nat) (W : World) (a' : Act) (w' : World) : Prop :=
  ∃ (c d : Nat) (ad : Option Addr) (cp : Nat) (ae : Option Addr) (cq bx : Nat), a' = A c d ad cp ae cq bx ∧ ownsV w' base (.agg #[.bool r.1.1, .slice ad r.1.2.length cp, .bool r.2.1, .slice ae r.2.2.length cq]) r ∧ BoxV w' base bx (.bool r.1.1) (.slice ad r.1.2.length cp) (.bool r.2.1) (.slice ae r.2.2.length cq) ∧ Apart (blkV (.agg #[.bool r.1.1, .slice ad r.1.2.length cp, .bool r.2.1, .slice ae r.2.2.length cq])) [bx] ∧ Below base W w'
theorem cutMN_in {A : Nat → Nat → Option Addr → Nat → Option Addr → Nat → Nat → Act} {r : Vh} {base : Nat} {W : World} {a' : Act} {w' : World} (c d : Nat) (ad : Option Addr) (cp : Nat) (ae : Option Addr) (cq bx : Nat) (ha : a' = A c d ad cp ae cq bx)
    (h : ownsV w' base (.agg #[.bool r.1.1, .slice ad r.1.2.length cp, .bool r.2.1, .slice ae r.2.2.length cq]) r ∧ BoxV w' base bx (.bool r.1.1) (.slice ad r.1.2.length cp) (.bool r.2.1) (.slice ae r.2.2.length cq) ∧ Apart (blkV (.agg #[.bool r.1.1, .slice ad r.1.2.length cp, .bool r.2.1, .slice ae r.2.2.length cq])) [bx] ∧ Below base W w') : atEnd (CutMN A r base W) .normal a' w' :=
  ⟨c, d, ad, cp, ae, cq, bx, ha, h⟩
theorem wp_cutN {P : Program} {c : Code} {Q : Exit → Act → World → Prop} {a : Act} {w : World} (A : Nat → Nat → Option Addr → Nat → Option Addr → Nat → Nat → Act) (r : Vh) (base : Nat) (W : World) (hA : c.wp P (atEnd (CutMN A r base W)) a w)
    (hB : ∀ c d ad cp ae cq bx w', ownsV w' base (.agg #[.bool r.1.1, .slice ad r.1.2.length cp, .bool r.2.1, .slice ae r.2.2.length cq]) r → BoxV w' base bx (.bool r.1.1) (.slice ad r.1.2.length cp) (.bool r.2.1) (.slice ae r.2.2.length cq) → Apart (blkV (.agg #[.bool r.1.1, .slice ad r.1.2.length cp, .bool r.2.1, .slice ae r.2.2.length cq])) [bx] → Below base W w' → Q .normal (A c d ad cp ae cq bx) w') : c.wp P Q a w :=
  wp_mono hA (atEnd_out fun a' w' ⟨c, d, ad, cp, ae, cq, bx, ha, h1, h2, h3, h4⟩ => by subst ha; exact hB c d ad cp ae cq bx w' h1 h2 h3 h4)

set_option maxRecDepth 20000 in
set_option maxHeartbeats 6400000 in
theorem sIvNeg (va : Value) (a : Vh) (w : World) (ha : rowV w va a) (hl0 : a.1.2.length ≤ 1048576) (hl1 : a.2.2.length ≤ 1048576) :
    Calls Try.prog 29 #[va] w fun e w' => ∃ v, e = .returned v ∧ ownsV w' w.heap.size v (negVR a) ∧ Below w.heap.size w w' := by
  have kA := fun W (h : Below w.heap.size w W) => sIvOk va a W (ha.below h (Nat.le_refl _)) hl0 hl1
  obtain ⟨ov, hov⟩ : ∃ o, okV a = o := ⟨_, rfl⟩
  rw [hov] at kA
  cases ov
  · have HR : Hid (negVR a = ((false, []), (false, []))) := by show _ = _; unfold negVR; rw [if_neg (by rw [hov]; simp)]
    obtain ⟨rr, hr⟩ : ∃ r, negVR a = r := ⟨_, rfl⟩
    rw [hr] at HR
    rw [hr]
    clear hr
    clear hov hl0 hl1
    obtain ⟨s, t, rfl, hs, ht⟩ := ha
    obtain ⟨ad, cap, rfl, -⟩ := id hs
    obtain ⟨ae, cbp, rfl, -⟩ := id ht
    obtain ⟨g, hg⟩ : ∃ g, a.1.1 = g := ⟨_, rfl⟩
    obtain ⟨g', hg'⟩ : ∃ g, a.2.1 = g := ⟨_, rfl⟩
    obtain ⟨len, hlen⟩ : ∃ l, a.1.2.length = l := ⟨_, rfl⟩
    obtain ⟨len2, hlen2⟩ : ∃ l, a.2.2.length = l := ⟨_, rfl⟩
    rw [hg, hg', hlen, hlen2] at kA
    rw [hg, hg', hlen, hlen2]
    clear hs ht hg hg' hlen hlen2
    have s1 : (w.alloc (.cells #[.bool g, .slice ad len cap, .bool g', .slice ae len2 cbp] 31)).heap.size = w.heap.size + 1 := by simp
    have X0 := (BoxV.made w (.bool g) (.slice ad len cap) (.bool g') (.slice ae len2 cbp) 31).below (below1 _ (.cells #[.bool false, .slice none 0 0, .bool false, .slice none 0 0] 31)) (Nat.le_refl _)
    have R0 := BoxV.made (w.alloc (.cells #[.bool g, .slice ad len cap, .bool g', .slice ae len2 cbp] 31)) (.bool false) (.slice none 0 0) (.bool false) (.slice none 0 0) 31
    rw [s1] at R0
    have B0 := below2 w (.cells #[.bool g, .slice ad len cap, .bool g', .slice ae len2 cbp] 31) (.cells #[.bool false, .slice none 0 0, .bool false, .slice none 0 0] 31)
    clear s1
    go_enter Try.func29, Try.ntmps29
    go_wp2_with fail
    refine (kA _ B0).mono ?_
    generalize (w.alloc (.cells #[.bool g, .slice ad len cap, .bool g', .slice ae len2 cbp] 31)).alloc (.cells #[.bool false, .slice none 0 0, .bool false, .slice none 0 0] 31) = w0 at *
    rintro e w1 ⟨rfl, b1⟩
    have X1 := X0.below b1 (Nat.le_refl _)
    have R1 := R0.below b1 (Nat.le_refl _)
    have B1 := B0.trans (b1.mono B0.size)
    have r0 := R1.c0
    have f0 := R1.f0
    have r1 := R1.c1
    have f1 := R1.f1
    have r2 := R1.c2
    have f2 := R1.f2
    have r3 := R1.c3
    have f3 := R1.f3
    have HB : Hid (Below w.heap.size w _) := ((((B1.setCell (p := ⟨w.heap.size + 1, 0, none⟩) (by show w.heap.size ≤ w.heap.size + 1; omega) (.bool false)).setCell (p := ⟨w.heap.size + 1, 1, none⟩) (by show w.heap.size ≤ w.heap.size + 1; omega) (.slice none 0 0)).setCell (p := ⟨w.heap.size + 1, 2, none⟩) (by show w.heap.size ≤ w.heap.size + 1; omega) (.bool false)).setCell (p := ⟨w.heap.size + 1, 3, none⟩) (by show w.heap.size ≤ w.heap.size + 1; omega) (.slice none 0 0))
    clear kA R0 R1 B0 B1 b1 X0 X1
    go_wp2
    (try simp only [Exit.inBlock, Exit.then])
    refine bodyPost_ret (v := .agg #[.bool false, .slice none 0 0, .bool false, .slice none 0 0]) ?_ rfl ⟨_, rfl, by rw [HR.out]; exact nilV _ _, HB.out⟩
    rw [results_cell1 rfl]
    go_simp
  · have z := okV_yes hov
    have l1' := okW_lenV z.1
    have l2' := okW_lenV z.2.1
    have HR : Hid (negVR a = (mkW (-valW a.2), mkW (-valW a.1))) := by show _ = _; unfold negVR; rw [if_pos hov, fitV_small _ _ (by rw [Int.natAbs_neg]; exact l2') (by rw [Int.natAbs_neg]; exact l1')]
    have kG := fun W (h : Below w.heap.size w W) => sVNeg va a (valW a.1) (valW a.2) W (ha.below h (Nat.le_refl _)) (mkW_of z.1) (mkW_of z.2.1) l1' l2'
    obtain ⟨rr, hr⟩ : ∃ r, negVR a = r := ⟨_, rfl⟩
    rw [hr] at HR
    rw [hr]
    clear hr
    clear hov hl0 hl1 z l1' l2'
    generalize (mkW (-valW a.2), mkW (-valW a.1)) = fm at *
    obtain ⟨s, t, rfl, hs, ht⟩ := ha
    obtain ⟨ad, cap, rfl, -⟩ := id hs
    obtain ⟨ae, cbp, rfl, -⟩ := id ht
    obtain ⟨g, hg⟩ : ∃ g, a.1.1 = g := ⟨_, rfl⟩
    obtain ⟨g', hg'⟩ : ∃ g, a.2.1 = g := ⟨_, rfl⟩
    obtain ⟨len, hlen⟩ : ∃ l, a.1.2.length = l := ⟨_, rfl⟩
    obtain ⟨len2, hlen2⟩ : ∃ l, a.2.2.length = l := ⟨_, rfl⟩
    rw [hg, hg', hlen, hlen2] at kA kG
    rw [hg, hg', hlen, hlen2]
    clear hs ht hg hg' hlen hlen2
    have s1 : (w.alloc (.cells #[.bool g, .slice ad len cap, .bool g', .slice ae len2 cbp] 31)).heap.size = w.heap.size + 1 := by simp
    have X0 := (BoxV.made w (.bool g) (.slice ad len cap) (.bool g') (.slice ae len2 cbp) 31).below (below1 _ (.cells #[.bool false, .slice none 0 0, .bool false, .slice none 0 0] 31)) (Nat.le_refl _)
    have R0 := BoxV.made (w.alloc (.cells #[.bool g, .slice ad len cap, .bool g', .slice ae len2 cbp] 31)) (.bool false) (.slice none 0 0) (.bool false) (.slice none 0 0) 31
    rw [s1] at R0
    have B0 := below2 w (.cells #[.bool g, .slice ad len cap, .bool g', .slice ae len2 cbp] 31) (.cells #[.bool false, .slice none 0 0, .bool false, .slice none 0 0] 31)
    clear s1
    go_enter Try.func29, Try.ntmps29
    go_wp2_with fail
    refine (kA _ B0).mono ?_
    generalize (w.alloc (.cells #[.bool g, .slice ad len cap, .bool g', .slice ae len2 cbp] 31)).alloc (.cells #[.bool false, .slice none 0 0, .bool false, .slice none 0 0] 31) = w0 at *
    rintro e w1 ⟨rfl, b1⟩
    have X1 := X0.below b1 (Nat.le_refl _)
    have R1 := R0.below b1 (Nat.le_refl _)
    have B1 := B0.trans (b1.mono B0.size)
    have x0 := X1.c0
    have x1 := X1.c1
    have x2 := X1.c2
    have x3 := X1.c3
    go_wp2_with fail
    clear x0 x1 x2 x3
    refine (kG _ B1).mono ?_
    rintro e w2 ⟨v2, rfl, o2, b2⟩
    have R2 := R1.below b2 (Nat.le_refl _)
    have B2 := B1.trans (b2.mono B1.size)
    obtain ⟨⟨n1, l1⟩, ⟨n2, l2⟩⟩ := fm
    obtain ⟨s3, s4, rfl, q3, q4, hap⟩ := o2
    obtain ⟨ad3, cp3, rfl, -⟩ := q3.row
    obtain ⟨ad4, cp4, rfl, -⟩ := q4.row
    have q3' : ownsI w2 w1.heap.size (.slice ad3 l1.length cp3) l1 := q3
    have q4' : ownsI w2 w1.heap.size (.slice ad4 l2.length cp4) l2 := q4
    have hR1 := R1.hi
    have hb1 := B1.size
    have r0 := R2.c0
    have f0 := R2.f0
    have r1 := R2.c1
    have f1 := R2.f1
    have r2 := R2.c2
    have f2 := R2.f2
    have r3 := R2.c3
    have f3 := R2.f3
    have HA : Hid (ownsI _ w1.heap.size (.slice ad3 l1.length cp3) l1) := ((((q3'.other (w.heap.size + 1) 0 (by omega) (.bool n1)).other (w.heap.size + 1) 1 (by omega) (.slice ad3 l1.length cp3)).other (w.heap.size + 1) 2 (by omega) (.bool n2)).other (w.heap.size + 1) 3 (by omega) (.slice ad4 l2.length cp4))
    have HZ : Hid (ownsI _ w1.heap.size (.slice ad4 l2.length cp4) l2) := ((((q4'.other (w.heap.size + 1) 0 (by omega) (.bool n1)).other (w.heap.size + 1) 1 (by omega) (.slice ad3 l1.length cp3)).other (w.heap.size + 1) 2 (by omega) (.bool n2)).other (w.heap.size + 1) 3 (by omega) (.slice ad4 l2.length cp4))
    have HB : Hid (Below w.heap.size w _) := ((((B2.setCell (p := ⟨w.heap.size + 1, 0, none⟩) (by show w.heap.size ≤ w.heap.size + 1; omega) (.bool n1)).setCell (p := ⟨w.heap.size + 1, 1, none⟩) (by show w.heap.size ≤ w.heap.size + 1; omega) (.slice ad3 l1.length cp3)).setCell (p := ⟨w.heap.size + 1, 2, none⟩) (by show w.heap.size ≤ w.heap.size + 1; omega) (.bool n2)).setCell (p := ⟨w.heap.size + 1, 3, none⟩) (by show w.heap.size ≤ w.heap.size + 1; omega) (.slice ad4 l2.length cp4))
    have HP : Hid (Apart (blkI (.slice ad3 l1.length cp3)) (blkI (.slice ad4 l2.length cp4))) := hap
    clear q3 q4 q3' q4' hap R0 R1 R2 B0 B1 B2 b1 b2 X0 X1 kA kG
    go_wp2
    (try simp only [Exit.inBlock, Exit.then])
    refine bodyPost_ret (v := .agg #[.bool n1, .slice ad3 l1.length cp3, .bool n2, .slice ad4 l2.length cp4]) ?_ rfl ⟨_, rfl, by rw [HR.out]; exact ⟨_, _, rfl, ownsI_mono HA.out hb1, ownsI_mono HZ.out hb1, HP.out⟩, HB.out⟩
    rw [results_cell1 rfl]
    go_simp

set_option maxRecDepth 20000 in
set_option maxHeartbeats 6400000 in
theorem iIvNeg (va : Value) (a : Vh) (w : World) (ha : rowV w va a) (hl0 : a.1.2.length ≤ 1048576) (hl1 : a.2.2.length ≤ 1048576) :
    Calls Try.prog 30 #[va] w fun e w' => ∃ v, e = .returned v ∧ ownsV w' w.heap.size v (negVR a) ∧ Below w.heap.size w w' := by
  have kA := fun W (h : Below w.heap.size w W) => spanFrom_b va a W (ha.below h (Nat.le_refl _)) hl0 hl1
  obtain ⟨ov, hov⟩ : ∃ o, okV a = o := ⟨_, rfl⟩
  rw [hov] at kA
  cases ov
  · have HR : Hid (negVR a = ((false, []), (false, []))) := by show _ = _; unfold negVR; rw [if_neg (by rw [hov]; simp)]
    obtain ⟨rr, hr⟩ : ∃ r, negVR a = r := ⟨_, rfl⟩
    rw [hr] at HR
    rw [hr]
    clear hr
    clear hov hl0 hl1
    obtain ⟨s, t, rfl, hs, ht⟩ := ha
    obtain ⟨ad, cap, rfl, -⟩ := id hs
    obtain ⟨ae, cbp, rfl, -⟩ := id ht
    obtain ⟨g, hg⟩ : ∃ g, a.1.1 = g := ⟨_, rfl⟩
    obtain ⟨g', hg'⟩ : ∃ g, a.2.1 = g := ⟨_, rfl⟩
    obtain ⟨len, hlen⟩ : ∃ l, a.1.2.length = l := ⟨_, rfl⟩
    obtain ⟨len2, hlen2⟩ : ∃ l, a.2.2.length = l := ⟨_, rfl⟩
    rw [hg, hg', hlen, hlen2] at kA
    rw [hg, hg', hlen, hlen2]
    clear hs ht hg hg' hlen hlen2
    have s1 : (w.alloc (.cells #[.bool g, .slice ad len cap, .bool g', .slice ae len2 cbp] 31)).heap.size = w.heap.size + 1 := by simp
    have X0 := (BoxV.made w (.bool g) (.slice ad len cap) (.bool g') (.slice ae len2 cbp) 31).below (below1 _ (.cells #[.bool false, .slice none 0 0, .bool false, .slice none 0 0] 31)) (Nat.le_refl _)
    have R0 := BoxV.made (w.alloc (.cells #[.bool g, .slice ad len cap, .bool g', .slice ae len2 cbp] 31)) (.bool false) (.slice none 0 0) (.bool false) (.slice none 0 0) 31
    rw [s1] at R0
    have B0 := below2 w (.cells #[.bool g, .slice ad len cap, .bool g', .slice ae len2 cbp] 31) (.cells #[.bool false, .slice none 0 0, .bool false, .slice none 0 0] 31)
    clear s1
    go_enter Try.func30, Try.ntmps30
    go_wp2_with fail
    refine (kA _ B0).mono ?_
    generalize (w.alloc (.cells #[.bool g, .slice ad len cap, .bool g', .slice ae len2 cbp] 31)).alloc (.cells #[.bool false, .slice none 0 0, .bool false, .slice none 0 0] 31) = w0 at *
    rintro e w1' ⟨X, Y, rfl, b1', hXY⟩
    have bF := below1 w1' (.cells #[.pointer X, .pointer Y] 53)
    have E1 := BoxW.made w1' (.pointer X) (.pointer Y) 53
    have b1 := b1'.trans (bF.mono b1'.size)
    have R1 := R0.below b1 (Nat.le_refl _)
    have B1 := B0.trans (b1.mono B0.size)
    have r0 := R1.c0
    have f0 := R1.f0
    have r1 := R1.c1
    have f1 := R1.f1
    have r2 := R1.c2
    have f2 := R1.f2
    have r3 := R1.c3
    have f3 := R1.f3
    have HB : Hid (Below w.heap.size w _) := ((((B1.setCell (p := ⟨w.heap.size + 1, 0, none⟩) (by show w.heap.size ≤ w.heap.size + 1; omega) (.bool false)).setCell (p := ⟨w.heap.size + 1, 1, none⟩) (by show w.heap.size ≤ w.heap.size + 1; omega) (.slice none 0 0)).setCell (p := ⟨w.heap.size + 1, 2, none⟩) (by show w.heap.size ≤ w.heap.size + 1; omega) (.bool false)).setCell (p := ⟨w.heap.size + 1, 3, none⟩) (by show w.heap.size ≤ w.heap.size + 1; omega) (.slice none 0 0))
    clear R0 R1 B0 B1 b1 X0 E1 hXY kA bF
    go_wp2
    (try simp only [Exit.inBlock, Exit.then])
    refine bodyPost_ret (v := .agg #[.bool false, .slice none 0 0, .bool false, .slice none 0 0]) ?_ rfl ⟨_, rfl, by rw [HR.out]; exact nilV _ _, HB.out⟩
    rw [results_cell1 rfl]
    go_simp
  · have HR : Hid (negVR a = (fitV (-valW a.2) (-valW a.1)).1) := by show _ = _; unfold negVR; rw [if_pos hov]
    have kN := fun p z W h => sNegated p z W h
    have kf := fun p q W h1 h2 => ivFrom_c p q (-valW a.2) (-valW a.1) W h1 h2
    obtain ⟨rr, hr⟩ : ∃ r, negVR a = r := ⟨_, rfl⟩
    rw [hr] at HR
    rw [hr]
    clear hr
    clear hov hl0 hl1
    generalize fitV (-valW a.2) (-valW a.1) = fw at *
    generalize valW a.1 = x at *
    generalize valW a.2 = y at *
    obtain ⟨s, t, rfl, hs, ht⟩ := ha
    obtain ⟨ad, cap, rfl, -⟩ := id hs
    obtain ⟨ae, cbp, rfl, -⟩ := id ht
    obtain ⟨g, hg⟩ : ∃ g, a.1.1 = g := ⟨_, rfl⟩
    obtain ⟨g', hg'⟩ : ∃ g, a.2.1 = g := ⟨_, rfl⟩
    obtain ⟨len, hlen⟩ : ∃ l, a.1.2.length = l := ⟨_, rfl⟩
    obtain ⟨len2, hlen2⟩ : ∃ l, a.2.2.length = l := ⟨_, rfl⟩
    rw [hg, hg', hlen, hlen2] at kA
    rw [hg, hg', hlen, hlen2]
    clear hs ht hg hg' hlen hlen2
    have s1 : (w.alloc (.cells #[.bool g, .slice ad len cap, .bool g', .slice ae len2 cbp] 31)).heap.size = w.heap.size + 1 := by simp
    have X0 := (BoxV.made w (.bool g) (.slice ad len cap) (.bool g') (.slice ae len2 cbp) 31).below (below1 _ (.cells #[.bool false, .slice none 0 0, .bool false, .slice none 0 0] 31)) (Nat.le_refl _)
    have R0 := BoxV.made (w.alloc (.cells #[.bool g, .slice ad len cap, .bool g', .slice ae len2 cbp] 31)) (.bool false) (.slice none 0 0) (.bool false) (.slice none 0 0) 31
    rw [s1] at R0
    have B0 := below2 w (.cells #[.bool g, .slice ad len cap, .bool g', .slice ae len2 cbp] 31) (.cells #[.bool false, .slice none 0 0, .bool false, .slice none 0 0] 31)
    clear s1
    go_enter Try.func30, Try.ntmps30
    go_wp2_with fail
    refine (kA _ B0).mono ?_
    generalize (w.alloc (.cells #[.bool g, .slice ad len cap, .bool g', .slice ae len2 cbp] 31)).alloc (.cells #[.bool false, .slice none 0 0, .bool false, .slice none 0 0] 31) = w0 at *
    rintro e w1' ⟨X, Y, rfl, b1', hXY⟩
    have bF := below1 w1' (.cells #[.pointer X, .pointer Y] 53)
    have E1 := BoxW.made w1' (.pointer X) (.pointer Y) 53
    have b1 := b1'.trans (bF.mono b1'.size)
    have R1 := R0.below b1 (Nat.le_refl _)
    have B1 := B0.trans (b1.mono B0.size)
    obtain ⟨p, q, rfl, rfl, sp, sq, -, -⟩ := hXY (by first | exact trivial | rfl)
    have sp1 := sp.below bF sp.lt
    have sq1 := sq.below bF sq.lt
    have hR0 := R0.hi
    have hE1 : w0.heap.size ≤ w1'.heap.size := b1'.size
    obtain ⟨r, ok3⟩ := fw
    clear hXY kA R0 B0 b1 b1' X0 sp sq bF
    go_wp2_with fail
    generalize w1'.alloc (.cells #[.pointer (some ⟨p, 0, none⟩), .pointer (some ⟨q, 0, none⟩)] 53) = w1 at *
    generalize w1'.heap.size = f6 at *
    apply wp_cutN (r := r) (base := w1.heap.size) (W := w1)
    case hA =>
      have C0 : Below w1.heap.size w1 w1.drew := (Below.refl w1.heap.size w1).drew
      have hC0 : w1.heap.size ≤ w1.drew.heap.size := C0.size
      have kE := E1.below C0 (Nat.le_refl _)
      have kE0 := kE.c0
      have kE1 := kE.c1
      have CZ : Below w1.heap.size w1 (w1.alloc (.cells #[.bool false, .slice none 0 0, .bool false, .slice none 0 0] 31)).drew := (below1 w1 (.cells #[.bool false, .slice none 0 0, .bool false, .slice none 0 0] 31)).drew
      have hCZ : w1.heap.size ≤ (w1.alloc (.cells #[.bool false, .slice none 0 0, .bool false, .slice none 0 0] 31)).drew.heap.size := CZ.size
      have obz := (BoxV.made w1 (.bool false) (.slice none 0 0) (.bool false) (.slice none 0 0) 31).below ((Below.refl (w1.alloc (.cells #[.bool false, .slice none 0 0, .bool false, .slice none 0 0] 31)).heap.size (w1.alloc (.cells #[.bool false, .slice none 0 0, .bool false, .slice none 0 0] 31))).drew) (Nat.le_refl _)
      have hbz : w1.heap.size < (w1.alloc (.cells #[.bool false, .slice none 0 0, .bool false, .slice none 0 0] 31)).drew.heap.size := obz.hi
      have kzE := E1.below CZ (Nat.le_refl _)
      have kzE0 := kzE.c0
      have kzE1 := kzE.c1
      have hiE := E1.hi
      have nzE : ¬ (w1.heap.size = f6) := by omega
      have nyE : ¬ (f6 = w1.heap.size) := by omega
      go_region_held (fun w' => w'.cell? ⟨f6, 0, none⟩ = some (.pointer (some ⟨p, 0, none⟩)) ∧ w'.cell? ⟨f6, 1, none⟩ = some (.pointer (some ⟨q, 0, none⟩))) (go_keep) (first
        | (go_at_call_of 57 (Value.pointer (some ⟨q, 0, none⟩))
           (first
             | (refine (kN q _ w1.drew (sq1.below C0 sq1.lt)).mono ?_; rintro e wc1 ⟨c, rfl, hc, sc, bb1⟩; have C1 := C0.trans (bb1.mono hC0); have hC1 := Nat.le_trans hC0 bb1.size)
             | (refine (kN q _ (w1.alloc (.cells #[.bool false, .slice none 0 0, .bool false, .slice none 0 0] 31)).drew (sq1.below CZ sq1.lt)).mono ?_; rintro e wc1 ⟨c, rfl, hc, sc, bb1⟩; have C1 := CZ.trans (bb1.mono hCZ); have hC1 := Nat.le_trans hCZ bb1.size; have obx := obz.below bb1 (Nat.le_refl _); have hbx := Nat.lt_of_lt_of_le hbz bb1.size)
             )
           have kE := E1.below C1 (Nat.le_refl _)
           have kE0 := kE.c0
           have kE1 := kE.c1)
        | (go_at_call_of 57 (Value.pointer (some ⟨p, 0, none⟩))
           (first
             | (have qx := obx; refine (kN p _ wc1 (sp1.below C1 sp1.lt)).mono ?_; rintro e wc2 ⟨d, rfl, hd, sd, bb2⟩; have sc := sc.below bb2 sc.lt; have C2 := C1.trans (bb2.mono hC1); have hC2 := Nat.le_trans hC1 bb2.size; have obx := qx.below bb2 (Nat.le_refl _); clear qx)
             | (refine (kN p _ wc1 (sp1.below C1 sp1.lt)).mono ?_; rintro e wc2 ⟨d, rfl, hd, sd, bb2⟩; have sc := sc.below bb2 sc.lt; have C2 := C1.trans (bb2.mono hC1); have hC2 := Nat.le_trans hC1 bb2.size)
             | (have CA := C1.alloc hC1 (.cells #[.bool false, .slice none 0 0, .bool false, .slice none 0 0] 31); have sc := sc.below (below1 wc1 (.cells #[.bool false, .slice none 0 0, .bool false, .slice none 0 0] 31)) sc.lt; refine (kN p _ (wc1.alloc (.cells #[.bool false, .slice none 0 0, .bool false, .slice none 0 0] 31)) (sp1.below CA sp1.lt)).mono ?_; rintro e wc2 ⟨d, rfl, hd, sd, bb2⟩; have sc := sc.below bb2 sc.lt; have C2 := CA.trans (bb2.mono (Nat.le_trans hC1 (below1 wc1 (.cells #[.bool false, .slice none 0 0, .bool false, .slice none 0 0] 31)).size)); have hC2 := Nat.le_trans (Nat.le_trans hC1 (below1 wc1 (.cells #[.bool false, .slice none 0 0, .bool false, .slice none 0 0] 31)).size) bb2.size; have obx := ((BoxV.made wc1 (.bool false) (.slice none 0 0) (.bool false) (.slice none 0 0) 31).mono hC1).below bb2 (Nat.le_refl _); have hbx : wc1.heap.size < (wc1.alloc (.cells #[.bool false, .slice none 0 0, .bool false, .slice none 0 0] 31)).heap.size := (by simp); have naE : ¬ (wc1.heap.size = f6) := (by omega); have nbE : ¬ (f6 = wc1.heap.size) := (by omega))
             )
           have kE := E1.below C2 (Nat.le_refl _)
           have kE0 := kE.c0
           have kE1 := kE.c1)
        | (go_at_call 47
           (first
             | (have qx := obx; refine (kf c d wc2 sc sd).mono ?_; rintro e wc3 ⟨vF, rfl, oF, bb3⟩; have sc := sc.below bb3 sc.lt; have sd := sd.below bb3 sd.lt; have hBF := hC2; have hXF := qx.hi; have C3 := C2.trans (bb3.mono hC2); have hC3 := Nat.le_trans hC2 bb3.size; have obx := qx.below bb3 (Nat.le_refl _); clear qx)
             | (refine (kf c d wc2 sc sd).mono ?_; rintro e wc3 ⟨vF, rfl, oF, bb3⟩; have sc := sc.below bb3 sc.lt; have sd := sd.below bb3 sd.lt; have hBF := hC2; have C3 := C2.trans (bb3.mono hC2); have hC3 := Nat.le_trans hC2 bb3.size)
             | (have CA := C2.alloc hC2 (.cells #[.bool false, .slice none 0 0, .bool false, .slice none 0 0] 31); have sc := sc.below (below1 wc2 (.cells #[.bool false, .slice none 0 0, .bool false, .slice none 0 0] 31)) sc.lt; have sd := sd.below (below1 wc2 (.cells #[.bool false, .slice none 0 0, .bool false, .slice none 0 0] 31)) sd.lt; refine (kf c d (wc2.alloc (.cells #[.bool false, .slice none 0 0, .bool false, .slice none 0 0] 31)) sc sd).mono ?_; rintro e wc3 ⟨vF, rfl, oF, bb3⟩; have sc := sc.below bb3 sc.lt; have sd := sd.below bb3 sd.lt; have hBF : w1.heap.size ≤ (wc2.alloc (.cells #[.bool false, .slice none 0 0, .bool false, .slice none 0 0] 31)).heap.size := Nat.le_trans hC2 (below1 wc2 (.cells #[.bool false, .slice none 0 0, .bool false, .slice none 0 0] 31)).size; have hXF : wc2.heap.size < (wc2.alloc (.cells #[.bool false, .slice none 0 0, .bool false, .slice none 0 0] 31)).heap.size := (by simp); have C3 := CA.trans (bb3.mono (Nat.le_trans hC2 (below1 wc2 (.cells #[.bool false, .slice none 0 0, .bool false, .slice none 0 0] 31)).size)); have hC3 := Nat.le_trans (Nat.le_trans hC2 (below1 wc2 (.cells #[.bool false, .slice none 0 0, .bool false, .slice none 0 0] 31)).size) bb3.size; have obx := ((BoxV.made wc2 (.bool false) (.slice none 0 0) (.bool false) (.slice none 0 0) 31).mono hC2).below bb3 (Nat.le_refl _); have hbx : wc2.heap.size < (wc2.alloc (.cells #[.bool false, .slice none 0 0, .bool false, .slice none 0 0] 31)).heap.size := (by simp); have naE : ¬ (wc2.heap.size = f6) := (by omega); have nbE : ¬ (f6 = wc2.heap.size) := (by omega))
             )
           have kE := E1.below C3 (Nat.le_refl _)
           have kE0 := kE.c0
           have kE1 := kE.c1
           obtain ⟨sF, tF, rfl, hqF, hpF, -⟩ := id oF
           obtain ⟨ad, cp, rfl, -⟩ := hqF.row
           obtain ⟨ae, cq, rfl, -⟩ := hpF.row
           clear hqF hpF
           have nuE : ¬ (wc3.heap.size = f6) := by omega
           have nvE : ¬ (f6 = wc3.heap.size) := by omega
           (try have ox0 := obx.c0)
           (try have ox1 := obx.c1)
           (try have ox2 := obx.c2)
           (try have ox3 := obx.c3)
           (try have ox4 := obx.f0)
           (try have ox5 := obx.f1)
           (try have ox6 := obx.f2)
           (try have ox7 := obx.f3))
        )
      all_goals first
        | (have hcut := cutV_old obx oF hBF hXF C3 (.bool r.1.1) (.slice ad r.1.2.length cp) (.bool r.2.1) (.slice ae r.2.2.length cq); exact cutMN_in c d ad cp ae cq _ rfl hcut)
        | (have hcut := cutV_new oF hBF hC3 C3 31 (.bool r.1.1) (.slice ad r.1.2.length cp) (.bool r.2.1) (.slice ae r.2.2.length cq); generalize wc3.heap.size = bx at *; exact cutMN_in c d ad cp ae cq bx rfl hcut)
    intro c d ad3 cp3 ad4 cp4 bk w2 o2 ob2 dd b2
    have R2 := R1.below b2 (Nat.le_refl _)
    have B2 := B1.trans (b2.mono B1.size)
    obtain ⟨⟨n1, l1⟩, ⟨n2, l2⟩⟩ := r
    obtain ⟨s3, s4, he, q3, q4, hap⟩ := o2
    simp only [Value.agg.injEq, Array.mk.injEq, List.cons.injEq, Value.bool.injEq, and_true, true_and] at he
    obtain ⟨rfl, rfl⟩ := he
    have q3' : ownsI w2 w1.heap.size (.slice ad3 l1.length cp3) l1 := q3
    have q4' : ownsI w2 w1.heap.size (.slice ad4 l2.length cp4) l2 := q4
    have hR1 := R1.hi
    have hb1 := B1.size
    have t0 := ob2.c0
    have t1 := ob2.c1
    have t2 := ob2.c2
    have t3 := ob2.c3
    have r0 := R2.c0
    have f0 := R2.f0
    have r1 := R2.c1
    have f1 := R2.f1
    have r2 := R2.c2
    have f2 := R2.f2
    have r3 := R2.c3
    have f3 := R2.f3
    have HA : Hid (ownsI _ w1.heap.size (.slice ad3 l1.length cp3) l1) := ((((q3'.other (w.heap.size + 1) 0 (by omega) (.bool n1)).other (w.heap.size + 1) 1 (by omega) (.slice ad3 l1.length cp3)).other (w.heap.size + 1) 2 (by omega) (.bool n2)).other (w.heap.size + 1) 3 (by omega) (.slice ad4 l2.length cp4))
    have HZ : Hid (ownsI _ w1.heap.size (.slice ad4 l2.length cp4) l2) := ((((q4'.other (w.heap.size + 1) 0 (by omega) (.bool n1)).other (w.heap.size + 1) 1 (by omega) (.slice ad3 l1.length cp3)).other (w.heap.size + 1) 2 (by omega) (.bool n2)).other (w.heap.size + 1) 3 (by omega) (.slice ad4 l2.length cp4))
    have HB : Hid (Below w.heap.size w _) := ((((B2.setCell (p := ⟨w.heap.size + 1, 0, none⟩) (by show w.heap.size ≤ w.heap.size + 1; omega) (.bool n1)).setCell (p := ⟨w.heap.size + 1, 1, none⟩) (by show w.heap.size ≤ w.heap.size + 1; omega) (.slice ad3 l1.length cp3)).setCell (p := ⟨w.heap.size + 1, 2, none⟩) (by show w.heap.size ≤ w.heap.size + 1; omega) (.bool n2)).setCell (p := ⟨w.heap.size + 1, 3, none⟩) (by show w.heap.size ≤ w.heap.size + 1; omega) (.slice ad4 l2.length cp4))
    have HP : Hid (Apart (blkI (.slice ad3 l1.length cp3)) (blkI (.slice ad4 l2.length cp4))) := hap
    clear q3 q4 q3' q4' hap R1 R2 B1 B2 b2 E1 kN kf ob2 dd sp1 sq1
    go_wp2
    (try simp only [Exit.inBlock, Exit.then])
    refine bodyPost_ret (v := .agg #[.bool n1, .slice ad3 l1.length cp3, .bool n2, .slice ad4 l2.length cp4]) ?_ rfl ⟨_, rfl, by rw [HR.out]; exact ⟨_, _, rfl, ownsI_mono HA.out hb1, ownsI_mono HZ.out hb1, HP.out⟩, HB.out⟩
    rw [results_cell1 rfl]
    go_simp


end Go.Proofs.Ytpmolhpllfognaa
