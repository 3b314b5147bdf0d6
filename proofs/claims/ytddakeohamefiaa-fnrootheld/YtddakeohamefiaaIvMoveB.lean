/- IvMove of the specification and of the program, each by its contract. -/
import Derived.Test.YtddakeohamefiaaMovedS
import Derived.Test.YtddakeohamefiaaMoveS
import Derived.Test.YtddakeohamefiaaIFrom
namespace Go.Proofs.Ytddakeohamefiaa
open Go.RowKit
set_option linter.unusedSimpArgs false

def moveR (a : Vh) (p q : Int) : Vh × Bool := if okV a = true ∧ (0 ≤ p ∧ p ≤ 480) ∧ 0 ≤ q ∧ q ≤ 480 then fitV (mvLo (valW a.1) (q - p)) (mvHi (valW a.2) (q - p)) else (((false, []), (false, [])), false)
theorem moveR_len (a : Vh) (p q : Int) : (moveR a p q).1.1.2.length ≤ 1048576 ∧ (moveR a p q).1.2.2.length ≤ 1048576 := by
  unfold moveR
  split
  · exact fitV_len _ _
  · simp

theorem placesAt (p : Int) (w : World) : Calls Try.prog 30 #[.int .i64 p] w fun e w' => e = .returned (.bool (decide (0 ≤ p ∧ p ≤ 480))) ∧ w' = w := by
  by_cases h1 : 0 ≤ p
  · by_cases h2 : p ≤ 480
    · rw [decide_eq_true ⟨h1, h2⟩]
      go_enter Try.func30, Try.ntmps30
      go_wp2
      go_ret
      exact ⟨rfl, rfl⟩
    · rw [decide_eq_false (by omega)]
      have h3 : decide (p ≤ 480) = false := decide_eq_false h2
      clear h2
      go_enter Try.func30, Try.ntmps30
      go_wp2
      go_ret
      exact ⟨rfl, rfl⟩
  · rw [decide_eq_false (by omega)]
    have h3 : decide (0 ≤ p) = false := decide_eq_false h1
    clear h1
    go_enter Try.func30, Try.ntmps30
    go_wp2
    go_ret
    exact ⟨rfl, rfl⟩

/-- l10Move, whichever way. -/
theorem sVMove (va : Value) (a : Vh) (d : Int) (w : World) (ha : rowV w va a) (hok : okV a = true) (h1 : -100000 ≤ d) (h2 : d ≤ 100000) :
    Calls Try.prog 35 #[va, .int .i64 d] w fun e w' => ∃ v, e = .returned v ∧ ownsV w' w.heap.size v (mkW (mvLo (valW a.1) d), mkW (mvHi (valW a.2) d)) ∧ Below w.heap.size w w' := by
  have z := okV_yes hok
  have l1 := okW_lenV z.1
  have l2 := okW_lenV z.2.1
  unfold mvLo mvHi
  by_cases h : 0 ≤ d
  · rw [if_pos h, if_pos h]
    obtain ⟨k, rfl⟩ : ∃ k : Nat, d = k := ⟨d.toNat, by omega⟩
    rw [Int.toNat_natCast]
    exact sVMoveUp va a _ _ k w ha (mkW_of z.1) (mkW_of z.2.1) (by omega) (by omega) (by omega)
  · rw [if_neg h, if_neg h]
    obtain ⟨k, rfl⟩ : ∃ k : Nat, d = -(k : Int) := ⟨(-d).toNat, by omega⟩
    rw [show (-(-(k : Int))).toNat = k by omega]
    exact sVMoveDown va a _ _ k w ha (mkW_of z.1) (mkW_of z.2.1) (by omega) (by omega) (by omega) (by omega)

set_option maxRecDepth 20000 in
set_option maxHeartbeats 6400000 in
theorem sIvMove (va : Value) (a : Vh) (p q : Int) (w : World) (ha : rowV w va a) (hl0 : a.1.2.length ≤ 1048576) (hl1 : a.2.2.length ≤ 1048576) :
    Calls Try.prog 9 #[va, .int .i64 p, .int .i64 q] w fun e w' => ∃ v, e = .returned (.tuple #[v, .bool (moveR a p q).2]) ∧ ownsV w' w.heap.size v (moveR a p q).1 ∧ Below w.heap.size w w' := by
  have kA := fun W (h : Below w.heap.size w W) => sIvOk va a W (ha.below h (Nat.le_refl _)) hl0 hl1
  by_cases hok : okV a = true
  case neg =>
    have hf : okV a = false := by simpa using hok
    rw [hf] at kA
    have HR : Hid (moveR a p q = (((false, []), (false, [])), false)) := by show _ = _; unfold moveR; rw [if_neg (fun h => hok h.1)]
    obtain ⟨rr, hr⟩ : ∃ r, moveR a p q = r := ⟨_, rfl⟩
    rw [hr] at HR
    rw [hr]
    clear hr
    clear hok hf hl0 hl1
    obtain ⟨s, t, rfl, hs, ht⟩ := ha
    obtain ⟨ad, cap, rfl, -⟩ := id hs
    obtain ⟨ae, cbp, rfl, -⟩ := id ht
    obtain ⟨g, hg⟩ : ∃ g, a.1.1 = g := ⟨_, rfl⟩
    obtain ⟨g', hg'⟩ : ∃ g, a.2.1 = g := ⟨_, rfl⟩
    obtain ⟨len, hlen⟩ : ∃ l, a.1.2.length = l := ⟨_, rfl⟩
    obtain ⟨len2, hlen2⟩ : ∃ l, a.2.2.length = l := ⟨_, rfl⟩
    rw [hg, hg', hlen, hlen2] at kA
    rw [hg, hg', hlen, hlen2]
    clear hs ht hg hg' hlen hlen2
    have s1 : (w.alloc (.cells #[.bool g, .slice ad len cap, .bool g', .slice ae len2 cbp] 28)).heap.size = w.heap.size + 1 := by simp
    have X0 := (BoxV.made w (.bool g) (.slice ad len cap) (.bool g') (.slice ae len2 cbp) 28).below (below1 _ (.cells #[.bool false, .slice none 0 0, .bool false, .slice none 0 0] 28)) (Nat.le_refl _)
    have R0 := BoxV.made (w.alloc (.cells #[.bool g, .slice ad len cap, .bool g', .slice ae len2 cbp] 28)) (.bool false) (.slice none 0 0) (.bool false) (.slice none 0 0) 28
    rw [s1] at R0
    have B0 := below2 w (.cells #[.bool g, .slice ad len cap, .bool g', .slice ae len2 cbp] 28) (.cells #[.bool false, .slice none 0 0, .bool false, .slice none 0 0] 28)
    clear s1
    go_enter Try.func9, Try.ntmps9
    go_wp2_with fail
    refine (kA _ B0).mono ?_
    generalize (w.alloc (.cells #[.bool g, .slice ad len cap, .bool g', .slice ae len2 cbp] 28)).alloc (.cells #[.bool false, .slice none 0 0, .bool false, .slice none 0 0] 28) = w0 at *
    rintro e w1 ⟨rfl, b1⟩
    have R1 := R0.below b1 (Nat.le_refl _)
    have B1 := B0.trans (b1.mono B0.size)
    have r0 := R1.c0
    have f0 := R1.f0
    have r1 := R1.c1
    have f1 := R1.f1
    have r2 := R1.c2
    have f2 := R1.f2
    have r3 := R1.c3
    have f3 := R1.f3
    have HB : Hid (Below w.heap.size w _) := ((((B1.setCell (p := ⟨w.heap.size + 1, 0, none⟩) (by show w.heap.size ≤ w.heap.size + 1; omega) (.bool false)).setCell (p := ⟨w.heap.size + 1, 1, none⟩) (by show w.heap.size ≤ w.heap.size + 1; omega) (.slice none 0 0)).setCell (p := ⟨w.heap.size + 1, 2, none⟩) (by show w.heap.size ≤ w.heap.size + 1; omega) (.bool false)).setCell (p := ⟨w.heap.size + 1, 3, none⟩) (by show w.heap.size ≤ w.heap.size + 1; omega) (.slice none 0 0))
    clear R0 R1 B0 B1 b1 kA X0
    go_wp2
    (try simp only [Exit.inBlock, Exit.then])
    refine bodyPost_ret (v := .tuple #[.agg #[.bool false, .slice none 0 0, .bool false, .slice none 0 0], .bool false]) ?_ rfl ⟨_, by rw [HR.out], by rw [HR.out]; exact nilV _ _, HB.out⟩
    rw [results_cell_tmp rfl]
    go_simp
  have hA := hok
  rw [hok] at kA
  by_cases hp : 0 ≤ p ∧ p ≤ 480
  case neg =>
    have kI := fun W => in_no p 0 480 W hp
    have HR : Hid (moveR a p q = (((false, []), (false, [])), false)) := by show _ = _; unfold moveR; rw [if_neg (fun h => hp h.2.1)]
    obtain ⟨rr, hr⟩ : ∃ r, moveR a p q = r := ⟨_, rfl⟩
    rw [hr] at HR
    rw [hr]
    clear hr
    clear hok hA hp hl0 hl1
    obtain ⟨s, t, rfl, hs, ht⟩ := ha
    obtain ⟨ad, cap, rfl, -⟩ := id hs
    obtain ⟨ae, cbp, rfl, -⟩ := id ht
    obtain ⟨g, hg⟩ : ∃ g, a.1.1 = g := ⟨_, rfl⟩
    obtain ⟨g', hg'⟩ : ∃ g, a.2.1 = g := ⟨_, rfl⟩
    obtain ⟨len, hlen⟩ : ∃ l, a.1.2.length = l := ⟨_, rfl⟩
    obtain ⟨len2, hlen2⟩ : ∃ l, a.2.2.length = l := ⟨_, rfl⟩
    rw [hg, hg', hlen, hlen2] at kA
    rw [hg, hg', hlen, hlen2]
    clear hs ht hg hg' hlen hlen2
    have s1 : (w.alloc (.cells #[.bool g, .slice ad len cap, .bool g', .slice ae len2 cbp] 28)).heap.size = w.heap.size + 1 := by simp
    have X0 := (BoxV.made w (.bool g) (.slice ad len cap) (.bool g') (.slice ae len2 cbp) 28).below (below1 _ (.cells #[.bool false, .slice none 0 0, .bool false, .slice none 0 0] 28)) (Nat.le_refl _)
    have R0 := BoxV.made (w.alloc (.cells #[.bool g, .slice ad len cap, .bool g', .slice ae len2 cbp] 28)) (.bool false) (.slice none 0 0) (.bool false) (.slice none 0 0) 28
    rw [s1] at R0
    have B0 := below2 w (.cells #[.bool g, .slice ad len cap, .bool g', .slice ae len2 cbp] 28) (.cells #[.bool false, .slice none 0 0, .bool false, .slice none 0 0] 28)
    clear s1
    go_enter Try.func9, Try.ntmps9
    go_wp2_with fail
    refine (kA _ B0).mono ?_
    generalize (w.alloc (.cells #[.bool g, .slice ad len cap, .bool g', .slice ae len2 cbp] 28)).alloc (.cells #[.bool false, .slice none 0 0, .bool false, .slice none 0 0] 28) = w0 at *
    rintro e w1 ⟨rfl, b1⟩
    have R1 := R0.below b1 (Nat.le_refl _)
    have B1 := B0.trans (b1.mono B0.size)
    have r0 := R1.c0
    have f0 := R1.f0
    have r1 := R1.c1
    have f1 := R1.f1
    have r2 := R1.c2
    have f2 := R1.f2
    have r3 := R1.c3
    have f3 := R1.f3
    have HB : Hid (Below w.heap.size w _) := ((((B1.setCell (p := ⟨w.heap.size + 1, 0, none⟩) (by show w.heap.size ≤ w.heap.size + 1; omega) (.bool false)).setCell (p := ⟨w.heap.size + 1, 1, none⟩) (by show w.heap.size ≤ w.heap.size + 1; omega) (.slice none 0 0)).setCell (p := ⟨w.heap.size + 1, 2, none⟩) (by show w.heap.size ≤ w.heap.size + 1; omega) (.bool false)).setCell (p := ⟨w.heap.size + 1, 3, none⟩) (by show w.heap.size ≤ w.heap.size + 1; omega) (.slice none 0 0))
    clear R0 R1 B0 B1 b1 kA X0
    go_wp2_with fail
    refine (kI _).mono ?_
    rintro e w2 ⟨rfl, rfl⟩
    go_wp2
    (try simp only [Exit.inBlock, Exit.then])
    refine bodyPost_ret (v := .tuple #[.agg #[.bool false, .slice none 0 0, .bool false, .slice none 0 0], .bool false]) ?_ rfl ⟨_, by rw [HR.out], by rw [HR.out]; exact nilV _ _, HB.out⟩
    rw [results_cell_tmp rfl]
    go_simp
  have kI := fun W => in_yes p 0 480 W hp.1 hp.2
  by_cases hq : 0 ≤ q ∧ q ≤ 480
  case neg =>
    have kJ := fun W => in_no q 0 480 W hq
    have HR : Hid (moveR a p q = (((false, []), (false, [])), false)) := by show _ = _; unfold moveR; rw [if_neg (fun h => hq h.2.2)]
    obtain ⟨rr, hr⟩ : ∃ r, moveR a p q = r := ⟨_, rfl⟩
    rw [hr] at HR
    rw [hr]
    clear hr
    clear hok hA hp hq hl0 hl1
    obtain ⟨s, t, rfl, hs, ht⟩ := ha
    obtain ⟨ad, cap, rfl, -⟩ := id hs
    obtain ⟨ae, cbp, rfl, -⟩ := id ht
    obtain ⟨g, hg⟩ : ∃ g, a.1.1 = g := ⟨_, rfl⟩
    obtain ⟨g', hg'⟩ : ∃ g, a.2.1 = g := ⟨_, rfl⟩
    obtain ⟨len, hlen⟩ : ∃ l, a.1.2.length = l := ⟨_, rfl⟩
    obtain ⟨len2, hlen2⟩ : ∃ l, a.2.2.length = l := ⟨_, rfl⟩
    rw [hg, hg', hlen, hlen2] at kA
    rw [hg, hg', hlen, hlen2]
    clear hs ht hg hg' hlen hlen2
    have s1 : (w.alloc (.cells #[.bool g, .slice ad len cap, .bool g', .slice ae len2 cbp] 28)).heap.size = w.heap.size + 1 := by simp
    have X0 := (BoxV.made w (.bool g) (.slice ad len cap) (.bool g') (.slice ae len2 cbp) 28).below (below1 _ (.cells #[.bool false, .slice none 0 0, .bool false, .slice none 0 0] 28)) (Nat.le_refl _)
    have R0 := BoxV.made (w.alloc (.cells #[.bool g, .slice ad len cap, .bool g', .slice ae len2 cbp] 28)) (.bool false) (.slice none 0 0) (.bool false) (.slice none 0 0) 28
    rw [s1] at R0
    have B0 := below2 w (.cells #[.bool g, .slice ad len cap, .bool g', .slice ae len2 cbp] 28) (.cells #[.bool false, .slice none 0 0, .bool false, .slice none 0 0] 28)
    clear s1
    go_enter Try.func9, Try.ntmps9
    go_wp2_with fail
    refine (kA _ B0).mono ?_
    generalize (w.alloc (.cells #[.bool g, .slice ad len cap, .bool g', .slice ae len2 cbp] 28)).alloc (.cells #[.bool false, .slice none 0 0, .bool false, .slice none 0 0] 28) = w0 at *
    rintro e w1 ⟨rfl, b1⟩
    have R1 := R0.below b1 (Nat.le_refl _)
    have B1 := B0.trans (b1.mono B0.size)
    have r0 := R1.c0
    have f0 := R1.f0
    have r1 := R1.c1
    have f1 := R1.f1
    have r2 := R1.c2
    have f2 := R1.f2
    have r3 := R1.c3
    have f3 := R1.f3
    have HB : Hid (Below w.heap.size w _) := ((((B1.setCell (p := ⟨w.heap.size + 1, 0, none⟩) (by show w.heap.size ≤ w.heap.size + 1; omega) (.bool false)).setCell (p := ⟨w.heap.size + 1, 1, none⟩) (by show w.heap.size ≤ w.heap.size + 1; omega) (.slice none 0 0)).setCell (p := ⟨w.heap.size + 1, 2, none⟩) (by show w.heap.size ≤ w.heap.size + 1; omega) (.bool false)).setCell (p := ⟨w.heap.size + 1, 3, none⟩) (by show w.heap.size ≤ w.heap.size + 1; omega) (.slice none 0 0))
    clear R0 R1 B0 B1 b1 kA X0
    go_wp2_with fail
    refine (kI _).mono ?_
    rintro e w2 ⟨rfl, rfl⟩
    go_wp2_with fail
    refine (kJ _).mono ?_
    rintro e w2 ⟨rfl, rfl⟩
    go_wp2
    (try simp only [Exit.inBlock, Exit.then])
    refine bodyPost_ret (v := .tuple #[.agg #[.bool false, .slice none 0 0, .bool false, .slice none 0 0], .bool false]) ?_ rfl ⟨_, by rw [HR.out], by rw [HR.out]; exact nilV _ _, HB.out⟩
    rw [results_cell_tmp rfl]
    go_simp
  have kJ := fun W => in_yes q 0 480 W hq.1 hq.2
  have kG := fun W (h : Below w.heap.size w W) => sVMove va a (q - p) W (ha.below h (Nat.le_refl _)) hok (by omega) (by omega)
  have kf := fun va base W h => sVFits va (mvLo (valW a.1) (q - p)) (mvHi (valW a.2) (q - p)) base W h
  have HR : Hid (moveR a p q = fitV (mvLo (valW a.1) (q - p)) (mvHi (valW a.2) (q - p))) := by show _ = _; unfold moveR; rw [if_pos ⟨hok, hp, hq⟩]
  have hsub : IntKind.i64.wrap (q - p) = q - p := by rw [IntKind.wrap_i64]; omega
  obtain ⟨rr, hr⟩ : ∃ r, moveR a p q = r := ⟨_, rfl⟩
  rw [hr] at HR
  rw [hr]
  clear hr
  clear hok hA hp hq hl0 hl1
  generalize fitV (mvLo (valW a.1) (q - p)) (mvHi (valW a.2) (q - p)) = fw at *
  generalize mvLo (valW a.1) (q - p) = d1 at *
  generalize mvHi (valW a.2) (q - p) = d2 at *
  obtain ⟨s, t, rfl, hs, ht⟩ := ha
  obtain ⟨ad, cap, rfl, -⟩ := id hs
  obtain ⟨ae, cbp, rfl, -⟩ := id ht
  obtain ⟨g, hg⟩ : ∃ g, a.1.1 = g := ⟨_, rfl⟩
  obtain ⟨g', hg'⟩ : ∃ g, a.2.1 = g := ⟨_, rfl⟩
  obtain ⟨len, hlen⟩ : ∃ l, a.1.2.length = l := ⟨_, rfl⟩
  obtain ⟨len2, hlen2⟩ : ∃ l, a.2.2.length = l := ⟨_, rfl⟩
  rw [hg, hg', hlen, hlen2] at kA kG
  rw [hg, hg', hlen, hlen2]
  clear hs ht hg hg' hlen hlen2
  have s1 : (w.alloc (.cells #[.bool g, .slice ad len cap, .bool g', .slice ae len2 cbp] 28)).heap.size = w.heap.size + 1 := by simp
  have X0 := (BoxV.made w (.bool g) (.slice ad len cap) (.bool g') (.slice ae len2 cbp) 28).below (below1 _ (.cells #[.bool false, .slice none 0 0, .bool false, .slice none 0 0] 28)) (Nat.le_refl _)
  have R0 := BoxV.made (w.alloc (.cells #[.bool g, .slice ad len cap, .bool g', .slice ae len2 cbp] 28)) (.bool false) (.slice none 0 0) (.bool false) (.slice none 0 0) 28
  rw [s1] at R0
  have B0 := below2 w (.cells #[.bool g, .slice ad len cap, .bool g', .slice ae len2 cbp] 28) (.cells #[.bool false, .slice none 0 0, .bool false, .slice none 0 0] 28)
  clear s1
  go_enter Try.func9, Try.ntmps9
  go_wp2_with fail
  refine (kA _ B0).mono ?_
  generalize (w.alloc (.cells #[.bool g, .slice ad len cap, .bool g', .slice ae len2 cbp] 28)).alloc (.cells #[.bool false, .slice none 0 0, .bool false, .slice none 0 0] 28) = w0 at *
  rintro e w1 ⟨rfl, b1⟩
  have X1 := X0.below b1 (Nat.le_refl _)
  have R1 := R0.below b1 (Nat.le_refl _)
  have B1 := B0.trans (b1.mono B0.size)
  have x0 := X1.c0
  have x1 := X1.c1
  have x2 := X1.c2
  have x3 := X1.c3
  clear kA X0 R0 B0 b1
  go_wp2_with fail
  refine (kI _).mono ?_
  rintro e w1 ⟨rfl, rfl⟩
  go_wp2_with fail
  refine (kJ _).mono ?_
  rintro e w1 ⟨rfl, rfl⟩
  go_wp2_with fail
  refine (kG _ B1).mono ?_
  rintro e w6 ⟨v6, rfl, o6, b6⟩
  have B6 := B1.trans (b6.mono B1.size)
  have R6 := R1.below b6 (Nat.le_refl _)
  have hR1 := R1.hi
  clear x0 x1 x2 x3 X1
  go_wp2_with fail
  refine (kf _ _ _ o6).mono ?_
  rintro e w7 ⟨v7, rfl, o7, b7⟩
  have B7 := B6.trans (b7.mono B6.size)
  have R7 := R6.below b7 (Nat.le_refl _)
  obtain ⟨⟨⟨n1, l1⟩, ⟨n2, l2⟩⟩, ok3⟩ := fw
  obtain ⟨s3, s4, rfl, q3, q4, hap⟩ := o7
  obtain ⟨ad3, cp3, rfl, -⟩ := q3.row
  obtain ⟨ad4, cp4, rfl, -⟩ := q4.row
  have q3' : ownsI w7 (min w1.heap.size w6.heap.size) (.slice ad3 l1.length cp3) l1 := q3
  have q4' : ownsI w7 (min w1.heap.size w6.heap.size) (.slice ad4 l2.length cp4) l2 := q4
  have hR := R6.hi
  have r0 := R7.c0
  have f0 := R7.f0
  have r1 := R7.c1
  have f1 := R7.f1
  have r2 := R7.c2
  have f2 := R7.f2
  have r3 := R7.c3
  have f3 := R7.f3
  have hbase : w.heap.size + 1 < (min w1.heap.size w6.heap.size) ∧ w.heap.size ≤ (min w1.heap.size w6.heap.size) := by have := R6.hi; have := B6.size; have := B1.size; omega
  have HA : Hid (ownsI _ ((min w1.heap.size w6.heap.size)) (.slice ad3 l1.length cp3) l1) := ((((q3'.other (w.heap.size + 1) 0 (by omega) (.bool n1)).other (w.heap.size + 1) 1 (by omega) (.slice ad3 l1.length cp3)).other (w.heap.size + 1) 2 (by omega) (.bool n2)).other (w.heap.size + 1) 3 (by omega) (.slice ad4 l2.length cp4))
  have HZ : Hid (ownsI _ ((min w1.heap.size w6.heap.size)) (.slice ad4 l2.length cp4) l2) := ((((q4'.other (w.heap.size + 1) 0 (by omega) (.bool n1)).other (w.heap.size + 1) 1 (by omega) (.slice ad3 l1.length cp3)).other (w.heap.size + 1) 2 (by omega) (.bool n2)).other (w.heap.size + 1) 3 (by omega) (.slice ad4 l2.length cp4))
  have HB : Hid (Below w.heap.size w _) := ((((B7.setCell (p := ⟨w.heap.size + 1, 0, none⟩) (by show w.heap.size ≤ w.heap.size + 1; omega) (.bool n1)).setCell (p := ⟨w.heap.size + 1, 1, none⟩) (by show w.heap.size ≤ w.heap.size + 1; omega) (.slice ad3 l1.length cp3)).setCell (p := ⟨w.heap.size + 1, 2, none⟩) (by show w.heap.size ≤ w.heap.size + 1; omega) (.bool n2)).setCell (p := ⟨w.heap.size + 1, 3, none⟩) (by show w.heap.size ≤ w.heap.size + 1; omega) (.slice ad4 l2.length cp4))
  have HP : Hid (Apart (blkI (.slice ad3 l1.length cp3)) (blkI (.slice ad4 l2.length cp4))) := hap
  clear q3 q4 q3' q4' hap R7 B7 b7
  go_wp2
  (try simp only [Exit.inBlock, Exit.then])
  refine bodyPost_ret (v := .tuple #[.agg #[.bool n1, .slice ad3 l1.length cp3, .bool n2, .slice ad4 l2.length cp4], .bool ok3]) ?_ rfl ⟨_, by rw [HR.out], by rw [HR.out]; exact ⟨_, _, rfl, ownsI_mono HA.out hbase.2, ownsI_mono HZ.out hbase.2, HP.out⟩, HB.out⟩
  rw [results_cell_tmp rfl]
  go_simp

set_option maxRecDepth 20000 in
set_option maxHeartbeats 6400000 in
theorem iIvMove (va : Value) (a : Vh) (p q : Int) (w : World) (ha : rowV w va a) (hl0 : a.1.2.length ≤ 1048576) (hl1 : a.2.2.length ≤ 1048576) :
    Calls Try.prog 8 #[va, .int .i64 p, .int .i64 q] w fun e w' => ∃ v, e = .returned (.tuple #[v, .bool (moveR a p q).2]) ∧ ownsV w' w.heap.size v (moveR a p q).1 ∧ Below w.heap.size w w' := by
  have kA := fun W (h : Below w.heap.size w W) => spanFrom_b va a W (ha.below h (Nat.le_refl _)) hl0 hl1
  have kI := fun W => placesAt p W
  have kJ := fun W => placesAt q W
  by_cases hok : okV a = true
  case neg =>
    have hf : okV a = false := by simpa using hok
    rw [hf] at kA
    have HR : Hid (moveR a p q = (((false, []), (false, [])), false)) := by show _ = _; unfold moveR; rw [if_neg (fun h => hok h.1)]
    obtain ⟨rr, hr⟩ : ∃ r, moveR a p q = r := ⟨_, rfl⟩
    rw [hr] at HR
    rw [hr]
    clear hr
    clear hok hf hl0 hl1
    obtain ⟨s, t, rfl, hs, ht⟩ := ha
    obtain ⟨ad, cap, rfl, -⟩ := id hs
    obtain ⟨ae, cbp, rfl, -⟩ := id ht
    obtain ⟨g, hg⟩ : ∃ g, a.1.1 = g := ⟨_, rfl⟩
    obtain ⟨g', hg'⟩ : ∃ g, a.2.1 = g := ⟨_, rfl⟩
    obtain ⟨len, hlen⟩ : ∃ l, a.1.2.length = l := ⟨_, rfl⟩
    obtain ⟨len2, hlen2⟩ : ∃ l, a.2.2.length = l := ⟨_, rfl⟩
    rw [hg, hg', hlen, hlen2] at kA
    rw [hg, hg', hlen, hlen2]
    clear hs ht hg hg' hlen hlen2
    have s1 : (w.alloc (.cells #[.bool g, .slice ad len cap, .bool g', .slice ae len2 cbp] 28)).heap.size = w.heap.size + 1 := by simp
    have X0 := (BoxV.made w (.bool g) (.slice ad len cap) (.bool g') (.slice ae len2 cbp) 28).below (below1 _ (.cells #[.bool false, .slice none 0 0, .bool false, .slice none 0 0] 28)) (Nat.le_refl _)
    have R0 := BoxV.made (w.alloc (.cells #[.bool g, .slice ad len cap, .bool g', .slice ae len2 cbp] 28)) (.bool false) (.slice none 0 0) (.bool false) (.slice none 0 0) 28
    rw [s1] at R0
    have B0 := below2 w (.cells #[.bool g, .slice ad len cap, .bool g', .slice ae len2 cbp] 28) (.cells #[.bool false, .slice none 0 0, .bool false, .slice none 0 0] 28)
    clear s1
    go_enter Try.func8, Try.ntmps8
    go_wp2_with fail
    refine (kA _ B0).mono ?_
    generalize (w.alloc (.cells #[.bool g, .slice ad len cap, .bool g', .slice ae len2 cbp] 28)).alloc (.cells #[.bool false, .slice none 0 0, .bool false, .slice none 0 0] 28) = w0 at *
    rintro e w1' ⟨X, Y, rfl, b1', hXY⟩
    have bF := below1 w1' (.cells #[.pointer X, .pointer Y] 54)
    have b1 := b1'.trans (bF.mono b1'.size)
    have R1 := R0.below b1 (Nat.le_refl _)
    have B1 := B0.trans (b1.mono B0.size)
    have r0 := R1.c0
    have f0 := R1.f0
    have r1 := R1.c1
    have f1 := R1.f1
    have r2 := R1.c2
    have f2 := R1.f2
    have r3 := R1.c3
    have f3 := R1.f3
    have HB : Hid (Below w.heap.size w _) := ((((B1.setCell (p := ⟨w.heap.size + 1, 0, none⟩) (by show w.heap.size ≤ w.heap.size + 1; omega) (.bool false)).setCell (p := ⟨w.heap.size + 1, 1, none⟩) (by show w.heap.size ≤ w.heap.size + 1; omega) (.slice none 0 0)).setCell (p := ⟨w.heap.size + 1, 2, none⟩) (by show w.heap.size ≤ w.heap.size + 1; omega) (.bool false)).setCell (p := ⟨w.heap.size + 1, 3, none⟩) (by show w.heap.size ≤ w.heap.size + 1; omega) (.slice none 0 0))
    clear R0 R1 B0 B1 b1 b1' kA X0 hXY bF
    go_wp2
    (try simp only [Exit.inBlock, Exit.then])
    refine bodyPost_ret (v := .tuple #[.agg #[.bool false, .slice none 0 0, .bool false, .slice none 0 0], .bool false]) ?_ rfl ⟨_, by rw [HR.out], by rw [HR.out]; exact nilV _ _, HB.out⟩
    rw [results_cell_tmp rfl]
    go_simp
  have hA := hok
  rw [hok] at kA
  by_cases hp : 0 ≤ p ∧ p ≤ 480
  case neg =>
    rw [decide_eq_false hp] at kI
    have HR : Hid (moveR a p q = (((false, []), (false, [])), false)) := by show _ = _; unfold moveR; rw [if_neg (fun h => hp h.2.1)]
    obtain ⟨rr, hr⟩ : ∃ r, moveR a p q = r := ⟨_, rfl⟩
    rw [hr] at HR
    rw [hr]
    clear hr
    clear hok hA hp hl0 hl1
    obtain ⟨s, t, rfl, hs, ht⟩ := ha
    obtain ⟨ad, cap, rfl, -⟩ := id hs
    obtain ⟨ae, cbp, rfl, -⟩ := id ht
    obtain ⟨g, hg⟩ : ∃ g, a.1.1 = g := ⟨_, rfl⟩
    obtain ⟨g', hg'⟩ : ∃ g, a.2.1 = g := ⟨_, rfl⟩
    obtain ⟨len, hlen⟩ : ∃ l, a.1.2.length = l := ⟨_, rfl⟩
    obtain ⟨len2, hlen2⟩ : ∃ l, a.2.2.length = l := ⟨_, rfl⟩
    rw [hg, hg', hlen, hlen2] at kA
    rw [hg, hg', hlen, hlen2]
    clear hs ht hg hg' hlen hlen2
    have s1 : (w.alloc (.cells #[.bool g, .slice ad len cap, .bool g', .slice ae len2 cbp] 28)).heap.size = w.heap.size + 1 := by simp
    have X0 := (BoxV.made w (.bool g) (.slice ad len cap) (.bool g') (.slice ae len2 cbp) 28).below (below1 _ (.cells #[.bool false, .slice none 0 0, .bool false, .slice none 0 0] 28)) (Nat.le_refl _)
    have R0 := BoxV.made (w.alloc (.cells #[.bool g, .slice ad len cap, .bool g', .slice ae len2 cbp] 28)) (.bool false) (.slice none 0 0) (.bool false) (.slice none 0 0) 28
    rw [s1] at R0
    have B0 := below2 w (.cells #[.bool g, .slice ad len cap, .bool g', .slice ae len2 cbp] 28) (.cells #[.bool false, .slice none 0 0, .bool false, .slice none 0 0] 28)
    clear s1
    go_enter Try.func8, Try.ntmps8
    go_wp2_with fail
    refine (kA _ B0).mono ?_
    generalize (w.alloc (.cells #[.bool g, .slice ad len cap, .bool g', .slice ae len2 cbp] 28)).alloc (.cells #[.bool false, .slice none 0 0, .bool false, .slice none 0 0] 28) = w0 at *
    rintro e w1' ⟨X, Y, rfl, b1', hXY⟩
    have bF := below1 w1' (.cells #[.pointer X, .pointer Y] 54)
    have b1 := b1'.trans (bF.mono b1'.size)
    have R1 := R0.below b1 (Nat.le_refl _)
    have B1 := B0.trans (b1.mono B0.size)
    have r0 := R1.c0
    have f0 := R1.f0
    have r1 := R1.c1
    have f1 := R1.f1
    have r2 := R1.c2
    have f2 := R1.f2
    have r3 := R1.c3
    have f3 := R1.f3
    have HB : Hid (Below w.heap.size w _) := ((((B1.setCell (p := ⟨w.heap.size + 1, 0, none⟩) (by show w.heap.size ≤ w.heap.size + 1; omega) (.bool false)).setCell (p := ⟨w.heap.size + 1, 1, none⟩) (by show w.heap.size ≤ w.heap.size + 1; omega) (.slice none 0 0)).setCell (p := ⟨w.heap.size + 1, 2, none⟩) (by show w.heap.size ≤ w.heap.size + 1; omega) (.bool false)).setCell (p := ⟨w.heap.size + 1, 3, none⟩) (by show w.heap.size ≤ w.heap.size + 1; omega) (.slice none 0 0))
    clear R0 R1 B0 B1 b1 b1' kA X0 hXY bF
    go_wp2_with fail
    refine (kI _).mono ?_
    rintro e w2 ⟨rfl, rfl⟩
    go_wp2
    (try simp only [Exit.inBlock, Exit.then])
    refine bodyPost_ret (v := .tuple #[.agg #[.bool false, .slice none 0 0, .bool false, .slice none 0 0], .bool false]) ?_ rfl ⟨_, by rw [HR.out], by rw [HR.out]; exact nilV _ _, HB.out⟩
    rw [results_cell_tmp rfl]
    go_simp
  rw [decide_eq_true hp] at kI
  by_cases hq : 0 ≤ q ∧ q ≤ 480
  case neg =>
    rw [decide_eq_false hq] at kJ
    have HR : Hid (moveR a p q = (((false, []), (false, [])), false)) := by show _ = _; unfold moveR; rw [if_neg (fun h => hq h.2.2)]
    obtain ⟨rr, hr⟩ : ∃ r, moveR a p q = r := ⟨_, rfl⟩
    rw [hr] at HR
    rw [hr]
    clear hr
    clear hok hA hp hq hl0 hl1
    obtain ⟨s, t, rfl, hs, ht⟩ := ha
    obtain ⟨ad, cap, rfl, -⟩ := id hs
    obtain ⟨ae, cbp, rfl, -⟩ := id ht
    obtain ⟨g, hg⟩ : ∃ g, a.1.1 = g := ⟨_, rfl⟩
    obtain ⟨g', hg'⟩ : ∃ g, a.2.1 = g := ⟨_, rfl⟩
    obtain ⟨len, hlen⟩ : ∃ l, a.1.2.length = l := ⟨_, rfl⟩
    obtain ⟨len2, hlen2⟩ : ∃ l, a.2.2.length = l := ⟨_, rfl⟩
    rw [hg, hg', hlen, hlen2] at kA
    rw [hg, hg', hlen, hlen2]
    clear hs ht hg hg' hlen hlen2
    have s1 : (w.alloc (.cells #[.bool g, .slice ad len cap, .bool g', .slice ae len2 cbp] 28)).heap.size = w.heap.size + 1 := by simp
    have X0 := (BoxV.made w (.bool g) (.slice ad len cap) (.bool g') (.slice ae len2 cbp) 28).below (below1 _ (.cells #[.bool false, .slice none 0 0, .bool false, .slice none 0 0] 28)) (Nat.le_refl _)
    have R0 := BoxV.made (w.alloc (.cells #[.bool g, .slice ad len cap, .bool g', .slice ae len2 cbp] 28)) (.bool false) (.slice none 0 0) (.bool false) (.slice none 0 0) 28
    rw [s1] at R0
    have B0 := below2 w (.cells #[.bool g, .slice ad len cap, .bool g', .slice ae len2 cbp] 28) (.cells #[.bool false, .slice none 0 0, .bool false, .slice none 0 0] 28)
    clear s1
    go_enter Try.func8, Try.ntmps8
    go_wp2_with fail
    refine (kA _ B0).mono ?_
    generalize (w.alloc (.cells #[.bool g, .slice ad len cap, .bool g', .slice ae len2 cbp] 28)).alloc (.cells #[.bool false, .slice none 0 0, .bool false, .slice none 0 0] 28) = w0 at *
    rintro e w1' ⟨X, Y, rfl, b1', hXY⟩
    have bF := below1 w1' (.cells #[.pointer X, .pointer Y] 54)
    have b1 := b1'.trans (bF.mono b1'.size)
    have R1 := R0.below b1 (Nat.le_refl _)
    have B1 := B0.trans (b1.mono B0.size)
    have r0 := R1.c0
    have f0 := R1.f0
    have r1 := R1.c1
    have f1 := R1.f1
    have r2 := R1.c2
    have f2 := R1.f2
    have r3 := R1.c3
    have f3 := R1.f3
    have HB : Hid (Below w.heap.size w _) := ((((B1.setCell (p := ⟨w.heap.size + 1, 0, none⟩) (by show w.heap.size ≤ w.heap.size + 1; omega) (.bool false)).setCell (p := ⟨w.heap.size + 1, 1, none⟩) (by show w.heap.size ≤ w.heap.size + 1; omega) (.slice none 0 0)).setCell (p := ⟨w.heap.size + 1, 2, none⟩) (by show w.heap.size ≤ w.heap.size + 1; omega) (.bool false)).setCell (p := ⟨w.heap.size + 1, 3, none⟩) (by show w.heap.size ≤ w.heap.size + 1; omega) (.slice none 0 0))
    clear R0 R1 B0 B1 b1 b1' kA X0 hXY bF
    go_wp2_with fail
    refine (kI _).mono ?_
    rintro e w2 ⟨rfl, rfl⟩
    go_wp2_with fail
    refine (kJ _).mono ?_
    rintro e w2 ⟨rfl, rfl⟩
    go_wp2
    (try simp only [Exit.inBlock, Exit.then])
    refine bodyPost_ret (v := .tuple #[.agg #[.bool false, .slice none 0 0, .bool false, .slice none 0 0], .bool false]) ?_ rfl ⟨_, by rw [HR.out], by rw [HR.out]; exact nilV _ _, HB.out⟩
    rw [results_cell_tmp rfl]
    go_simp
  rw [decide_eq_true hq] at kJ
  have z := okV_yes hok
  have l1' := okW_lenV z.1
  have l2' := okW_lenV z.2.1
  have kS := fun i j W h1 h2 => movedSpan_c i j (valW a.1) (valW a.2) p q W h1 h2 (by omega) (by omega) (by omega) (by omega)
  unfold spanE at kS
  have kf := fun i j W h1 h2 => ivFrom_c i j (mvLo (valW a.1) (q - p)) (mvHi (valW a.2) (q - p)) W h1 h2
  have HR : Hid (moveR a p q = fitV (mvLo (valW a.1) (q - p)) (mvHi (valW a.2) (q - p))) := by show _ = _; unfold moveR; rw [if_pos ⟨hok, hp, hq⟩]
  obtain ⟨rr, hr⟩ : ∃ r, moveR a p q = r := ⟨_, rfl⟩
  rw [hr] at HR
  rw [hr]
  clear hr
  clear hok hA hp hq hl0 hl1 z l1' l2'
  generalize fitV (mvLo (valW a.1) (q - p)) (mvHi (valW a.2) (q - p)) = fw at *
  generalize mvLo (valW a.1) (q - p) = d1 at *
  generalize mvHi (valW a.2) (q - p) = d2 at *
  generalize valW a.1 = x at *
  generalize valW a.2 = y at *
  obtain ⟨s, t, rfl, hs, ht⟩ := ha
  obtain ⟨ad, cap, rfl, -⟩ := id hs
  obtain ⟨ae, cbp, rfl, -⟩ := id ht
  obtain ⟨g, hg⟩ : ∃ g, a.1.1 = g := ⟨_, rfl⟩
  obtain ⟨g', hg'⟩ : ∃ g, a.2.1 = g := ⟨_, rfl⟩
  obtain ⟨len, hlen⟩ : ∃ l, a.1.2.length = l := ⟨_, rfl⟩
  obtain ⟨len2, hlen2⟩ : ∃ l, a.2.2.length = l := ⟨_, rfl⟩
  rw [hg, hg', hlen, hlen2] at kA
  rw [hg, hg', hlen, hlen2]
  clear hs ht hg hg' hlen hlen2
  have s1 : (w.alloc (.cells #[.bool g, .slice ad len cap, .bool g', .slice ae len2 cbp] 28)).heap.size = w.heap.size + 1 := by simp
  have X0 := (BoxV.made w (.bool g) (.slice ad len cap) (.bool g') (.slice ae len2 cbp) 28).below (below1 _ (.cells #[.bool false, .slice none 0 0, .bool false, .slice none 0 0] 28)) (Nat.le_refl _)
  have R0 := BoxV.made (w.alloc (.cells #[.bool g, .slice ad len cap, .bool g', .slice ae len2 cbp] 28)) (.bool false) (.slice none 0 0) (.bool false) (.slice none 0 0) 28
  rw [s1] at R0
  have B0 := below2 w (.cells #[.bool g, .slice ad len cap, .bool g', .slice ae len2 cbp] 28) (.cells #[.bool false, .slice none 0 0, .bool false, .slice none 0 0] 28)
  clear s1
  go_enter Try.func8, Try.ntmps8
  go_wp2_with fail
  refine (kA _ B0).mono ?_
  generalize (w.alloc (.cells #[.bool g, .slice ad len cap, .bool g', .slice ae len2 cbp] 28)).alloc (.cells #[.bool false, .slice none 0 0, .bool false, .slice none 0 0] 28) = w0 at *
  rintro e w1' ⟨X, Y, rfl, b1', hXY⟩
  have bF := below1 w1' (.cells #[.pointer X, .pointer Y] 54)
  have b1 := b1'.trans (bF.mono b1'.size)
  have R1 := R0.below b1 (Nat.le_refl _)
  have B1 := B0.trans (b1.mono B0.size)
  obtain ⟨i, j, rfl, rfl, sp, sq, -, -⟩ := hXY (by first | exact trivial | rfl)
  have sp1 := sp.below bF sp.lt
  have sq1 := sq.below bF sq.lt
  have hR0 := R0.hi
  have hE1 : w0.heap.size ≤ w1'.heap.size := b1'.size
  have E1 := BoxW.made w1' (.pointer (some ⟨i, 0, none⟩)) (.pointer (some ⟨j, 0, none⟩)) 54
  have c0 := E1.c0
  have c1 := E1.c1
  clear hXY kA R0 B0 b1 b1' X0 sp sq bF
  go_wp2_with fail
  refine (kI _).mono ?_
  rintro e w3 ⟨rfl, rfl⟩
  go_wp2_with fail
  refine (kJ _).mono ?_
  rintro e w3 ⟨rfl, rfl⟩
  go_wp2_with fail
  refine (kS i j _ sp1 sq1).mono ?_
  rintro e w4 ⟨c, d, rfl, sc, sd, b4⟩
  have R4 := R1.below b4 (Nat.le_refl _)
  have B4 := B1.trans (b4.mono B1.size)
  clear kS sp1 sq1 E1 c0 c1
  go_wp2_with fail
  refine (kf c d _ sc sd).mono ?_
  rintro e w6 ⟨v6, rfl, o6, b6⟩
  obtain ⟨⟨⟨n1, l1⟩, ⟨n2, l2⟩⟩, ok3⟩ := fw
  obtain ⟨s3, s4, rfl, q3, q4, hap⟩ := o6
  obtain ⟨ad3, cp3, rfl, -⟩ := q3.row
  obtain ⟨ad4, cp4, rfl, -⟩ := q4.row
  have q3' : ownsI w6 w4.heap.size (.slice ad3 l1.length cp3) l1 := q3
  have q4' : ownsI w6 w4.heap.size (.slice ad4 l2.length cp4) l2 := q4
  have hR4 := R4.hi
  have R6 := R4.below b6 (Nat.le_refl _)
  have B6 := B4.trans (b6.mono B4.size)
  have r0 := R6.c0
  have f0 := R6.f0
  have r1 := R6.c1
  have f1 := R6.f1
  have r2 := R6.c2
  have f2 := R6.f2
  have r3 := R6.c3
  have f3 := R6.f3
  have HA : Hid (ownsI _ w4.heap.size (.slice ad3 l1.length cp3) l1) := ((((q3'.other (w.heap.size + 1) 0 (by omega) (.bool n1)).other (w.heap.size + 1) 1 (by omega) (.slice ad3 l1.length cp3)).other (w.heap.size + 1) 2 (by omega) (.bool n2)).other (w.heap.size + 1) 3 (by omega) (.slice ad4 l2.length cp4))
  have HZ : Hid (ownsI _ w4.heap.size (.slice ad4 l2.length cp4) l2) := ((((q4'.other (w.heap.size + 1) 0 (by omega) (.bool n1)).other (w.heap.size + 1) 1 (by omega) (.slice ad3 l1.length cp3)).other (w.heap.size + 1) 2 (by omega) (.bool n2)).other (w.heap.size + 1) 3 (by omega) (.slice ad4 l2.length cp4))
  have HB : Hid (Below w.heap.size w _) := ((((B6.setCell (p := ⟨w.heap.size + 1, 0, none⟩) (by show w.heap.size ≤ w.heap.size + 1; omega) (.bool n1)).setCell (p := ⟨w.heap.size + 1, 1, none⟩) (by show w.heap.size ≤ w.heap.size + 1; omega) (.slice ad3 l1.length cp3)).setCell (p := ⟨w.heap.size + 1, 2, none⟩) (by show w.heap.size ≤ w.heap.size + 1; omega) (.bool n2)).setCell (p := ⟨w.heap.size + 1, 3, none⟩) (by show w.heap.size ≤ w.heap.size + 1; omega) (.slice ad4 l2.length cp4))
  have HP : Hid (Apart (blkI (.slice ad3 l1.length cp3)) (blkI (.slice ad4 l2.length cp4))) := hap
  have hb4 := B4.size
  clear q3 q4 q3' q4' hap R1 R4 R6 B1 B4 B6 b4 b6 sc sd kf
  go_wp2
  (try simp only [Exit.inBlock, Exit.then])
  refine bodyPost_ret (v := .tuple #[.agg #[.bool n1, .slice ad3 l1.length cp3, .bool n2, .slice ad4 l2.length cp4], .bool ok3]) ?_ rfl ⟨_, by rw [HR.out], by rw [HR.out]; exact ⟨_, _, rfl, ownsI_mono HA.out hb4, ownsI_mono HZ.out hb4, HP.out⟩, HB.out⟩
  rw [results_cell_tmp rfl]
  go_simp

end Go.Proofs.Ytddakeohamefiaa
