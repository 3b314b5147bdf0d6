/- The draws of numbers with a sign: l5Modes, l4Right, l4Draw, l5Int, each by its contract. -/
import Derived.Test.YtlpfjpbnedankaaDrD
import Derived.Test.YtlpfjpbnedankaaSW
import Derived.Test.YtlpfjpbnedankaaSNatOf
namespace Go.Proofs.Ytlpfjpbnedankaa
open Go.RowKit
set_option linter.unusedSimpArgs false

/-- What a draw of a number with a sign hands out. -/
def DrawnW (w : World) (B : Nat) (e : Ending) (w' : World) : Prop := ∃ v a, e = .returned v ∧ ownsW w' w.heap.size v a ∧ a.2.length ≤ 98 ∧ CurAt w' B ∧ w.grownBy w' (some B)
theorem BoxW.cur {w w' : World} {base b B : Nat} {x y : Value} (h : BoxW w base b x y) (hg : w.grownBy w' (some B)) (hne : B < b) : BoxW w' base b x y :=
  h.tn (Tn.of_grown hg) (fun k hk hs => by simp at hk hs; omega)
theorem drFin {w w5 : World} {B : Nat} (g : Bool) {v : Value} {l : List Int} (q5 : ownsI w5 (w.heap.size + 1) v l) (c5 : CurAt w5 B) (G5 : w.grownBy w5 (some B)) (hB : B < w.heap.size) (hl : l.length ≤ 98) :
    DrawnW w B (.returned (.agg #[.bool g, v])) ((w5.setCell ⟨w.heap.size, 0, none⟩ (.bool g)).setCell ⟨w.heap.size, 1, none⟩ v) := by
  have o4 := ownsRow_setCell_below (a := ⟨w.heap.size, 0, none⟩) q5 (by show w.heap.size < w.heap.size + 1; omega) (.bool g)
  have o5 := ownsRow_setCell_below (a := ⟨w.heap.size, 1, none⟩) o4 (by show w.heap.size < w.heap.size + 1; omega) v
  have bb : Below w.heap.size w5 ((w5.setCell ⟨w.heap.size, 0, none⟩ (.bool g)).setCell ⟨w.heap.size, 1, none⟩ v) := ((Below.refl _ _).setCell (p := ⟨w.heap.size, 0, none⟩) (Nat.le_refl _) _).setCell (p := ⟨w.heap.size, 1, none⟩) (Nat.le_refl _) _
  exact ⟨_, (g, l), rfl, ⟨_, rfl, ownsRow_mono o5 (by omega)⟩, hl, c5.below bb hB, grown_then G5 bb⟩
theorem ownsI.set {w : World} {base : Nat} {v : Value} {l : List Int} (q : ownsI w base v l) (b j : Nat) (hb : b < base) (x : Value) : ownsI (w.setCell ⟨b, j, none⟩ x) base v l := ownsRow_setCell_below (a := ⟨b, j, none⟩) q hb x
theorem CurAt.set {w : World} {B : Nat} (h : CurAt w B) (b j : Nat) (hb : B < b) (x : Value) : CurAt (w.setCell ⟨b, j, none⟩ x) B := h.below ((Below.refl b w).setCell (p := ⟨b, j, none⟩) (Nat.le_refl _) x) hb
theorem grown_put {a w : World} {row : Option Nat} (h : a.grownBy w row) (b j : Nat) (hb : a.heap.size ≤ b) (x : Value) : a.grownBy (w.setCell ⟨b, j, none⟩ x) row := grown_then h ((Below.refl a.heap.size w).setCell (p := ⟨b, j, none⟩) hb x)

def magList : List Int := [0, 1, 2, 3, 255, 256, 1000000, 9223372036854775807]
theorem magList_bd {n : Int} (h : n ∈ magList) : 0 ≤ n ∧ n ≤ 9223372036854775807 := by
  simp [magList] at h
  omega

set_option maxRecDepth 20000 in
set_option maxHeartbeats 3200000 in
theorem drWRight (B : Nat) (w : World) (hc : CurAt w B) :
    Calls Try.prog 102 #[.pointer (some ⟨B, 0, none⟩)] w (DrawnW w B) := by
  have hB := hc.lt
  have X0 := BoxW.made w (.bool false) (.slice none 0 0) 27
  have s0 : (w.alloc (.cells #[.bool false, .slice none 0 0] 27)).heap.size = w.heap.size + 1 := by simp
  have G0 : w.grownBy (w.alloc (.cells #[.bool false, .slice none 0 0] 27)) (some B) := grown_of (below1 w _) _
  have c0 := hc.alloc (.cells #[.bool false, .slice none 0 0] 27)
  clear hc
  go_enter Try.func102, Try.ntmps102
  go_wp2_with fail
  generalize w.alloc (.cells #[.bool false, .slice none 0 0] 27) = w0 at *
  refine (drRight B w0 c0).mono ?_
  rintro e w1 ⟨v1, xs, rfl, o1, l1, k1, c1, g1⟩
  have X1 := X0.cur g1 hB
  have G1 := grown_trans G0 g1
  rw [s0] at o1
  have hz1 : w.heap.size + 1 ≤ w1.heap.size := by have := g1.size; omega
  rw [show xs = limbs (num xs) from okL_eq ((okB_iff xs).1 k1)] at o1 l1
  generalize num xs = m at *
  clear c0 X0 G0 g1 k1 s0
  go_wp2_with fail
  refine (drOnce B 3 w1 c1 (by omega)).mono ?_
  rintro e w2 ⟨t, rfl, c2, g2⟩
  have X2 := X1.cur g2 hB
  have G2 := grown_trans G1 g2
  have o2 := o1.cur g2 (by omega)
  have hz2 : w.heap.size + 1 ≤ w2.heap.size := by have := g2.size; omega
  clear c1 X1 G1 g2 o1 hz1
  have REST : ∀ (W : World) (m : Nat) (v : Value), ownsI W (w.heap.size + 1) v (limbs m) → (limbs m).length ≤ 48 → CurAt W B → w.grownBy W (some B) → BoxW W w.heap.size w.heap.size (.bool false) (.slice none 0 0) → w.heap.size + 1 ≤ W.heap.size → True := fun _ _ _ _ _ _ _ _ _ => trivial
  clear REST
  cases t
  · go_wp2_with fail
    refine (drOnce B 2 w2 c2 (by omega)).mono ?_
    rintro e w5 ⟨t5, rfl, c5, g5⟩
    have X5 := X2.cur g5 hB
    have G5 := grown_trans G2 g5
    have o5 := o2.cur g5 (by omega)
    have hz5 : w.heap.size + 1 ≤ w5.heap.size := by have := g5.size; omega
    have kM := sMake t5 _ m _ w5 o5 (by omega)
    clear c2 X2 G2 g5 o2
    go_wp2_with fail
    refine kM.mono ?_
    rintro e w6 ⟨v6, rfl, o6, b6⟩
    have X6 := X5.below b6 (Nat.le_refl _)
    have G6 := grown_then G5 (b6.mono (by omega))
    have c6 := c5.below b6 (by omega)
    have hl6 : (mkW (if t5 = true then -(m : Int) else (m : Int))).2.length ≤ 98 := by
      rw [mkW_sign]
      show (limbs m).length ≤ 98
      omega
    generalize mkW (if t5 = true then -(m : Int) else (m : Int)) = r at *
    obtain ⟨rg, rl⟩ := r
    obtain ⟨s6, rfl, q6⟩ := o6
    obtain ⟨ad6, cp6, rfl, -⟩ := q6.row
    have HD : Hid (DrawnW w B (.returned (.agg #[.bool rg, .slice ad6 rl.length cp6])) _) := drFin rg q6 c6 G6 hB hl6
    have d0 := X6.c0
    have d1 := X6.c1
    have f0 := X6.f0
    have f1 := X6.f1
    clear q6 c6 G6 X5 X6 G5 c5 b6 kM o5
    go_wp2
    (try simp only [Exit.inBlock, Exit.then])
    refine bodyPost_ret (v := .agg #[.bool rg, .slice ad6 rl.length cp6]) ?_ rfl HD.out
    rw [results_cell1 rfl]
    go_simp
  · go_wp2_with fail
    refine (pickInt B w2.heap.size 8 8 magList _ (c2.alloc _) rfl (by omega) (by omega) (by omega) (lit_cells w2 magList 3)).mono ?_
    rintro e w3 ⟨n, rfl, hn, c3, g3⟩
    obtain ⟨n0, n1⟩ := magList_bd hn
    have X3 := (X2.below (below1 w2 _) (Nat.le_refl _)).cur g3 hB
    have G3 := grown_trans (grown_alloc G2 _) g3
    have hz3 : w.heap.size + 1 ≤ w3.heap.size := by have h := g3.size; simp at h; omega
    obtain ⟨k, rfl⟩ := Int.eq_ofNat_of_zero_le n0
    have kO := sNatOf (k : Int) w3 (by omega)
    have hR : ofR (k : Int) = (limbs k, true) := by unfold ofR; rw [if_neg (by omega)]; simp
    rw [hR] at kO
    have lk := limbs_len3 (n := k) (by omega)
    clear c2 X2 G2 o2 hn g3 hR
    go_wp2_with fail
    refine kO.mono ?_
    rintro e w4 ⟨v4, rfl, o4, b4⟩
    have X4 := X3.below b4 (Nat.le_refl _)
    have G4 := grown_then G3 (b4.mono (by omega))
    have c4 := c3.below b4 (by omega)
    have o4 := ownsI_mono o4 hz3
    have hz4 : w.heap.size + 1 ≤ w4.heap.size := by have := b4.size; omega
    have lk' : (limbs k).length ≤ 48 := by omega
    clear kO b4 X3 G3 c3 hz3
    go_wp2_with fail
    refine (drOnce B 2 w4 c4 (by omega)).mono ?_
    rintro e w5 ⟨t5, rfl, c5, g5⟩
    have X5 := X4.cur g5 hB
    have G5 := grown_trans G4 g5
    have o5 := o4.cur g5 (by omega)
    have hz5 : w.heap.size + 1 ≤ w5.heap.size := by have := g5.size; omega
    have kM := sMake t5 _ k _ w5 o5 (by omega)
    clear c4 X4 G4 g5 o4
    go_wp2_with fail
    refine kM.mono ?_
    rintro e w6 ⟨v6, rfl, o6, b6⟩
    have X6 := X5.below b6 (Nat.le_refl _)
    have G6 := grown_then G5 (b6.mono (by omega))
    have c6 := c5.below b6 (by omega)
    have hl6 : (mkW (if t5 = true then -(k : Int) else (k : Int))).2.length ≤ 98 := by
      rw [mkW_sign]
      show (limbs k).length ≤ 98
      omega
    generalize mkW (if t5 = true then -(k : Int) else (k : Int)) = r at *
    obtain ⟨rg, rl⟩ := r
    obtain ⟨s6, rfl, q6⟩ := o6
    obtain ⟨ad6, cp6, rfl, -⟩ := q6.row
    have HD : Hid (DrawnW w B (.returned (.agg #[.bool rg, .slice ad6 rl.length cp6])) _) := drFin rg q6 c6 G6 hB hl6
    have d0 := X6.c0
    have d1 := X6.c1
    have f0 := X6.f0
    have f1 := X6.f1
    clear q6 c6 G6 X5 X6 G5 c5 b6 kM o5
    go_wp2
    (try simp only [Exit.inBlock, Exit.then])
    refine bodyPost_ret (v := .agg #[.bool rg, .slice ad6 rl.length cp6]) ?_ rfl HD.out
    rw [results_cell1 rfl]
    go_simp

theorem tn_two (w : World) (b : Nat) (x y : Value) : Tn [b] w ((w.setCell ⟨b, 0, none⟩ x).setCell ⟨b, 1, none⟩ y) :=
  ⟨rfl, rfl, rfl, by simp [World.setCell], fun k _ hn => by
    have h1 : k ≠ b := fun e => hn (by simp [e])
    rw [Below.heap_setCell _ _ _ _ h1, Below.heap_setCell _ _ _ _ h1]⟩

set_option maxRecDepth 20000 in
set_option maxHeartbeats 3200000 in
theorem drWDraw (B : Nat) (w : World) (hc : CurAt w B) :
    Calls Try.prog 79 #[.pointer (some ⟨B, 0, none⟩)] w (DrawnW w B) := by
  have hB := hc.lt
  have X0 := BoxW.made w (.bool false) (.slice none 0 0) 27
  have s0 : (w.alloc (.cells #[.bool false, .slice none 0 0] 27)).heap.size = w.heap.size + 1 := by simp
  have G0 : w.grownBy (w.alloc (.cells #[.bool false, .slice none 0 0] 27)) (some B) := grown_of (below1 w _) _
  have c0 := hc.alloc (.cells #[.bool false, .slice none 0 0] 27)
  clear hc
  go_enter Try.func79, Try.ntmps79
  go_wp2_with fail
  generalize w.alloc (.cells #[.bool false, .slice none 0 0] 27) = w0 at *
  refine (drWRight B w0 c0).mono ?_
  rintro e w1 ⟨v1, a1, rfl, o1, l1, c1, g1⟩
  have X1 := X0.cur g1 hB
  have G1 := grown_trans G0 g1
  rw [s0] at o1
  have hz1 : w.heap.size + 1 ≤ w1.heap.size := by have := g1.size; omega
  obtain ⟨g, xs⟩ := a1
  obtain ⟨s1, rfl, q1⟩ := o1
  obtain ⟨ad, cp, rfl, -⟩ := q1.row
  have A1 := BoxW.made w1 (.bool g) (.slice ad xs.length cp) 27
  have bb := below1 w1 (.cells #[.bool g, .slice ad xs.length cp] 27)
  have X2 := X1.below bb (Nat.le_refl _)
  have q2 := ownsI.below q1 bb (Nat.le_refl _)
  have G2 := grown_alloc G1 (.cells #[.bool g, .slice ad xs.length cp] 27)
  have c2 := c1.alloc (.cells #[.bool g, .slice ad xs.length cp] 27)
  have s2 : (w1.alloc (.cells #[.bool g, .slice ad xs.length cp] 27)).heap.size = w1.heap.size + 1 := by simp
  clear c0 X0 G0 g1 s0 X1 q1 G1 bb c1
  go_wp2_with fail
  generalize w1.alloc (.cells #[.bool g, .slice ad xs.length cp] 27) = w2 at *
  refine (curBelow B 14 w2 c2 (by omega)).mono ?_
  rintro e w3 ⟨x, rfl, x0, -, -, c3, g3⟩
  have X3 := X2.cur g3 hB
  have A3 := A1.cur g3 (by omega)
  have G3 := grown_trans G2 g3
  have q3 := q2.cur g3 (by omega)
  have hz3 : w1.heap.size + 1 ≤ w3.heap.size := by have := g3.size; omega
  have hl98 : xs.length ≤ 98 := l1
  clear c2 X2 A1 G2 g3 q2 s2 l1
  have hne : ¬ w.heap.size = w1.heap.size := by omega
  have hne' : ¬ w1.heap.size = w.heap.size := by omega
  by_cases h0 : x = 0
  · subst h0
    clear x0
    go_wp2_with fail
    refine (drDraw B w3 c3).mono ?_
    rintro e w4 ⟨v4, ys, rfl, o4, l4, c4, g4⟩
    obtain ⟨ad4, cp4, rfl, -⟩ := o4.row
    have X4 := X3.cur g4 hB
    have A4 := A3.cur g4 (by omega)
    have G4 := grown_trans G3 g4
    have X5 : BoxW (w4.setCell ⟨w1.heap.size, 1, none⟩ (.slice ad4 ys.length cp4)) w.heap.size w.heap.size (.bool false) (.slice none 0 0) := X4.tn ⟨rfl, rfl, rfl, by simp, fun k _ hk => Below.heap_setCell w4 ⟨w1.heap.size, 1, none⟩ (.slice ad4 ys.length cp4) k (fun e => hk (List.mem_singleton.2 e))⟩ (fun k hk hs => by simp at hk hs; omega)
    have HD : Hid (DrawnW w B (.returned (.agg #[.bool g, (.slice ad4 ys.length cp4)])) _) := drFin g (ownsI_mono (o4.set w1.heap.size 1 (by omega) (.slice ad4 ys.length cp4)) (show w.heap.size + 1 ≤ w3.heap.size by omega)) (c4.set w1.heap.size 1 (by omega) (.slice ad4 ys.length cp4)) (grown_put G4 w1.heap.size 1 (by omega) (.slice ad4 ys.length cp4)) hB (by omega)
    have a0 := A4.c0
    have a1 := A4.c1
    have af1 := A4.f1
    have d0 := X5.c0
    have d1 := X5.c1
    have f0 := X5.f0
    have f1 := X5.f1
    have e0 := X4.c0
    have e1 := X4.c1
    have ef0 := X4.f0
    have ef1 := X4.f1
    clear X4 A4 G4 X5 g4 c4 o4 X3 A3 G3 c3 q3
    go_wp2
    (try simp only [Exit.inBlock, Exit.then])
    refine bodyPost_ret (v := .agg #[.bool g, (.slice ad4 ys.length cp4)]) ?_ rfl HD.out
    rw [results_cell1 rfl]
    go_simp
  · by_cases h1 : x = 1
    · subst h1
      clear x0
      have X5 : BoxW ((w3.setCell ⟨w1.heap.size, 0, none⟩ (.bool true)).setCell ⟨w1.heap.size, 1, none⟩ (.slice none 0 0)) w.heap.size w.heap.size (.bool false) (.slice none 0 0) := X3.tn (tn_two w3 w1.heap.size (.bool true) (.slice none 0 0)) (fun k hk hs => by simp at hk hs; omega)
      have HD : Hid (DrawnW w B (.returned (.agg #[.bool true, .slice none 0 0])) _) := drFin (l := []) true (World.ownsRow_nil _ _ _ _) ((c3.set w1.heap.size 0 (by omega) (.bool true)).set w1.heap.size 1 (by omega) (.slice none 0 0)) (grown_put (grown_put G3 w1.heap.size 0 (by omega) (.bool true)) w1.heap.size 1 (by omega) (.slice none 0 0)) hB (by simp)
      have a0 := A3.c0
      have a1 := A3.c1
      have af0 := A3.f0
      have af1 := A3.f1
      have d0 := X5.c0
      have d1 := X5.c1
      have f0 := X5.f0
      have f1 := X5.f1
      have e0 := X3.c0
      have e1 := X3.c1
      have ef0 := X3.f0
      have ef1 := X3.f1
      clear X5 X3 A3 G3 c3 q3
      go_wp2
      (try simp only [Exit.inBlock, Exit.then])
      refine bodyPost_ret (v := .agg #[.bool true, .slice none 0 0]) ?_ rfl HD.out
      rw [results_cell1 rfl]
      go_simp
    · have e0 : (x == 0) = false := beq_eq_false_iff_ne.2 h0
      have e1 : (x == 1) = false := beq_eq_false_iff_ne.2 h1
      have HD : Hid (DrawnW w B (.returned (.agg #[.bool g, .slice ad xs.length cp])) _) := drFin g q3 c3 G3 hB hl98
      have a0 := A3.c0
      have a1 := A3.c1
      have d0 := X3.c0
      have d1 := X3.c1
      have f0 := X3.f0
      have f1 := X3.f1
      clear X3 A3 G3 c3 q3
      go_wp2
      (try simp only [Exit.inBlock, Exit.then])
      refine bodyPost_ret (v := .agg #[.bool g, .slice ad xs.length cp]) ?_ rfl HD.out
      rw [results_cell1 rfl]
      go_simp

set_option maxRecDepth 20000 in
set_option maxHeartbeats 3200000 in
theorem drInt (B : Nat) (w : World) (hc : CurAt w B) :
    Calls Try.prog 77 #[.pointer (some ⟨B, 0, none⟩)] w (DrawnW w B) := by
  have hB := hc.lt
  have X0 := BoxW.made w (.bool false) (.slice none 0 0) 27
  have s0 : (w.alloc (.cells #[.bool false, .slice none 0 0] 27)).heap.size = w.heap.size + 1 := by simp
  have G0 : w.grownBy (w.alloc (.cells #[.bool false, .slice none 0 0] 27)) (some B) := grown_of (below1 w _) _
  have c0 := hc.alloc (.cells #[.bool false, .slice none 0 0] 27)
  clear hc
  go_enter Try.func77, Try.ntmps77
  go_wp2_with fail
  generalize w.alloc (.cells #[.bool false, .slice none 0 0] 27) = w0 at *
  refine (drOnce B 2 w0 c0 (by omega)).mono ?_
  rintro e w1 ⟨t, rfl, c1, g1⟩
  have X1 := X0.cur g1 hB
  have G1 := grown_trans G0 g1
  have hz1 : w.heap.size + 1 ≤ w1.heap.size := by have := g1.size; omega
  clear c0 X0 G0 g1 s0
  cases t
  · go_wp2_with fail
    refine (drWDraw B w1 c1).mono ?_
    rintro e w2 ⟨v2, a2, rfl, o2, l2, c2, g2⟩
    have X2 := X1.cur g2 hB
    have G2 := grown_trans G1 g2
    obtain ⟨rg, rl⟩ := a2
    obtain ⟨s6, rfl, q6⟩ := o2
    obtain ⟨ad6, cp6, rfl, -⟩ := q6.row
    have HD : Hid (DrawnW w B (.returned (.agg #[.bool rg, .slice ad6 rl.length cp6])) _) := drFin rg (ownsI_mono q6 hz1) c2 G2 hB l2
    have d0 := X2.c0
    have d1 := X2.c1
    have f0 := X2.f0
    have f1 := X2.f1
    clear q6 c2 G2 X1 X2 G1 c1 g2
    go_wp2
    (try simp only [Exit.inBlock, Exit.then])
    refine bodyPost_ret (v := .agg #[.bool rg, .slice ad6 rl.length cp6]) ?_ rfl HD.out
    rw [results_cell1 rfl]
    go_simp
  · go_wp2_with fail
    refine (curBelow B 64 w1 c1 (by omega)).mono ?_
    rintro e w2 ⟨x, rfl, x0, x1, -, c2, g2⟩
    have x1' := x1 (by omega)
    have X2 := X1.cur g2 hB
    have G2 := grown_trans G1 g2
    have hz2 : w.heap.size + 1 ≤ w2.heap.size := by have := g2.size; omega
    have kW := sWholeOf (x - 32) w2 (by omega) (by omega)
    clear c1 X1 G1 g2 hz1 x1
    go_wp2_with fail
    refine kW.mono ?_
    rintro e w3 ⟨v3, rfl, o3, b3⟩
    have X3 := X2.below b3 (Nat.le_refl _)
    have G3 := grown_then G2 (b3.mono (by omega))
    have c3 := c2.below b3 (by omega)
    have hl3 : (wofR (x - 32)).2.length ≤ 98 := by
      show (limbs (x - 32).natAbs).length ≤ 98
      have := limbs_len_le (x - 32).natAbs 1 (by omega)
      omega
    generalize wofR (x - 32) = r at *
    obtain ⟨rg, rl⟩ := r
    obtain ⟨s6, rfl, q6⟩ := o3
    obtain ⟨ad6, cp6, rfl, -⟩ := q6.row
    have HD : Hid (DrawnW w B (.returned (.agg #[.bool rg, .slice ad6 rl.length cp6])) _) := drFin rg (ownsI_mono q6 hz2) c3 G3 hB hl3
    have d0 := X3.c0
    have d1 := X3.c1
    have f0 := X3.f0
    have f1 := X3.f1
    clear q6 c3 G3 X3 X2 G2 c2 b3 kW
    go_wp2
    (try simp only [Exit.inBlock, Exit.then])
    refine bodyPost_ret (v := .agg #[.bool rg, .slice ad6 rl.length cp6]) ?_ rfl HD.out
    rw [results_cell1 rfl]
    go_simp

end Go.Proofs.Ytlpfjpbnedankaa
