/- Several small texts in one: SWholeOk, SMake, SWAdd, SWNeg, SWCmp. -/
import Derived.Test.YtlpfjpbnedankaaBase
import Derived.Test.YtlpfjpbnedankaaSB
import Derived.Deep.RegionHeld
import Derived.Test.YtlpfjpbnedankaaFB
/- The specification's WholeOk, by its contract. -/
namespace Go.Proofs.Ytlpfjpbnedankaa
open Go.RowKit

set_option maxHeartbeats 1600000 in
theorem sWholeOk (va : Value) (a : Wh) (w : World) (ha : rowW w va a) (hl : a.2.length ≤ 1048576) :
    Calls Try.prog 81 #[va] w fun e w' => e = .returned (.bool (okW a)) ∧ Below w.heap.size w w' := by
  obtain ⟨s, rfl, hs⟩ := ha
  obtain ⟨n, xs⟩ := a
  have ka := fun W (h : Below w.heap.size w W) => sNatOk s xs W (hs.below h (Nat.le_refl _)) (by show xs.length ≤ _; have : xs.length ≤ 1048576 := hl; omega)
  obtain ⟨ad, cap, rfl, -⟩ := id hs
  have hw : okW (n, xs) = (okB xs && (!n || decide (0 < xs.length))) := rfl
  have HW : Hid (okW (n, xs) = (okB xs && (!n || decide (0 < xs.length)))) := hw
  obtain ⟨b, hb⟩ : ∃ b, okB xs = b := ⟨_, rfl⟩
  rw [hb] at HW ka
  have hp : decide ((0 : Int) < (xs.length : Int)) = decide (0 < xs.length) := by simp
  clear hw hb hs
  cases b <;> cases n
  all_goals
    go_enter Try.func81, Try.ntmps81
    go_wp2_with fail
    refine (ka _ ((Below.refl w.heap.size w).alloc (Nat.le_refl _) _)).mono ?_
    rintro e w1 ⟨rfl, rfl⟩
    go_wp2
    go_ret
    exact ⟨by rw [HW.out]; simp, (Below.refl w.heap.size w).alloc (Nat.le_refl _) _⟩

end Go.Proofs.Ytlpfjpbnedankaa

/- The specification's l4Make, by its contract. -/
namespace Go.Proofs.Ytlpfjpbnedankaa
open Go.RowKit

theorem mkW_sign (neg : Bool) (m : Nat) : mkW (if neg = true then -(m : Int) else (m : Int)) = (neg && decide (0 < m), limbs m) := by
  unfold mkW
  cases neg <;> simp

set_option maxHeartbeats 1600000 in
theorem sMake (neg : Bool) (s : Value) (m : Nat) (base : Nat) (w : World) (h : ownsI w base s (limbs m)) (hl : (limbs m).length ≤ 1073741824) :
    Calls Try.prog 83 #[.bool neg, s] w fun e w' => ∃ v, e = .returned v ∧ ownsW w' base v (mkW (if neg = true then -(m : Int) else (m : Int))) ∧ Below w.heap.size w w' := by
  obtain ⟨ad, cap, rfl, -⟩ := h.row
  have hm : decide ((0 : Int) < ((limbs m).length : Int)) = decide (0 < m) := by
    by_cases h0 : m = 0
    · subst h0; rw [limbs_zero]; rfl
    · have : 0 < (limbs m).length := by rw [limbs_pos m (by omega)]; simp
      simp; omega
  have hm' : decide (0 < (limbs m).length) = decide (0 < m) := by rw [← hm]; simp
  have H0 : Hid (mkW (m : Int) = (false, limbs m)) := by show _ = _; have := mkW_sign false m; simpa using this
  have H1 : Hid (mkW (-(m : Int)) = (decide (0 < (limbs m).length), limbs m)) := by
    show _ = _
    have := mkW_sign true m
    rw [hm']
    simpa using this
  have HO : Hid (ownsI w base (.slice ad (limbs m).length cap) (limbs m)) := h
  clear h hm hm'
  cases neg
  · go_enter Try.func83, Try.ntmps83
    go_wp2
    (try simp only [Exit.inBlock, Exit.then])
    refine bodyPost_ret (v := .agg #[.bool false, .slice ad (limbs m).length cap]) ?_ rfl ⟨_, rfl, ?_, below1 _ _⟩
    · rw [results_cell1 rfl]
      go_simp
    · rw [H0.out]
      exact ⟨_, rfl, World.ownsRow.alloc HO.out _⟩
  · go_enter Try.func83, Try.ntmps83
    go_wp2
    (try simp only [Exit.inBlock, Exit.then])
    refine bodyPost_ret (v := .agg #[.bool (decide (0 < (limbs m).length)), .slice ad (limbs m).length cap]) ?_ rfl ⟨_, rfl, ?_, below1 _ _⟩
    · rw [results_cell1 rfl]
      go_simp
    · rw [H1.out]
      exact ⟨_, rfl, World.ownsRow.alloc HO.out _⟩

end Go.Proofs.Ytlpfjpbnedankaa

/- The specification's l4Add, by its contract. -/
namespace Go.Proofs.Ytlpfjpbnedankaa
open Go.RowKit

theorem signed (x : Int) : (if (mkW x).1 = true then -(x.natAbs : Int) else (x.natAbs : Int)) = x := by
  unfold mkW
  by_cases h : x < 0
  · simp [h]; omega
  · simp [h]; omega

set_option maxHeartbeats 1600000 in
theorem sWAdd (va vb : Value) (x y : Int) (w : World) (ha : rowW w va (mkW x)) (hb : rowW w vb (mkW y)) (hlx : (limbs x.natAbs).length ≤ 1000000) (hly : (limbs y.natAbs).length ≤ 1000000) :
    Calls Try.prog 53 #[va, vb] w fun e w' => ∃ v, e = .returned v ∧ ownsW w' w.heap.size v (mkW (x + y)) ∧ Below w.heap.size w w' := by
  obtain ⟨s, rfl, hs⟩ := ha
  obtain ⟨t, rfl, ht⟩ := hb
  have hs' : rowI w s (limbs x.natAbs) := hs
  have ht' : rowI w t (limbs y.natAbs) := ht
  have sx := signed x
  have sy := signed y
  obtain ⟨na, hna⟩ : ∃ n, (mkW x).1 = n := ⟨_, rfl⟩
  obtain ⟨nb, hnb⟩ : ∃ n, (mkW y).1 = n := ⟨_, rfl⟩
  obtain ⟨mx, hmx⟩ : ∃ n, x.natAbs = n := ⟨_, rfl⟩
  obtain ⟨my, hmy⟩ : ∃ n, y.natAbs = n := ⟨_, rfl⟩
  rw [hna, hmx] at sx
  rw [hnb, hmy] at sy
  rw [hmx] at hs' hlx
  rw [hmy] at ht' hly
  rw [hna, hnb]
  obtain ⟨a1, c1, rfl, -⟩ := id hs'
  obtain ⟨a2, c2, rfl, -⟩ := id ht'
  obtain ⟨nr, lr, hm5⟩ : ∃ nb lb, mkW (x + y) = (nb, lb) := ⟨_, _, rfl⟩
  rw [hm5]
  have HXY : Hid (x + y = (if na = true then -(mx : Int) else (mx : Int)) + (if nb = true then -(my : Int) else (my : Int))) := by show _ = _; rw [sx, sy]
  have HM : Hid (mkW (x + y) = (nr, lr)) := hm5
  clear hs ht hna hnb hmx hmy sx sy hm5
  have kc := fun W (h : Below w.heap.size w W) => sCmp _ _ (limbs mx) (limbs my) W (hs'.below h (Nat.le_refl _)) (ht'.below h (Nat.le_refl _)) (limbs_inR _) (limbs_inR _) (by omega) (by omega)
  simp only [num_limbs] at kc
  have kp := fun W (h : Below w.heap.size w W) => sPlus _ _ (limbs mx) (limbs my) W (hs'.below h (Nat.le_refl _)) (ht'.below h (Nat.le_refl _)) (limbs_inR _) (limbs_inR _) (by omega) (by omega)
  simp only [num_limbs] at kp
  -- the boxes
  have s1 : (w.alloc (.cells #[.bool na, .slice a1 (limbs mx).length c1] 27)).heap.size = w.heap.size + 1 := by simp
  have s2 : ((w.alloc (.cells #[.bool na, .slice a1 (limbs mx).length c1] 27)).alloc (.cells #[.bool nb, .slice a2 (limbs my).length c2] 27)).heap.size = w.heap.size + 1 + 1 := by simp
  have A1 := ((BoxW.made w (.bool na) (.slice a1 (limbs mx).length c1) 27).below (below1 _ (.cells #[.bool nb, .slice a2 (limbs my).length c2] 27)) (Nat.le_refl _)).below (below1 _ (.cells #[.bool false, .slice none 0 0] 27)) (Nat.le_refl _)
  have C1 := (BoxW.made (w.alloc (.cells #[.bool na, .slice a1 (limbs mx).length c1] 27)) (.bool nb) (.slice a2 (limbs my).length c2) 27).below (below1 _ (.cells #[.bool false, .slice none 0 0] 27)) (Nat.le_refl _)
  rw [s1] at C1
  have R1 := BoxW.made ((w.alloc (.cells #[.bool na, .slice a1 (limbs mx).length c1] 27)).alloc (.cells #[.bool nb, .slice a2 (limbs my).length c2] 27)) (.bool false) (.slice none 0 0) 27
  rw [s2] at R1
  have B := below3 w (.cells #[.bool na, .slice a1 (limbs mx).length c1] 27) (.cells #[.bool nb, .slice a2 (limbs my).length c2] 27) (.cells #[.bool false, .slice none 0 0] 27)
  clear s1 s2
  by_cases hsg : na = nb
  · have kM := fun v4 w4 base (h : ownsI w4 base v4 (limbs (mx + my))) => sMake na v4 (mx + my) base w4 h (by have := add_limbs mx my 1000000 hlx hly; omega)
    have hz : (if na = true then -((mx + my : Nat) : Int) else ((mx + my : Nat) : Int)) = x + y := by rw [HXY.out, ← hsg]; cases na <;> simp <;> omega
    rw [hz, HM.out] at kM
    have ebb : (na == nb) = true := by rw [hsg]; simp
    clear HXY HM kc hz hsg
    · go_enter Try.func53, Try.ntmps53
      go_wp2_with fail
      generalize ((w.alloc (.cells #[.bool na, .slice a1 (limbs mx).length c1] 27)).alloc (.cells #[.bool nb, .slice a2 (limbs my).length c2] 27)).alloc (.cells #[.bool false, .slice none 0 0] 27) = w2 at *
      have b2 := (Below.refl w2.heap.size w2).drew
      have A2 := A1.below b2 (Nat.le_refl _)
      have C2 := C1.below b2 (Nat.le_refl _)
      have R2 := R1.below b2 (Nat.le_refl _)
      have B2 := B.trans (b2.mono B.size)
      have a0 := A2.c0
      have a1' := A2.c1
      have e0 := C2.c0
      have e1' := C2.c1
      have n1 : ¬ (w.heap.size = w.heap.size + 1 + 1) := by omega
      have n2 : ¬ (w.heap.size + 1 + 1 = w.heap.size) := by omega
      have n3 : ¬ (w.heap.size + 1 = w.heap.size + 1 + 1) := by omega
      have n4 : ¬ (w.heap.size + 1 + 1 = w.heap.size + 1) := by omega
      go_region_held (fun w' => w'.cell? ⟨w.heap.size, 0, none⟩ = some (.bool na) ∧ w'.cell? ⟨w.heap.size, 1, none⟩ = some (.slice a1 (limbs mx).length c1) ∧ w'.cell? ⟨w.heap.size + 1, 0, none⟩ = some (.bool nb) ∧ w'.cell? ⟨w.heap.size + 1, 1, none⟩ = some (.slice a2 (limbs my).length c2)) (go_keep)
        (first
          | (go_at_call 86
             refine (kp _ B2).mono ?_
             rintro e w4 ⟨v4, rfl, o4, b4⟩
             have A4 := A2.below b4 (Nat.le_refl _)
             have C4 := C2.below b4 (Nat.le_refl _)
             have R4 := R2.below b4 (Nat.le_refl _)
             have B4 := B2.trans (b4.mono B2.size)
             have a04 := A4.c0
             have a14 := A4.c1
             have e04 := C4.c0
             have e14 := C4.c1)
          | (go_at_call 83
             refine (kM v4 w4 _ o4).mono ?_
             rintro e w5 ⟨v5, rfl, o5, b5⟩
             have A5 := A4.below b5 (Nat.le_refl _)
             have C5 := C4.below b5 (Nat.le_refl _)
             have R5 := R4.below b5 (Nat.le_refl _)
             have B5 := B4.trans (b5.mono B4.size)
             have a05 := A5.c0
             have a15 := A5.c1
             have e05 := C5.c0
             have e15 := C5.c1
             obtain ⟨s5, rfl, q5⟩ := o5
             obtain ⟨ad5, cp5, rfl, -⟩ := q5.row
             have r05 := R5.c0
             have r15 := R5.c1
             have f05 := R5.f0
             have f15 := R5.f1))
      have hi1 := R2.hi
      have o6 := ownsRow_setCell_below (a := ⟨w.heap.size + 1 + 1, 0, none⟩) q5 (by exact hi1) (.bool nr)
      have o7 := ownsRow_setCell_below (a := ⟨w.heap.size + 1 + 1, 1, none⟩) o6 (by exact hi1) (.slice ad5 lr.length cp5)
      have HO : Hid (World.ownsRow _ w.heap.size 3 1 (.slice ad5 lr.length cp5) lr.length (lr.map (Value.int .i64))) := ownsRow_mono o7 B2.size
      have HB : Hid (Below w.heap.size w _) := (B5.setCell (p := ⟨w.heap.size + 1 + 1, 0, none⟩) (by show w.heap.size ≤ w.heap.size + 1 + 1; omega) (.bool nr)).setCell (p := ⟨w.heap.size + 1 + 1, 1, none⟩) (by show w.heap.size ≤ w.heap.size + 1 + 1; omega) (.slice ad5 lr.length cp5)
      clear o6 o7 q5
      go_wp2
      (try simp only [Exit.inBlock, Exit.then])
      refine bodyPost_ret (v := .agg #[.bool nr, .slice ad5 lr.length cp5]) ?_ rfl ⟨_, rfl, ⟨_, rfl, HO.out⟩, HB.out⟩
      rw [results_cell1 rfl]
      go_simp

  · have ebb : (na == nb) = false := by cases na <;> cases nb <;> simp_all
    have hop : nb = !na := by cases na <;> cases nb <;> simp_all
    by_cases hge : my ≤ mx
    · have hc := cmpI_ge hge
      have hcb := cmpI_bd mx my
      have hlm := @limbs_len_mono (mx - my) mx (by omega)
      have hlg := limbs_len_mono hge
      have kl := fun W (h : Below w.heap.size w W) => sLess _ _ (limbs mx) (limbs my) W (hs'.below h (Nat.le_refl _)) (ht'.below h (Nat.le_refl _)) (limbs_inR _) (limbs_inR _) (by omega) hlg (by rw [num_limbs, num_limbs]; exact hge)
      simp only [num_limbs] at kl
      have kM := fun v4 w4 base (h : ownsI w4 base v4 (limbs (mx - my))) => sMake na v4 (mx - my) base w4 h (by omega)
      have hz : (if na = true then -((mx - my : Nat) : Int) else ((mx - my : Nat) : Int)) = x + y := by rw [HXY.out, hop]; cases na <;> simp <;> omega
      rw [hz, HM.out] at kM
      obtain ⟨c, hcc⟩ : ∃ c, cmpI mx my = c := ⟨_, rfl⟩
      rw [hcc] at kc hc hcb
      clear HXY HM kp hz hsg hop hcc
      · go_enter Try.func53, Try.ntmps53
        go_wp2_with fail
        refine (kc _ B).mono ?_
        rintro e w9 ⟨rfl, rfl⟩
        go_wp2_with fail
        generalize ((w.alloc (.cells #[.bool na, .slice a1 (limbs mx).length c1] 27)).alloc (.cells #[.bool nb, .slice a2 (limbs my).length c2] 27)).alloc (.cells #[.bool false, .slice none 0 0] 27) = w2 at *
        have b2 := (Below.refl w2.heap.size w2).drew
        have A2 := A1.below b2 (Nat.le_refl _)
        have C2 := C1.below b2 (Nat.le_refl _)
        have R2 := R1.below b2 (Nat.le_refl _)
        have B2 := B.trans (b2.mono B.size)
        have a0 := A2.c0
        have a1' := A2.c1
        have e0 := C2.c0
        have e1' := C2.c1
        have n1 : ¬ (w.heap.size = w.heap.size + 1 + 1) := by omega
        have n2 : ¬ (w.heap.size + 1 + 1 = w.heap.size) := by omega
        have n3 : ¬ (w.heap.size + 1 = w.heap.size + 1 + 1) := by omega
        have n4 : ¬ (w.heap.size + 1 + 1 = w.heap.size + 1) := by omega
        go_region_held (fun w' => w'.cell? ⟨w.heap.size, 0, none⟩ = some (.bool na) ∧ w'.cell? ⟨w.heap.size, 1, none⟩ = some (.slice a1 (limbs mx).length c1) ∧ w'.cell? ⟨w.heap.size + 1, 0, none⟩ = some (.bool nb) ∧ w'.cell? ⟨w.heap.size + 1, 1, none⟩ = some (.slice a2 (limbs my).length c2)) (go_keep)
          (first
            | (go_at_call 88
               refine (kl _ B2).mono ?_
               rintro e w4 ⟨v4, rfl, o4, b4⟩
               have A4 := A2.below b4 (Nat.le_refl _)
               have C4 := C2.below b4 (Nat.le_refl _)
               have R4 := R2.below b4 (Nat.le_refl _)
               have B4 := B2.trans (b4.mono B2.size)
               have a04 := A4.c0
               have a14 := A4.c1
               have e04 := C4.c0
               have e14 := C4.c1)
            | (go_at_call 83
               refine (kM v4 w4 _ o4).mono ?_
               rintro e w5 ⟨v5, rfl, o5, b5⟩
               have A5 := A4.below b5 (Nat.le_refl _)
               have C5 := C4.below b5 (Nat.le_refl _)
               have R5 := R4.below b5 (Nat.le_refl _)
               have B5 := B4.trans (b5.mono B4.size)
               have a05 := A5.c0
               have a15 := A5.c1
               have e05 := C5.c0
               have e15 := C5.c1
               obtain ⟨s5, rfl, q5⟩ := o5
               obtain ⟨ad5, cp5, rfl, -⟩ := q5.row
               have r05 := R5.c0
               have r15 := R5.c1
               have f05 := R5.f0
               have f15 := R5.f1))
        have hi1 := R2.hi
        have o6 := ownsRow_setCell_below (a := ⟨w.heap.size + 1 + 1, 0, none⟩) q5 (by exact hi1) (.bool nr)
        have o7 := ownsRow_setCell_below (a := ⟨w.heap.size + 1 + 1, 1, none⟩) o6 (by exact hi1) (.slice ad5 lr.length cp5)
        have HO : Hid (World.ownsRow _ w.heap.size 3 1 (.slice ad5 lr.length cp5) lr.length (lr.map (Value.int .i64))) := ownsRow_mono o7 B2.size
        have HB : Hid (Below w.heap.size w _) := (B5.setCell (p := ⟨w.heap.size + 1 + 1, 0, none⟩) (by show w.heap.size ≤ w.heap.size + 1 + 1; omega) (.bool nr)).setCell (p := ⟨w.heap.size + 1 + 1, 1, none⟩) (by show w.heap.size ≤ w.heap.size + 1 + 1; omega) (.slice ad5 lr.length cp5)
        clear o6 o7 q5
        go_wp2
        (try simp only [Exit.inBlock, Exit.then])
        refine bodyPost_ret (v := .agg #[.bool nr, .slice ad5 lr.length cp5]) ?_ rfl ⟨_, rfl, ⟨_, rfl, HO.out⟩, HB.out⟩
        rw [results_cell1 rfl]
        go_simp
    · have hc := cmpI_lt (Nat.lt_of_not_le hge)
      have hcb := cmpI_bd mx my
      have hlm := @limbs_len_mono (my - mx) my (by omega)
      have hlg := @limbs_len_mono mx my (by omega)
      have kl := fun W (h : Below w.heap.size w W) => sLess _ _ (limbs my) (limbs mx) W (ht'.below h (Nat.le_refl _)) (hs'.below h (Nat.le_refl _)) (limbs_inR _) (limbs_inR _) (by omega) hlg (by rw [num_limbs, num_limbs]; omega)
      simp only [num_limbs] at kl
      have kM := fun v4 w4 base (h : ownsI w4 base v4 (limbs (my - mx))) => sMake nb v4 (my - mx) base w4 h (by omega)
      have hz : (if nb = true then -((my - mx : Nat) : Int) else ((my - mx : Nat) : Int)) = x + y := by rw [HXY.out, hop]; cases na <;> simp <;> omega
      rw [hz, HM.out] at kM
      obtain ⟨c, hcc⟩ : ∃ c, cmpI mx my = c := ⟨_, rfl⟩
      rw [hcc] at kc hc hcb
      clear HXY HM kp hz hsg hop hcc
      · go_enter Try.func53, Try.ntmps53
        go_wp2_with fail
        refine (kc _ B).mono ?_
        rintro e w9 ⟨rfl, rfl⟩
        go_wp2_with fail
        generalize ((w.alloc (.cells #[.bool na, .slice a1 (limbs mx).length c1] 27)).alloc (.cells #[.bool nb, .slice a2 (limbs my).length c2] 27)).alloc (.cells #[.bool false, .slice none 0 0] 27) = w2 at *
        have b2 := (Below.refl w2.heap.size w2).drew
        have A2 := A1.below b2 (Nat.le_refl _)
        have C2 := C1.below b2 (Nat.le_refl _)
        have R2 := R1.below b2 (Nat.le_refl _)
        have B2 := B.trans (b2.mono B.size)
        have a0 := A2.c0
        have a1' := A2.c1
        have e0 := C2.c0
        have e1' := C2.c1
        have n1 : ¬ (w.heap.size = w.heap.size + 1 + 1) := by omega
        have n2 : ¬ (w.heap.size + 1 + 1 = w.heap.size) := by omega
        have n3 : ¬ (w.heap.size + 1 = w.heap.size + 1 + 1) := by omega
        have n4 : ¬ (w.heap.size + 1 + 1 = w.heap.size + 1) := by omega
        go_region_held (fun w' => w'.cell? ⟨w.heap.size, 0, none⟩ = some (.bool na) ∧ w'.cell? ⟨w.heap.size, 1, none⟩ = some (.slice a1 (limbs mx).length c1) ∧ w'.cell? ⟨w.heap.size + 1, 0, none⟩ = some (.bool nb) ∧ w'.cell? ⟨w.heap.size + 1, 1, none⟩ = some (.slice a2 (limbs my).length c2)) (go_keep)
          (first
            | (go_at_call 88
               refine (kl _ B2).mono ?_
               rintro e w4 ⟨v4, rfl, o4, b4⟩
               have A4 := A2.below b4 (Nat.le_refl _)
               have C4 := C2.below b4 (Nat.le_refl _)
               have R4 := R2.below b4 (Nat.le_refl _)
               have B4 := B2.trans (b4.mono B2.size)
               have a04 := A4.c0
               have a14 := A4.c1
               have e04 := C4.c0
               have e14 := C4.c1)
            | (go_at_call 83
               refine (kM v4 w4 _ o4).mono ?_
               rintro e w5 ⟨v5, rfl, o5, b5⟩
               have A5 := A4.below b5 (Nat.le_refl _)
               have C5 := C4.below b5 (Nat.le_refl _)
               have R5 := R4.below b5 (Nat.le_refl _)
               have B5 := B4.trans (b5.mono B4.size)
               have a05 := A5.c0
               have a15 := A5.c1
               have e05 := C5.c0
               have e15 := C5.c1
               obtain ⟨s5, rfl, q5⟩ := o5
               obtain ⟨ad5, cp5, rfl, -⟩ := q5.row
               have r05 := R5.c0
               have r15 := R5.c1
               have f05 := R5.f0
               have f15 := R5.f1))
        have hi1 := R2.hi
        have o6 := ownsRow_setCell_below (a := ⟨w.heap.size + 1 + 1, 0, none⟩) q5 (by exact hi1) (.bool nr)
        have o7 := ownsRow_setCell_below (a := ⟨w.heap.size + 1 + 1, 1, none⟩) o6 (by exact hi1) (.slice ad5 lr.length cp5)
        have HO : Hid (World.ownsRow _ w.heap.size 3 1 (.slice ad5 lr.length cp5) lr.length (lr.map (Value.int .i64))) := ownsRow_mono o7 B2.size
        have HB : Hid (Below w.heap.size w _) := (B5.setCell (p := ⟨w.heap.size + 1 + 1, 0, none⟩) (by show w.heap.size ≤ w.heap.size + 1 + 1; omega) (.bool nr)).setCell (p := ⟨w.heap.size + 1 + 1, 1, none⟩) (by show w.heap.size ≤ w.heap.size + 1 + 1; omega) (.slice ad5 lr.length cp5)
        clear o6 o7 q5
        go_wp2
        (try simp only [Exit.inBlock, Exit.then])
        refine bodyPost_ret (v := .agg #[.bool nr, .slice ad5 lr.length cp5]) ?_ rfl ⟨_, rfl, ⟨_, rfl, HO.out⟩, HB.out⟩
        rw [results_cell1 rfl]
        go_simp

end Go.Proofs.Ytlpfjpbnedankaa

/- The specification's l4Neg, by its contract. -/
namespace Go.Proofs.Ytlpfjpbnedankaa
open Go.RowKit

set_option maxRecDepth 20000 in
set_option maxHeartbeats 400000 in
theorem sWNeg (va : Value) (x : Int) (w : World) (ha : rowW w va (mkW x)) (hlx : (limbs x.natAbs).length ≤ 1048576) :
    Calls Try.prog 82 #[va] w fun e w' => ∃ v, e = .returned v ∧ ownsW w' w.heap.size v (mkW (-x)) ∧ Below w.heap.size w w' := by
  obtain ⟨s, rfl, hs⟩ := ha
  have hs' : rowI w s (limbs x.natAbs) := hs
  obtain ⟨n, hn⟩ : ∃ n, (mkW x).1 = n := ⟨_, rfl⟩
  have hz : (if (!n) = true then -(x.natAbs : Int) else (x.natAbs : Int)) = -x := by
    rw [← hn]
    unfold mkW
    by_cases h : x < 0
    · simp [h]; omega
    · simp [h]; omega
  rw [hn]
  obtain ⟨a1, c1, rfl, -⟩ := id hs'
  obtain ⟨m, hm⟩ : ∃ m, x.natAbs = m := ⟨_, rfl⟩
  rw [hm] at hs' hlx hz
  rw [hm]
  have HZ : Hid ((if (!n) = true then -(m : Int) else (m : Int)) = -x) := hz
  have kM := fun v4 base w4 (h : ownsI w4 base v4 (limbs m)) => sMake (!n) v4 m base w4 h (by omega)
  rw [hz] at kM
  obtain ⟨nb, lb, hm5⟩ : ∃ nb lb, mkW (-x) = (nb, lb) := ⟨_, _, rfl⟩
  rw [hm5] at kM
  rw [hm5]
  clear hs hz hn hm hm5 HZ
  -- the boxes
  have s1 : (w.alloc (.cells #[.bool n, .slice a1 (limbs m).length c1] 27)).heap.size = w.heap.size + 1 := by simp
  have A0 := BoxW.made w (.bool n) (.slice a1 (limbs m).length c1) 27
  have A1 := A0.below (below1 _ (.cells #[.bool false, .slice none 0 0] 27)) (Nat.le_refl _)
  have R1 := BoxW.made (w.alloc (.cells #[.bool n, .slice a1 (limbs m).length c1] 27)) (.bool false) (.slice none 0 0) 27
  rw [s1] at R1
  have B := below2 w (.cells #[.bool n, .slice a1 (limbs m).length c1] 27) (.cells #[.bool false, .slice none 0 0] 27)
  have hsz : ((w.alloc (.cells #[.bool n, .slice a1 (limbs m).length c1] 27)).alloc (.cells #[.bool false, .slice none 0 0] 27)).heap.size = w.heap.size + 2 := by simp
  go_enter Try.func82, Try.ntmps82
  go_wp2_with fail
  clear A0 s1
  generalize (w.alloc (.cells #[.bool n, .slice a1 (limbs m).length c1] 27)).alloc (.cells #[.bool false, .slice none 0 0] 27) = w2 at *
  have b2 := (Below.refl w2.heap.size w2).drew
  have A2 := A1.below b2 (Nat.le_refl _)
  have R2 := R1.below b2 (Nat.le_refl _)
  have B2 := B.trans (b2.mono B.size)
  have ho : ownsI (w2.alloc (.cells #[] 3)).drew w2.heap.size (.slice (some ⟨w2.heap.size, 0, none⟩) 0 0) [] := made_own w2
  have b3 : Below w2.heap.size w2 (w2.alloc (.cells #[] 3)).drew := (below1 w2 (.cells #[] 3)).drew
  have A3 := A1.below b3 (Nat.le_refl _)
  have hr3 := hs'.below (B.trans (b3.mono B.size)) (Nat.le_refl _)
  have hb3 : w2.heap.size ≤ (w2.alloc (.cells #[] 3)).drew.heap.size := b3.size
  clear hsz
  have a0 := A2.c0
  have a1' := A2.c1
  have a03 := A3.c0
  have a13 := A3.c1
  go_region_held_law (fun w' => w'.cell? ⟨w.heap.size, 0, none⟩ = some (.bool n) ∧ w'.cell? ⟨w.heap.size, 1, none⟩ = some (.slice a1 (limbs m).length c1)) (go_keep)
    (first
      | (go_at_call 83
         refine (kM v4 w2.heap.size w4 o4).mono ?_
         rintro e w5 ⟨v5, rfl, o5, b5⟩
         have A5 := A4.below b5 (Nat.le_refl _)
         have R5 := R4.below b5 (Nat.le_refl _)
         have B5 := B4.trans (b5.mono B4.size)
         have a05 := A5.c0
         have a15 := A5.c1
         obtain ⟨s5, rfl, q5⟩ := o5
         obtain ⟨ad5, cp5, rfl, -⟩ := q5.row
         have r05 := R5.c0
         have r15 := R5.c1
         have f05 := R5.f0
         have f15 := R5.f1)
      | (refine stepI_all w2 _ rfl (.tmp 6) (.tmp 8) rfl w2.heap.size _ _ [] (limbs m) rfl ho rfl hr3 b3 (by simp; omega) hb3 ?_
         intro v4 w4 o4 b4
         rw [List.nil_append] at o4
         have A4 := A1.below b4 (Nat.le_refl _)
         have R4 := R1.below b4 (Nat.le_refl _)
         have B4 := B.trans (b4.mono B.size)
         have a04 := A4.c0
         have a14 := A4.c1))
  have hi1 := R1.hi
  have o6 := ownsRow_setCell_below (a := ⟨w.heap.size + 1, 0, none⟩) q5 (by exact hi1) (.bool nb)
  have o7 := ownsRow_setCell_below (a := ⟨w.heap.size + 1, 1, none⟩) o6 (by exact hi1) (.slice ad5 lb.length cp5)
  have B7 := (B5.setCell (p := ⟨w.heap.size + 1, 0, none⟩) (by show w.heap.size ≤ w.heap.size + 1; omega) (.bool nb)).setCell (p := ⟨w.heap.size + 1, 1, none⟩) (by show w.heap.size ≤ w.heap.size + 1; omega) (.slice ad5 lb.length cp5)
  have HO : Hid (World.ownsRow _ w.heap.size 3 1 (.slice ad5 lb.length cp5) lb.length (lb.map (Value.int .i64))) := ownsRow_mono o7 (by omega)
  have HB : Hid (Below w.heap.size w _) := B7
  clear o6 o7 B7 q5
  go_wp2
  (try simp only [Exit.inBlock, Exit.then])
  refine bodyPost_ret (v := .agg #[.bool nb, .slice ad5 lb.length cp5]) ?_ rfl ⟨_, rfl, ⟨_, rfl, HO.out⟩, HB.out⟩
  rw [results_cell1 rfl]
  go_simp

end Go.Proofs.Ytlpfjpbnedankaa

/- The specification's l4Cmp, by its contract. -/
namespace Go.Proofs.Ytlpfjpbnedankaa
open Go.RowKit

def cmpZ (x y : Int) : Int := if x < y then -1 else if y < x then 1 else 0

end Go.Proofs.Ytlpfjpbnedankaa
