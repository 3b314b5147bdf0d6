/- The specification's l4One, l5Odd and l5Pick, each by its contract. -/
import Derived.Test.YtmbopjjpepbgkaaWB
import Derived.Test.YtmbopjjpepbgkaaCutW
import Derived.Test.YtmbopjjpepbgkaaRoundM
import Derived.Test.YtmbopjjpepbgkaaOne
import Derived.Deep.RegionHeld
namespace Go.Proofs.Ytmbopjjpepbgkaa
open Go.RowKit
set_option linter.unusedSimpArgs false

theorem mkW_one : mkW 1 = (false, [1]) := by
  rw [mkW_pos 1 (by omega)]
  have : limbs (1 : Int).natAbs = [1] := by
    show limbs 1 = [1]
    rw [limbs_pos 1 (by omega)]
    simp [limbs_zero]
  rw [this]

set_option maxHeartbeats 1600000 in
theorem sOne (w : World) : Calls Try.prog 44 #[] w fun e w' => ∃ v, e = .returned v ∧ ownsW w' w.heap.size v (mkW 1) ∧ Below w.heap.size w w' := by
  rw [mkW_one]
  have s1 : (w.alloc (.cells #[.bool false, .slice (some ⟨w.heap.size + 1, 0, none⟩) 1 1] 24)).heap.size = w.heap.size + 1 := by simp
  have O1 := one_own (w.alloc (.cells #[.bool false, .slice (some ⟨w.heap.size + 1, 0, none⟩) 1 1] 24))
  rw [s1] at O1
  have HO : Hid (ownsI _ w.heap.size (.slice (some ⟨w.heap.size + 1, 0, none⟩) 1 1) [1]) := ownsI_mono O1 (by omega)
  have HB : Hid (Below w.heap.size w _) := below2 w (.cells #[.bool false, .slice (some ⟨w.heap.size + 1, 0, none⟩) 1 1] 24) (.cells #[.int .i64 1] 3)
  clear O1 s1
  go_enter Try.func44, Try.ntmps44
  go_wp2
  (try simp only [Exit.inBlock, Exit.then])
  refine bodyPost_ret (v := .agg #[.bool false, .slice (some ⟨w.heap.size + 1, 0, none⟩) 1 1]) ?_ rfl ⟨_, rfl, ⟨_, rfl, HO.out⟩, HB.out⟩
  rw [results_cell1 rfl]
  go_simp

theorem low_limb (m : Nat) (h : 0 < m) : (limbs m).getD 0 0 = ((m % 16777216 : Nat) : Int) := by
  rw [limbs_pos m h]
  simp
set_option maxHeartbeats 1600000 in
theorem sOdd (va : Value) (x : Int) (w : World) (ha : rowW w va (mkW x)) (hl : (limbs x.natAbs).length ≤ 1048576) :
    Calls Try.prog 88 #[va] w fun e w' => e = .returned (.bool (decide (x % 2 = 1))) ∧ Below w.heap.size w w' := by
  obtain ⟨s, rfl, hs⟩ := ha
  have hs' : rowI w s (limbs x.natAbs) := hs
  have B0 := fun c => below1 w (.cells #[.bool (mkW x).1, c] 24)
  by_cases h0 : x = 0
  · have hl0 : ((limbs x.natAbs).length : Int) = 0 := by rw [h0]; show ((limbs 0).length : Int) = 0; rw [limbs_zero]; rfl
    have hd : decide (x % 2 = 1) = false := decide_eq_false (by omega)
    rw [hd]
    obtain ⟨a1, c1, rfl, -⟩ := id hs'
    generalize (limbs x.natAbs).length = L at *
    have hl0' : ¬ ((0 : Int) < (L : Int)) := by omega
    have hl1 : decide ((0 : Int) < (L : Int)) = false := decide_eq_false hl0'
    generalize (mkW x).1 = na at *
    have B1 := B0 (.slice a1 L c1)
    clear B0 hd hs hs' h0
    go_enter Try.func88, Try.ntmps88
    go_wp2
    go_ret
    exact ⟨rfl, B1⟩
  · have hp : 0 < (limbs x.natAbs).length := by rw [limbs_pos _ (by omega)]; simp
    have hr := hs'.below (B0 s) (Nat.le_refl _)
    obtain ⟨a1, c1, rfl, -⟩ := id hs'
    obtain ⟨g, off, rfl, hc⟩ := hr.at 0 hp
    rw [low_limb _ (by omega), Nat.add_zero] at hc
    have hb1 : x.natAbs % 16777216 < 16777216 := Nat.mod_lt _ (by omega)
    obtain ⟨d, hd⟩ : ∃ d : Nat, x.natAbs % 16777216 = d := ⟨_, rfl⟩
    have e1 : decide (x % 2 = 1) = (((d : Int) % 2) == 1) := by
      by_cases h : x % 2 = 1
      · have h2 : ((d : Int) % 2 = 1) := by omega
        simp [h, h2]
      · have h2 : ¬ ((d : Int) % 2 = 1) := by omega
        simp [h, h2]
    have e2 : (d : Int).tmod 2 = (d : Int) % 2 := by rw [Int.tmod_eq_emod_of_nonneg (by omega)]
    rw [hd] at hc hb1
    rw [e1]
    clear e1 hd hs hs' hr
    generalize (limbs x.natAbs).length = L at *
    have hl0' : (0 : Int) < (L : Int) := by omega
    have hl1 : decide ((0 : Int) < (L : Int)) = true := decide_eq_true hl0'
    generalize (mkW x).1 = na at *
    have B1 := B0 (.slice (some ⟨g, off, none⟩) L c1)
    clear B0 h0
    go_enter Try.func88, Try.ntmps88
    go_wp2
    go_ret
    exact ⟨rfl, B1⟩

set_option maxRecDepth 20000 in
set_option maxHeartbeats 6400000 in
theorem sPick (va : Value) (x : Int) (whole : Bool) (half mode : Int) (base : Nat) (w : World) (ha : ownsW w base va (mkW x)) (hlx : (limbs x.natAbs).length ≤ 10000) (hm0 : 0 ≤ mode) (hm4 : mode ≤ 4) :
    Calls Try.prog 60 #[va, .bool whole, .int .i64 half, .int .i64 mode] w fun e w' => ∃ v, e = .returned v ∧ ownsW w' (min base w.heap.size) v (mkW (pickI x whole half mode)) ∧ Below w.heap.size w w' := by
  have k1 := fun W => sOne W
  have hl1 : (limbs (1 : Int).natAbs).length ≤ 1000000 := by show (limbs 1).length ≤ 1000000; have := limbs_len_le 1 1 (by decide); omega
  have kA := fun v W (h : Below w.heap.size w W) (q : rowW W v (mkW 1)) => sWAdd va v x 1 W (ha.row.below h (Nat.le_refl _)) q (by omega) hl1
  have kO := fun W (h : Below w.heap.size w W) => sOdd va x W (ha.row.below h (Nat.le_refl _)) (by omega)
  have hxn : (mkW x).1 = decide (x < 0) := rfl
  obtain ⟨pz, hpz⟩ : ∃ z, pickI x whole half mode = z := ⟨_, rfl⟩
  rw [hpz]
  obtain ⟨s, rfl, hs⟩ := ha
  have hs' : ownsI w base s (mkW x).2 := hs
  obtain ⟨a1, c1, rfl, -⟩ := id hs'.row
  obtain ⟨nx, lx, hmx⟩ : ∃ nb lb, mkW x = (nb, lb) := ⟨_, _, rfl⟩
  obtain ⟨nr, lr, hm5⟩ : ∃ nb lb, mkW (x + 1) = (nb, lb) := ⟨_, _, rfl⟩
  have hpz' : mkW pz = (nx, lx) ∨ mkW pz = (nr, lr) := by
    rw [← hpz, ← hmx, ← hm5]
    unfold pickI
    split
    · exact .inl rfl
    · split
      · exact .inr rfl
      · split
        · split
          · exact .inr rfl
          · exact .inl rfl
        · split
          · split
            · exact .inr rfl
            · exact .inl rfl
          · split
            · split
              · exact .inr rfl
              · exact .inl rfl
            · exact .inl rfl
  clear hpz'
  have hz0 : pz = x → mkW pz = (nx, lx) := fun h => by rw [h, hmx]
  have hz1 : pz = x + 1 → mkW pz = (nr, lr) := fun h => by rw [h, hm5]
  rw [hm5] at kA
  rw [hmx] at hs' hs hxn kA kO ⊢
  simp only at hxn hs' hs
  have HXN : Hid (nx = decide (x < 0)) := hxn
  clear hxn
  have s1 : (w.alloc (.cells #[.bool nx, .slice a1 lx.length c1] 24)).heap.size = w.heap.size + 1 := by simp
  have A1 := (BoxW.made w (.bool nx) (.slice a1 lx.length c1) 24).below (below1 _ (.cells #[.bool false, .slice none 0 0] 24)) (Nat.le_refl _)
  have R1 := BoxW.made (w.alloc (.cells #[.bool nx, .slice a1 lx.length c1] 24)) (.bool false) (.slice none 0 0) 24
  rw [s1] at R1
  have B := below2 w (.cells #[.bool nx, .slice a1 lx.length c1] 24) (.cells #[.bool false, .slice none 0 0] 24)
  clear s1 hmx hm5
  go_enter Try.func60, Try.ntmps60
  go_wp2_with fail
  generalize (w.alloc (.cells #[.bool nx, .slice a1 lx.length c1] 24)).alloc (.cells #[.bool false, .slice none 0 0] 24) = w2 at *
  have oAx := A1
  obtain ⟨r, hr⟩ : ∃ r : Wh, (nr, lr) = r := ⟨_, rfl⟩
  rw [hr] at kA hz1
  apply wp_cutW (r := r) (base := w2.heap.size) (W := w2)
  case hA =>
    obtain ⟨vs1, -⟩ : ∃ v : Value, v = v := ⟨undef, rfl⟩
    have C0 : Below w2.heap.size w2 w2.drew := (Below.refl w2.heap.size w2).drew
    have hC0 : w2.heap.size ≤ w2.drew.heap.size := C0.size
    have kAx := oAx.below C0 (Nat.le_refl _)
    have kAx0 := kAx.c0
    have kAx1 := kAx.c1
    have CZ : Below w2.heap.size w2 (w2.alloc (.cells #[.bool false, .slice none 0 0] 24)).drew := (below1 w2 (.cells #[.bool false, .slice none 0 0] 24)).drew
    have hCZ : w2.heap.size ≤ (w2.alloc (.cells #[.bool false, .slice none 0 0] 24)).drew.heap.size := CZ.size
    have obz := (BoxW.made w2 (.bool false) (.slice none 0 0) 24).below ((Below.refl (w2.alloc (.cells #[.bool false, .slice none 0 0] 24)).heap.size (w2.alloc (.cells #[.bool false, .slice none 0 0] 24))).drew) (Nat.le_refl _)
    have hbz : w2.heap.size < (w2.alloc (.cells #[.bool false, .slice none 0 0] 24)).drew.heap.size := obz.hi
    have kzAx := oAx.below CZ (Nat.le_refl _)
    have kzAx0 := kzAx.c0
    have kzAx1 := kzAx.c1
    have hiAx := oAx.hi
    have nzAx : ¬ (w2.heap.size = w.heap.size) := by omega
    have nyAx : ¬ (w.heap.size = w2.heap.size) := by omega
    go_region_held (fun w' => w'.cell? ⟨w.heap.size, 0, none⟩ = some (.bool nx) ∧ w'.cell? ⟨w.heap.size, 1, none⟩ = some (.slice a1 lx.length c1)) (go_keep) (first
      | (go_at_call 44
         (first
           | (refine (k1 (w2.drew)).mono ?_; rintro e wc1 ⟨vs0, rfl, os0, bb1⟩; have C1 := C0.trans (bb1.mono hC0); have hC1 := Nat.le_trans hC0 bb1.size)
           | (refine (k1 ((w2.alloc (.cells #[.bool false, .slice none 0 0] 24)).drew)).mono ?_; rintro e wc1 ⟨vs0, rfl, os0, bb1⟩; have C1 := CZ.trans (bb1.mono hCZ); have hC1 := Nat.le_trans hCZ bb1.size; have obx := obz.below bb1 (Nat.le_refl _); have hbx := Nat.lt_of_lt_of_le hbz bb1.size)
           )
         have kAx := oAx.below C1 (Nat.le_refl _)
         have kAx0 := kAx.c0
         have kAx1 := kAx.c1)
      | (go_at_call 76
         (first
           | (have qx := obx; refine (kA vs0 (wc1) (B.trans (C1.mono B.size)) os0.row).mono ?_; rintro e wc2 ⟨vF, rfl, oF, bb2⟩; have os0 := os0.below bb2 (Nat.le_refl _); have hBF := hC1; have hXF := qx.hi; have C2 := C1.trans (bb2.mono hC1); have hC2 := Nat.le_trans hC1 bb2.size; have obx := qx.below bb2 (Nat.le_refl _); clear qx)
           | (refine (kA vs0 (wc1) (B.trans (C1.mono B.size)) os0.row).mono ?_; rintro e wc2 ⟨vF, rfl, oF, bb2⟩; have os0 := os0.below bb2 (Nat.le_refl _); have hBF := hC1; have C2 := C1.trans (bb2.mono hC1); have hC2 := Nat.le_trans hC1 bb2.size)
           | (have CA := C1.alloc hC1 (.cells #[.bool false, .slice none 0 0] 24); refine (kA vs0 ((wc1.alloc (.cells #[.bool false, .slice none 0 0] 24))) (B.trans (CA.mono B.size)) (os0.below (below1 wc1 (.cells #[.bool false, .slice none 0 0] 24)) (Nat.le_refl _)).row).mono ?_; rintro e wc2 ⟨vF, rfl, oF, bb2⟩; have os0 := (os0.below (below1 wc1 (.cells #[.bool false, .slice none 0 0] 24)) (Nat.le_refl _)).below bb2 (Nat.le_refl _); have hBF : w2.heap.size ≤ (wc1.alloc (.cells #[.bool false, .slice none 0 0] 24)).heap.size := Nat.le_trans hC1 (below1 wc1 (.cells #[.bool false, .slice none 0 0] 24)).size; have hXF : wc1.heap.size < (wc1.alloc (.cells #[.bool false, .slice none 0 0] 24)).heap.size := (by simp); have C2 := CA.trans (bb2.mono (Nat.le_trans hC1 (below1 wc1 (.cells #[.bool false, .slice none 0 0] 24)).size)); have hC2 := Nat.le_trans (Nat.le_trans hC1 (below1 wc1 (.cells #[.bool false, .slice none 0 0] 24)).size) bb2.size; have obx := ((BoxW.made wc1 (.bool false) (.slice none 0 0) 24).mono hC1).below bb2 (Nat.le_refl _); have hbx : wc1.heap.size < (wc1.alloc (.cells #[.bool false, .slice none 0 0] 24)).heap.size := (by simp); have naAx : ¬ (wc1.heap.size = w.heap.size) := (by omega); have nbAx : ¬ (w.heap.size = wc1.heap.size) := (by omega))
           )
         have kAx := oAx.below C2 (Nat.le_refl _)
         have kAx0 := kAx.c0
         have kAx1 := kAx.c1
         obtain ⟨sF, rfl, hqF⟩ := id oF
         obtain ⟨ad, cp, rfl, -⟩ := hqF.row
         clear hqF
         have nuAx : ¬ (wc2.heap.size = w.heap.size) := by omega
         have nvAx : ¬ (w.heap.size = wc2.heap.size) := by omega
         (try have ox0 := obx.c0)
         (try have ox1 := obx.c1)
         (try have ox2 := obx.f0)
         (try have ox3 := obx.f1))
      )
    all_goals first
      | (have hcut := cut_old obx oF hBF hXF C2 (.bool r.1) (.slice ad r.2.length cp); exact cutM_in vs0 vs1 ad cp _ rfl hcut)
      | (have hcut := cut_new oF hBF hC2 C2 24 (.bool r.1) (.slice ad r.2.length cp); generalize wc2.heap.size = bx at *; exact cutM_in vs0 vs1 ad cp bx rfl hcut)
  intro vs0 vs1 ad2 cp2 bk w3 oN oX dX b3
  have hbk : w2.heap.size ≤ bk := oX.lo
  have hR1 := R1.hi
  have A3 := A1.below b3 (Nat.le_refl _)
  have R3 := R1.below b3 (Nat.le_refl _)
  have B3 := B.trans (b3.mono B.size)
  have X3 : ownsI w3 base (.slice a1 lx.length c1) lx := ownsI.below hs' B3 (Nat.le_refl _)
  obtain ⟨nr2, lr2⟩ := r
  simp only at oN oX dX hz1 ⊢
  have r0 := A3.c0
  have r1 := A3.c1
  have x0 := oX.c0
  have x1 := oX.c1
  have y0 := R3.c0
  have y1 := R3.c1
  have yf0 := R3.f0
  have yf1 := R3.f1
  have hne1 : ¬ (bk = w.heap.size + 1) := by omega
  have hne2 : ¬ (w.heap.size + 1 = bk) := by omega
  -- what is answered: the floor, or the next
  have HF : Hid (∀ W, Below w3.heap.size w3 W → ownsW ((W.setCell ⟨w.heap.size + 1, 0, none⟩ (.bool nx)).setCell ⟨w.heap.size + 1, 1, none⟩ (.slice a1 lx.length c1)) (min base w.heap.size) (.agg #[.bool nx, .slice a1 lx.length c1]) (nx, lx) ∧ Below w.heap.size w ((W.setCell ⟨w.heap.size + 1, 0, none⟩ (.bool nx)).setCell ⟨w.heap.size + 1, 1, none⟩ (.slice a1 lx.length c1))) := by
    intro W bW
    have B4 := B3.trans (bW.mono B3.size)
    refine ⟨⟨_, rfl, ownsI_mono ((ownsI.below X3 bW (Nat.le_refl _)).tn (tn_pair W (w.heap.size + 1) (.bool nx) (.slice a1 lx.length c1)) (fun k hk hs2 => ?_)) (Nat.min_le_left _ _)⟩, (B4.setCell (p := ⟨w.heap.size + 1, 0, none⟩) (by show w.heap.size ≤ w.heap.size + 1; omega) _).setCell (p := ⟨w.heap.size + 1, 1, none⟩) (by show w.heap.size ≤ w.heap.size + 1; omega) _⟩
    have h1 := (hs'.ltb k hk).2
    simp at hs2
    omega
  have HN : Hid (∀ W, Below w3.heap.size w3 W → ownsW ((W.setCell ⟨w.heap.size + 1, 0, none⟩ (.bool nr2)).setCell ⟨w.heap.size + 1, 1, none⟩ (.slice ad2 lr2.length cp2)) (min base w.heap.size) (.agg #[.bool nr2, .slice ad2 lr2.length cp2]) (nr2, lr2) ∧ Below w.heap.size w ((W.setCell ⟨w.heap.size + 1, 0, none⟩ (.bool nr2)).setCell ⟨w.heap.size + 1, 1, none⟩ (.slice ad2 lr2.length cp2))) := by
    intro W bW
    have B4 := B3.trans (bW.mono B3.size)
    refine ⟨ownsW_mono ((oN.below bW (Nat.le_refl _)).tn (tn_pair W (w.heap.size + 1) (.bool nr2) (.slice ad2 lr2.length cp2)) (fun k hk hs2 => ?_)) (by have := Nat.min_le_right base w.heap.size; omega), (B4.setCell (p := ⟨w.heap.size + 1, 0, none⟩) (by show w.heap.size ≤ w.heap.size + 1; omega) _).setCell (p := ⟨w.heap.size + 1, 1, none⟩) (by show w.heap.size ≤ w.heap.size + 1; omega) _⟩
    have h1 := (oN.ltb k hk).1
    simp at hs2
    omega
  clear X3 oN dX hs hs' A1 oAx R1 k1 kA b3
  cases whole
  · have hm5 : mode = 0 ∨ mode = 1 ∨ mode = 2 ∨ mode = 3 ∨ mode = 4 := by omega
    rcases hm5 with rfl | rfl | rfl | rfl | rfl
    · clear kO
      have HZ : Hid (mkW pz = (nx, lx)) := hz0 (by rw [← hpz]; simp [pickI, *])
      clear hz0 hz1 hpz A3 R3 oX
      go_wp2
      (try simp only [Exit.inBlock, Exit.then])
      refine bodyPost_ret (v := .agg #[.bool nx, .slice a1 lx.length c1]) ?_ rfl ⟨_, rfl, by rw [HZ.out]; exact (HF.out _ (Below.refl _ _)).1, (HF.out _ (Below.refl _ _)).2⟩
      rw [results_cell1 rfl]
      go_simp
    · clear kO
      have HZ : Hid (mkW pz = (nr2, lr2)) := hz1 (by rw [← hpz]; simp [pickI, *])
      clear hz0 hz1 hpz A3 R3 oX
      go_wp2
      (try simp only [Exit.inBlock, Exit.then])
      refine bodyPost_ret (v := .agg #[.bool nr2, .slice ad2 lr2.length cp2]) ?_ rfl ⟨_, rfl, by rw [HZ.out]; exact (HN.out _ (Below.refl _ _)).1, (HN.out _ (Below.refl _ _)).2⟩
      rw [results_cell1 rfl]
      go_simp
    · clear kO
      by_cases hx : x < 0
      · have hxn := HXN.out
        rw [decide_eq_true hx] at hxn
        subst hxn
        have HZ : Hid (mkW pz = (nr2, lr2)) := hz1 (by rw [← hpz]; simp [pickI, *])
        clear hz0 hz1 hpz A3 R3 oX
        go_wp2
        (try simp only [Exit.inBlock, Exit.then])
        refine bodyPost_ret (v := .agg #[.bool nr2, .slice ad2 lr2.length cp2]) ?_ rfl ⟨_, rfl, by rw [HZ.out]; exact (HN.out _ (Below.refl _ _)).1, (HN.out _ (Below.refl _ _)).2⟩
        rw [results_cell1 rfl]
        go_simp
      · have hxn := HXN.out
        rw [decide_eq_false hx] at hxn
        subst hxn
        have HZ : Hid (mkW pz = (false, lx)) := hz0 (by rw [← hpz]; simp [pickI, *])
        clear hz0 hz1 hpz A3 R3 oX
        go_wp2
        (try simp only [Exit.inBlock, Exit.then])
        refine bodyPost_ret (v := .agg #[.bool false, .slice a1 lx.length c1]) ?_ rfl ⟨_, rfl, by rw [HZ.out]; exact (HF.out _ (Below.refl _ _)).1, (HF.out _ (Below.refl _ _)).2⟩
        rw [results_cell1 rfl]
        go_simp
    · by_cases hp : 0 < half
      · have hp' : decide (0 < half) = true := decide_eq_true hp
        clear kO
        have HZ : Hid (mkW pz = (nr2, lr2)) := hz1 (by rw [← hpz]; simp [pickI, *])
        clear hz0 hz1 hpz A3 R3 oX
        go_wp2
        (try simp only [Exit.inBlock, Exit.then])
        refine bodyPost_ret (v := .agg #[.bool nr2, .slice ad2 lr2.length cp2]) ?_ rfl ⟨_, rfl, by rw [HZ.out]; exact (HN.out _ (Below.refl _ _)).1, (HN.out _ (Below.refl _ _)).2⟩
        rw [results_cell1 rfl]
        go_simp
      · have hp' : decide (0 < half) = false := decide_eq_false hp
        by_cases h0 : half = 0
        · subst h0
          by_cases hod : x % 2 = 1
          · rw [decide_eq_true hod] at kO
            have HZ : Hid (mkW pz = (nr2, lr2)) := hz1 (by rw [← hpz]; simp [pickI, *])
            clear hz0 hz1 hpz hod
            go_wp2_with (go_at_call 88; refine (kO _ B3).mono ?_; rintro e w4 ⟨rfl, b4⟩; have A4 := A3.below b4 (Nat.le_refl _); have R4 := R3.below b4 (Nat.le_refl _); have X4 := oX.below b4 (Nat.le_refl _); have r04 := A4.c0; have r14 := A4.c1; have x04 := X4.c0; have x14 := X4.c1; have y04 := R4.c0; have y14 := R4.c1; have yf04 := R4.f0; have yf14 := R4.f1)
            (try simp only [Exit.inBlock, Exit.then])
            refine bodyPost_ret (v := .agg #[.bool nr2, .slice ad2 lr2.length cp2]) ?_ rfl ⟨_, rfl, by rw [HZ.out]; exact (HN.out _ b4).1, (HN.out _ b4).2⟩
            rw [results_cell1 rfl]
            go_simp
          · rw [decide_eq_false hod] at kO
            have HZ : Hid (mkW pz = (nx, lx)) := hz0 (by rw [← hpz]; simp [pickI, *])
            clear hz0 hz1 hpz hod
            go_wp2_with (go_at_call 88; refine (kO _ B3).mono ?_; rintro e w4 ⟨rfl, b4⟩; have A4 := A3.below b4 (Nat.le_refl _); have R4 := R3.below b4 (Nat.le_refl _); have X4 := oX.below b4 (Nat.le_refl _); have r04 := A4.c0; have r14 := A4.c1; have x04 := X4.c0; have x14 := X4.c1; have y04 := R4.c0; have y14 := R4.c1; have yf04 := R4.f0; have yf14 := R4.f1)
            (try simp only [Exit.inBlock, Exit.then])
            refine bodyPost_ret (v := .agg #[.bool nx, .slice a1 lx.length c1]) ?_ rfl ⟨_, rfl, by rw [HZ.out]; exact (HF.out _ b4).1, (HF.out _ b4).2⟩
            rw [results_cell1 rfl]
            go_simp
        · have h0' : (half == 0) = false := by rw [beq_eq_false_iff_ne]; exact h0
          clear kO
          have HZ : Hid (mkW pz = (nx, lx)) := hz0 (by rw [← hpz]; simp [pickI, *])
          clear hz0 hz1 hpz A3 R3 oX
          go_wp2
          (try simp only [Exit.inBlock, Exit.then])
          refine bodyPost_ret (v := .agg #[.bool nx, .slice a1 lx.length c1]) ?_ rfl ⟨_, rfl, by rw [HZ.out]; exact (HF.out _ (Below.refl _ _)).1, (HF.out _ (Below.refl _ _)).2⟩
          rw [results_cell1 rfl]
          go_simp
    · clear kO
      by_cases hp : 0 < half
      · have hp' : decide (0 < half) = true := decide_eq_true hp
        have HZ : Hid (mkW pz = (nr2, lr2)) := hz1 (by rw [← hpz]; simp [pickI, *])
        clear hz0 hz1 hpz A3 R3 oX
        go_wp2
        (try simp only [Exit.inBlock, Exit.then])
        refine bodyPost_ret (v := .agg #[.bool nr2, .slice ad2 lr2.length cp2]) ?_ rfl ⟨_, rfl, by rw [HZ.out]; exact (HN.out _ (Below.refl _ _)).1, (HN.out _ (Below.refl _ _)).2⟩
        rw [results_cell1 rfl]
        go_simp
      · have hp' : decide (0 < half) = false := decide_eq_false hp
        by_cases h0 : half = 0
        · subst h0
          by_cases hx : x < 0
          · have hxn := HXN.out
            rw [decide_eq_true hx] at hxn
            subst hxn
            have HZ : Hid (mkW pz = (true, lx)) := hz0 (by rw [← hpz]; simp [pickI, *])
            clear hz0 hz1 hpz A3 R3 oX
            go_wp2
            (try simp only [Exit.inBlock, Exit.then])
            refine bodyPost_ret (v := .agg #[.bool true, .slice a1 lx.length c1]) ?_ rfl ⟨_, rfl, by rw [HZ.out]; exact (HF.out _ (Below.refl _ _)).1, (HF.out _ (Below.refl _ _)).2⟩
            rw [results_cell1 rfl]
            go_simp
          · have hxn := HXN.out
            rw [decide_eq_false hx] at hxn
            subst hxn
            have HZ : Hid (mkW pz = (nr2, lr2)) := hz1 (by rw [← hpz]; simp [pickI, *])
            clear hz0 hz1 hpz A3 R3 oX
            go_wp2
            (try simp only [Exit.inBlock, Exit.then])
            refine bodyPost_ret (v := .agg #[.bool nr2, .slice ad2 lr2.length cp2]) ?_ rfl ⟨_, rfl, by rw [HZ.out]; exact (HN.out _ (Below.refl _ _)).1, (HN.out _ (Below.refl _ _)).2⟩
            rw [results_cell1 rfl]
            go_simp
        · have h0' : (half == 0) = false := by rw [beq_eq_false_iff_ne]; exact h0
          have HZ : Hid (mkW pz = (nx, lx)) := hz0 (by rw [← hpz]; simp [pickI, *])
          clear hz0 hz1 hpz A3 R3 oX
          go_wp2
          (try simp only [Exit.inBlock, Exit.then])
          refine bodyPost_ret (v := .agg #[.bool nx, .slice a1 lx.length c1]) ?_ rfl ⟨_, rfl, by rw [HZ.out]; exact (HF.out _ (Below.refl _ _)).1, (HF.out _ (Below.refl _ _)).2⟩
          rw [results_cell1 rfl]
          go_simp
  · clear kO
    have HZ : Hid (mkW pz = (nx, lx)) := hz0 (by rw [← hpz]; simp [pickI, *])
    clear hz0 hz1 hpz A3 R3 oX
    go_wp2
    (try simp only [Exit.inBlock, Exit.then])
    refine bodyPost_ret (v := .agg #[.bool nx, .slice a1 lx.length c1]) ?_ rfl ⟨_, rfl, by rw [HZ.out]; exact (HF.out _ (Below.refl _ _)).1, (HF.out _ (Below.refl _ _)).2⟩
    rw [results_cell1 rfl]
    go_simp

end Go.Proofs.Ytmbopjjpepbgkaa
