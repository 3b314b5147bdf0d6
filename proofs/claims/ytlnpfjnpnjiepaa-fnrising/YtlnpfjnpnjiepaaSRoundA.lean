/- The specification's l5At and RoundAt, each by its contract. -/
import Derived.Test.YtlnpfjnpnjiepaaSRoundF
namespace Go.Proofs.Ytlnpfjnpnjiepaa
open Go.RowKit
set_option linter.unusedSimpArgs false

theorem powS_len (k L : Nat) (h : k < 24 * L) : (limbs (2 ^ k)).length ≤ L := limbs_len_le _ L (by
  have e : (16777216 : Nat) ^ L = 2 ^ (24 * L) := by rw [Nat.pow_mul]
  rw [e]
  exact Nat.pow_lt_pow_right (by omega) h)
theorem natAbs_two_pow (k : Nat) : ((2 : Int) ^ k).natAbs = 2 ^ k := by rw [Int.natAbs_pow]; rfl

set_option maxRecDepth 20000 in
set_option maxHeartbeats 6400000 in
theorem sAt (va : Value) (x : Int) (k : Nat) (mode : Int) (w : World) (ha : rowW w va (mkW x)) (hlx : (limbs x.natAbs).length ≤ 200) (hk : k ≤ 600) (hm0 : 0 ≤ mode) (hm4 : mode ≤ 4) :
    Calls Try.prog 68 #[va, .int .i64 k, .int .i64 mode] w fun e w' => ∃ v, e = .returned v ∧ ownsW w' w.heap.size v (mkW (fracI x (2 ^ k) mode)) ∧ Below w.heap.size w w' := by
  have hlp : (limbs ((2 : Int) ^ k).natAbs).length ≤ 60 := by rw [natAbs_two_pow]; exact powS_len k 60 (by omega)
  have h1n : (limbs (1 : Int).natAbs).length ≤ 1 := limbs_len_le _ 1 (by decide)
  have k1 := fun W => sOne W
  have kU := fun v W (q : rowW W v (mkW 1)) => sWUp v 1 k W q (by omega) (by omega)
  rw [Int.one_mul] at kU
  have kF := fun v W (h : Below w.heap.size w W) (q : rowW W v (mkW (2 ^ k))) => sFrac va v x (2 ^ k) mode W (ha.below h (Nat.le_refl _)) q hlx (by omega) (Int.pow_pos (by omega)) hm0 hm4
  obtain ⟨s, rfl, hs⟩ := ha
  obtain ⟨a1, c1, rfl, -⟩ := id hs
  clear hs hlx hlp h1n hm0 hm4
  obtain ⟨nr, lr, hm5⟩ : ∃ nb lb, mkW (fracI x (2 ^ k) mode) = (nb, lb) := ⟨_, _, rfl⟩
  rw [hm5] at kF
  rw [hm5]
  clear hm5
  generalize mkW ((2 : Int) ^ k) = rp at *
  generalize mkW 1 = ro at *
  generalize (mkW x).1 = na at *
  generalize (mkW x).2.length = la at *
  have s1 : (w.alloc (.cells #[.bool na, .slice a1 la c1] 26)).heap.size = w.heap.size + 1 := by simp
  have A1 := (BoxW.made w (.bool na) (.slice a1 la c1) 26).below (below1 _ (.cells #[.bool false, .slice none 0 0] 26)) (Nat.le_refl _)
  have R1 := BoxW.made (w.alloc (.cells #[.bool na, .slice a1 la c1] 26)) (.bool false) (.slice none 0 0) 26
  rw [s1] at R1
  have B := below2 w (.cells #[.bool na, .slice a1 la c1] 26) (.cells #[.bool false, .slice none 0 0] 26)
  clear s1
  go_enter Try.func68, Try.ntmps68
  go_wp2_with fail
  generalize (w.alloc (.cells #[.bool na, .slice a1 la c1] 26)).alloc (.cells #[.bool false, .slice none 0 0] 26) = w2 at *
  have b2 := (Below.refl w2.heap.size w2).drew
  have A2 := A1.below b2 (Nat.le_refl _)
  have R2 := R1.below b2 (Nat.le_refl _)
  have B2 := B.trans (b2.mono B.size)
  have a02 := A2.c0
  have a12 := A2.c1
  have n1 : ¬ (w.heap.size = w.heap.size + 1) := by omega
  have n2 : ¬ (w.heap.size + 1 = w.heap.size) := by omega
  go_region_held (fun w' => w'.cell? ⟨w.heap.size, 0, none⟩ = some (.bool na) ∧ w'.cell? ⟨w.heap.size, 1, none⟩ = some (.slice a1 la c1)) (go_keep)
    (first
      | (go_at_call 101
         refine (k1 _).mono ?_
         rintro e w4 ⟨v4, rfl, o4, b4⟩
         have A4 := A2.below b4 (Nat.le_refl _)
         have R4 := R2.below b4 (Nat.le_refl _)
         have B4 := B2.trans (b4.mono B2.size)
         have a04 := A4.c0
         have a14 := A4.c1)
      | (go_at_call 89
         refine (kU v4 w4 o4.row).mono ?_
         rintro e w5 ⟨v5, rfl, o5, b5⟩
         have A5 := A4.below b5 (Nat.le_refl _)
         have R5 := R4.below b5 (Nat.le_refl _)
         have B5 := B4.trans (b5.mono B4.size)
         have a05 := A5.c0
         have a15 := A5.c1)
      | (go_at_call 65
         refine (kF v5 w5 B5 o5.row).mono ?_
         rintro e w6 ⟨v6, rfl, o6, b6⟩
         have A6 := A5.below b6 (Nat.le_refl _)
         have R6 := R5.below b6 (Nat.le_refl _)
         have B6 := B5.trans (b6.mono B5.size)
         have a06 := A6.c0
         have a16 := A6.c1
         obtain ⟨s6, rfl, q6⟩ := o6
         obtain ⟨ad6, cp6, rfl, -⟩ := q6.row
         have r06 := R6.c0
         have r16 := R6.c1
         have f06 := R6.f0
         have f16 := R6.f1))
  have hi1 : w.heap.size + 1 < w5.heap.size := R5.hi
  have o8 := ownsRow_setCell_below (a := ⟨w.heap.size + 1, 0, none⟩) q6 (by exact hi1) (.bool nr)
  have o9 := ownsRow_setCell_below (a := ⟨w.heap.size + 1, 1, none⟩) o8 (by exact hi1) (.slice ad6 lr.length cp6)
  have HO : Hid (World.ownsRow _ w.heap.size 3 1 (.slice ad6 lr.length cp6) lr.length (lr.map (Value.int .i64))) := ownsRow_mono o9 B5.size
  have HB : Hid (Below w.heap.size w _) := (B6.setCell (p := ⟨w.heap.size + 1, 0, none⟩) (by show w.heap.size ≤ w.heap.size + 1; omega) (.bool nr)).setCell (p := ⟨w.heap.size + 1, 1, none⟩) (by show w.heap.size ≤ w.heap.size + 1; omega) (.slice ad6 lr.length cp6)
  clear o8 o9 q6
  go_wp2
  (try simp only [Exit.inBlock, Exit.then])
  refine bodyPost_ret (v := .agg #[.bool nr, .slice ad6 lr.length cp6]) ?_ rfl ⟨_, rfl, ⟨_, rfl, HO.out⟩, HB.out⟩
  rw [results_cell1 rfl]
  go_simp

set_option maxRecDepth 20000 in
set_option maxHeartbeats 6400000 in
theorem sRoundAt (va : Value) (a : Wh) (k mode : Int) (w : World) (ha : rowW w va a) (hla : a.2.length ≤ 1048576) :
    Calls Try.prog 31 #[va, .int .i64 k, .int .i64 mode] w fun e w' => ∃ v, e = .returned (.tuple #[v, .bool (ratR a k mode).2]) ∧ ownsW w' w.heap.size v (ratR a k mode).1 ∧ Below w.heap.size w w' := by
  have kA := fun W (h : Below w.heap.size w W) => sWholeOk va a W (ha.below h (Nat.le_refl _)) hla
  have kF : okW a = true → 0 ≤ k → k ≤ 600 → 0 ≤ mode → mode ≤ 4 → ∀ W, Below w.heap.size w W → Calls Try.prog 68 #[va, .int .i64 k, .int .i64 mode] W fun e w' => ∃ v, e = .returned v ∧ ownsW w' W.heap.size v (mkW (fracI (valW a) (2 ^ k.toNat) mode)) ∧ Below W.heap.size W w' := by
    intro h1 h2 h3 h4 h5 W h
    have l1 := valW_lenS h1
    obtain ⟨j, rfl⟩ : ∃ j : Nat, k = (j : Int) := ⟨k.toNat, by omega⟩
    rw [Int.toNat_natCast]
    exact sAt va (valW a) j mode W (by rw [← mkW_of h1]; exact ha.below h (Nat.le_refl _)) (by omega) (by omega) h4 h5
  have kf := fun v base W (h : ownsW W base v (mkW (fracI (valW a) (2 ^ k.toNat) mode))) => sWFits v (fracI (valW a) (2 ^ k.toNat) mode) base W h
  have HX : Hid (¬ (okW a = true ∧ 0 ≤ k ∧ k ≤ 600 ∧ 0 ≤ mode ∧ mode ≤ 4) → ratR a k mode = ((false, []), false)) := fun h => by rw [ratR, if_neg h]
  have HY : Hid (okW a = true ∧ 0 ≤ k ∧ k ≤ 600 ∧ 0 ≤ mode ∧ mode ≤ 4 → ratR a k mode = fitW (fracI (valW a) (2 ^ k.toNat) mode)) := fun h => by rw [ratR, if_pos h]
  have HV : Hid (okW a = true → a.1 = decide (valW a < 0)) := fun h => (okW_val h).1
  generalize fitW (fracI (valW a) (2 ^ k.toNat) mode) = fw at *
  generalize ratR a k mode = rf at *
  generalize mkW (fracI (valW a) (2 ^ k.toNat) mode) = fz at *
  obtain ⟨s, rfl, hs⟩ := ha
  obtain ⟨a1, c1, rfl, -⟩ := hs
  have s1 : (w.alloc (.cells #[.bool a.1, .slice a1 a.2.length c1] 26)).heap.size = w.heap.size + 1 := by simp
  have A0 := (BoxW.made w (.bool a.1) (.slice a1 a.2.length c1) 26).below (below1 _ (.cells #[.bool false, .slice none 0 0] 26)) (Nat.le_refl _)
  have R0 := BoxW.made (w.alloc (.cells #[.bool a.1, .slice a1 a.2.length c1] 26)) (.bool false) (.slice none 0 0) 26
  rw [s1] at R0
  have B0 := below2 w (.cells #[.bool a.1, .slice a1 a.2.length c1] 26) (.cells #[.bool false, .slice none 0 0] 26)
  clear s1
  obtain ⟨oa, hoa⟩ : ∃ x, okW a = x := ⟨_, rfl⟩
  rw [hoa] at kA kF HX HY HV
  clear hoa
  cases oa
  · have HR : Hid (rf = ((false, []), false)) := HX.out (by simp)
    clear kF kf HX HY HV
    go_enter Try.func31, Try.ntmps31
    go_wp2_with fail
    refine (kA _ B0).mono ?_
    generalize (w.alloc (.cells #[.bool a.1, .slice a1 a.2.length c1] 26)).alloc (.cells #[.bool false, .slice none 0 0] 26) = w0 at *
    rintro e w1 ⟨rfl, b1⟩
    have R1 := R0.below b1 (Nat.le_refl _)
    have A1 := A0.below b1 (Nat.le_refl _)
    have B1 := B0.trans (b1.mono B0.size)
    have ca0 := A1.c0
    have ca1 := A1.c1
    clear R0 A0 B0 b1
    have y0 := R1.c0
    have y1 := R1.c1
    have yf0 := R1.f0
    have yf1 := R1.f1
    have HB : Hid (Below w.heap.size w ((w1.setCell ⟨w.heap.size + 1, 0, none⟩ (.bool false)).setCell ⟨w.heap.size + 1, 1, none⟩ (.slice none 0 0))) := (B1.setCell (p := ⟨w.heap.size + 1, 0, none⟩) (by show w.heap.size ≤ w.heap.size + 1; omega) (.bool false)).setCell (p := ⟨w.heap.size + 1, 1, none⟩) (by show w.heap.size ≤ w.heap.size + 1; omega) (.slice none 0 0)
    clear R1 B1 A1
    go_wp2
    (try simp only [Exit.inBlock, Exit.then])
    refine bodyPost_ret (v := .tuple #[.agg #[.bool false, .slice none 0 0], .bool false]) ?_ rfl ⟨_, by rw [HR.out], by rw [HR.out]; exact ⟨_, rfl, World.ownsRow_nil _ _ _ _⟩, HB.out⟩
    rw [results_cell_tmp rfl]
    go_simp
  have hv1 := HV.out rfl
  clear HV
  clear hv1
  by_cases hk : 0 ≤ k ∧ k ≤ 600
  · have kI := fun W => in_yes k 0 600 W hk.1 hk.2
    by_cases hm : 0 ≤ mode ∧ mode ≤ 4
    · have kM := fun W => sMode_yes mode W hm.1 hm.2
      have HR : Hid (rf = fw) := HY.out ⟨rfl, hk.1, hk.2, hm.1, hm.2⟩
      have kG := kF rfl hk.1 hk.2 hm.1 hm.2
      clear kF HX HY hm hk
      go_enter Try.func31, Try.ntmps31
      go_wp2_with fail
      refine (kA _ B0).mono ?_
      generalize (w.alloc (.cells #[.bool a.1, .slice a1 a.2.length c1] 26)).alloc (.cells #[.bool false, .slice none 0 0] 26) = w0 at *
      rintro e w1 ⟨rfl, b1⟩
      have R1 := R0.below b1 (Nat.le_refl _)
      have A1 := A0.below b1 (Nat.le_refl _)
      have B1 := B0.trans (b1.mono B0.size)
      have ca0 := A1.c0
      have ca1 := A1.c1
      clear R0 A0 B0 b1
      go_wp2_with (first | (go_at_call 53; refine (kI _).mono ?_; rintro e w1 ⟨rfl, rfl⟩) | (go_at_call 64; refine (kM _).mono ?_; rintro e w1 ⟨rfl, rfl⟩))
      refine (kG _ B1).mono ?_
      rintro e w6 ⟨v6, rfl, o6, b6⟩
      have B6 := B1.trans (b6.mono B1.size)
      have R6 := R1.below b6 (Nat.le_refl _)
      go_wp2_with fail
      refine (kf _ _ _ o6).mono ?_
      rintro e w7 ⟨v7, rfl, o7, b7⟩
      have B7 := B6.trans (b7.mono B6.size)
      have R7 := R6.below b7 (Nat.le_refl _)
      obtain ⟨⟨g3, l3⟩, ok3⟩ := fw
      obtain ⟨s3, rfl, q3⟩ := o7
      obtain ⟨ad3, cap3, rfl, -⟩ := q3.row
      have hR := R1.hi
      have d0 := R7.c0
      have d1 := R7.c1
      have f0 := R7.f0
      have f1 := R7.f1
      have o8 := ownsRow_setCell_below (a := ⟨w.heap.size + 1, 0, none⟩) q3 (by exact hR) (.bool g3)
      have o9 := ownsRow_setCell_below (a := ⟨w.heap.size + 1, 1, none⟩) o8 (by exact hR) (.slice ad3 l3.length cap3)
      have HO : Hid (World.ownsRow _ w.heap.size 3 1 (.slice ad3 l3.length cap3) l3.length (l3.map (Value.int .i64))) := ownsRow_mono o9 B1.size
      have HB : Hid (Below w.heap.size w _) := (B7.setCell (p := ⟨w.heap.size + 1, 0, none⟩) (by show w.heap.size ≤ w.heap.size + 1; omega) (.bool g3)).setCell (p := ⟨w.heap.size + 1, 1, none⟩) (by show w.heap.size ≤ w.heap.size + 1; omega) (.slice ad3 l3.length cap3)
      clear o8 o9 q3 R6 R7 B6 B7 b6 b7
      go_wp2
      (try simp only [Exit.inBlock, Exit.then])
      refine bodyPost_ret (v := .tuple #[.agg #[.bool g3, .slice ad3 l3.length cap3], .bool ok3]) ?_ rfl ⟨_, by rw [HR.out], by rw [HR.out]; exact ⟨_, rfl, HO.out⟩, HB.out⟩
      rw [results_cell_tmp rfl]
      go_simp
    · have kM := fun W => sMode_no mode W hm
      have HR : Hid (rf = ((false, []), false)) := HX.out (fun h => hm h.2.2.2)
      clear kF kf HX HY hm hk
      go_enter Try.func31, Try.ntmps31
      go_wp2_with fail
      refine (kA _ B0).mono ?_
      generalize (w.alloc (.cells #[.bool a.1, .slice a1 a.2.length c1] 26)).alloc (.cells #[.bool false, .slice none 0 0] 26) = w0 at *
      rintro e w1 ⟨rfl, b1⟩
      have R1 := R0.below b1 (Nat.le_refl _)
      have A1 := A0.below b1 (Nat.le_refl _)
      have B1 := B0.trans (b1.mono B0.size)
      have ca0 := A1.c0
      have ca1 := A1.c1
      clear R0 A0 B0 b1
      have y0 := R1.c0
      have y1 := R1.c1
      have yf0 := R1.f0
      have yf1 := R1.f1
      have HB : Hid (Below w.heap.size w ((w1.setCell ⟨w.heap.size + 1, 0, none⟩ (.bool false)).setCell ⟨w.heap.size + 1, 1, none⟩ (.slice none 0 0))) := (B1.setCell (p := ⟨w.heap.size + 1, 0, none⟩) (by show w.heap.size ≤ w.heap.size + 1; omega) (.bool false)).setCell (p := ⟨w.heap.size + 1, 1, none⟩) (by show w.heap.size ≤ w.heap.size + 1; omega) (.slice none 0 0)
      clear R1 B1 A1
      go_wp2_with (first | (go_at_call 53; refine (kI _).mono ?_; rintro e w1 ⟨rfl, rfl⟩) | (go_at_call 64; refine (kM _).mono ?_; rintro e w1 ⟨rfl, rfl⟩))
      (try simp only [Exit.inBlock, Exit.then])
      refine bodyPost_ret (v := .tuple #[.agg #[.bool false, .slice none 0 0], .bool false]) ?_ rfl ⟨_, by rw [HR.out], by rw [HR.out]; exact ⟨_, rfl, World.ownsRow_nil _ _ _ _⟩, HB.out⟩
      rw [results_cell_tmp rfl]
      go_simp
  · have kI := fun W => in_no k 0 600 W hk
    have HR : Hid (rf = ((false, []), false)) := HX.out (fun h => hk ⟨h.2.1, h.2.2.1⟩)
    clear kF kf HX HY hk
    go_enter Try.func31, Try.ntmps31
    go_wp2_with fail
    refine (kA _ B0).mono ?_
    generalize (w.alloc (.cells #[.bool a.1, .slice a1 a.2.length c1] 26)).alloc (.cells #[.bool false, .slice none 0 0] 26) = w0 at *
    rintro e w1 ⟨rfl, b1⟩
    have R1 := R0.below b1 (Nat.le_refl _)
    have A1 := A0.below b1 (Nat.le_refl _)
    have B1 := B0.trans (b1.mono B0.size)
    have ca0 := A1.c0
    have ca1 := A1.c1
    clear R0 A0 B0 b1
    have y0 := R1.c0
    have y1 := R1.c1
    have yf0 := R1.f0
    have yf1 := R1.f1
    have HB : Hid (Below w.heap.size w ((w1.setCell ⟨w.heap.size + 1, 0, none⟩ (.bool false)).setCell ⟨w.heap.size + 1, 1, none⟩ (.slice none 0 0))) := (B1.setCell (p := ⟨w.heap.size + 1, 0, none⟩) (by show w.heap.size ≤ w.heap.size + 1; omega) (.bool false)).setCell (p := ⟨w.heap.size + 1, 1, none⟩) (by show w.heap.size ≤ w.heap.size + 1; omega) (.slice none 0 0)
    clear R1 B1 A1
    go_wp2_with (first | (go_at_call 53; refine (kI _).mono ?_; rintro e w1 ⟨rfl, rfl⟩))
    (try simp only [Exit.inBlock, Exit.then])
    refine bodyPost_ret (v := .tuple #[.agg #[.bool false, .slice none 0 0], .bool false]) ?_ rfl ⟨_, by rw [HR.out], by rw [HR.out]; exact ⟨_, rfl, World.ownsRow_nil _ _ _ _⟩, HB.out⟩
    rw [results_cell_tmp rfl]
    go_simp

end Go.Proofs.Ytlnpfjnpnjiepaa
