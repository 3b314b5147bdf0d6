/- The program's RoundRoot, by its contract. -/
import Derived.Test.YtmjejnhbmhehdaaIRoundA
import Derived.Test.YtmjejnhbmhehdaaGRootB
namespace Go.Proofs.Ytmjejnhbmhehdaa
open Go.RowKit
set_option linter.unusedSimpArgs false

set_option maxRecDepth 20000 in
set_option maxHeartbeats 6400000 in
theorem iRoundRoot (va : Value) (a : Wh) (k mode : Int) (w : World) (ha : rowW w va a) (hla : a.2.length ≤ 1048576) :
    Calls Try.prog 34 #[va, .int .i64 k, .int .i64 mode] w fun e w' => ∃ v, e = .returned (.tuple #[v, .bool (rrootR a k mode).2]) ∧ ownsW w' w.heap.size v (rrootR a k mode).1 ∧ Below w.heap.size w w' := by
  by_cases hok : okW a = true
  · have kT := fun W (h : Below w.heap.size w W) => sFromYes va a W (ha.below h (Nat.le_refl _)) hla hok
    have l1 := valW_len hok
    by_cases hn : valW a < 0
    · have HR : Hid (rrootR a k mode = ((false, []), false)) := by show _ = _; unfold rrootR; rw [if_neg (by omega)]
      obtain ⟨rr, hr⟩ : ∃ r, rrootR a k mode = r := ⟨_, rfl⟩
      rw [hr] at HR
      rw [hr]
      clear hr
      obtain ⟨s, rfl, hs⟩ := ha
      obtain ⟨ad, cap, rfl, -⟩ := id hs
      generalize a.1 = g0 at *
      generalize a.2.length = len at *
      have B0 := below2 w (.cells #[.bool g0, .slice ad len cap] 24) (.cells #[.bool false, .slice none 0 0] 24)
      have s2 : (w.alloc (.cells #[.bool g0, .slice ad len cap] 24)).heap.size = w.heap.size + 1 := by simp
      have R0 := BoxW.made (w.alloc (.cells #[.bool g0, .slice ad len cap] 24)) (.bool false) (.slice none 0 0) 24
      rw [s2] at R0
      clear s2 hs
      go_enter Try.func34, Try.ntmps34
      go_wp2_with fail
      refine (kT _ B0).mono ?_
      generalize (w.alloc (.cells #[.bool g0, .slice ad len cap] 24)).alloc (.cells #[.bool false, .slice none 0 0] 24) = w0 at *
      rintro e w1 ⟨p, rfl, hp, sp, b1⟩
      have R1 := R0.below b1 (Nat.le_refl _)
      have B1 := B0.trans (b1.mono B0.size)
      have cp0 := sp.sign
      rw [decide_eq_true hn] at cp0
      have c0 := R1.c0
      have c1' := R1.c1
      have f0 := R1.f0
      have f1 := R1.f1
      have HB : Hid (Below w.heap.size w ((w1.setCell ⟨w.heap.size + 1, 0, none⟩ (.bool false)).setCell ⟨w.heap.size + 1, 1, none⟩ (.slice none 0 0))) := (B1.setCell (p := ⟨w.heap.size + 1, 0, none⟩) (by show w.heap.size ≤ w.heap.size + 1; omega) (.bool false)).setCell (p := ⟨w.heap.size + 1, 1, none⟩) (by show w.heap.size ≤ w.heap.size + 1; omega) (.slice none 0 0)
      clear R0 B0 b1 R1 B1 kT sp
      go_wp2
      (try simp only [Exit.inBlock, Exit.then])
      refine bodyPost_ret (v := .tuple #[.agg #[.bool false, .slice none 0 0], .bool false]) ?_ rfl ⟨_, by rw [HR.out], by rw [HR.out]; exact ⟨_, rfl, World.ownsRow_nil _ _ _ _⟩, HB.out⟩
      rw [results_cell_tmp rfl]
      go_simp
    by_cases hk1 : k < 0
    · have q1 : decide (k < 0) = true := decide_eq_true hk1
      have HR : Hid (rrootR a k mode = ((false, []), false)) := by show _ = _; unfold rrootR; rw [if_neg (by omega)]
      obtain ⟨rr, hr⟩ : ∃ r, rrootR a k mode = r := ⟨_, rfl⟩
      rw [hr] at HR
      rw [hr]
      clear hr
      obtain ⟨s, rfl, hs⟩ := ha
      obtain ⟨ad, cap, rfl, -⟩ := id hs
      generalize a.1 = g0 at *
      generalize a.2.length = len at *
      have B0 := below2 w (.cells #[.bool g0, .slice ad len cap] 24) (.cells #[.bool false, .slice none 0 0] 24)
      have s2 : (w.alloc (.cells #[.bool g0, .slice ad len cap] 24)).heap.size = w.heap.size + 1 := by simp
      have R0 := BoxW.made (w.alloc (.cells #[.bool g0, .slice ad len cap] 24)) (.bool false) (.slice none 0 0) 24
      rw [s2] at R0
      clear s2 hs
      go_enter Try.func34, Try.ntmps34
      go_wp2_with fail
      refine (kT _ B0).mono ?_
      generalize (w.alloc (.cells #[.bool g0, .slice ad len cap] 24)).alloc (.cells #[.bool false, .slice none 0 0] 24) = w0 at *
      rintro e w1 ⟨p, rfl, hp, sp, b1⟩
      have R1 := R0.below b1 (Nat.le_refl _)
      have B1 := B0.trans (b1.mono B0.size)
      have cp0 := sp.sign
      rw [decide_eq_false (show ¬ valW a < 0 by omega)] at cp0
      have c0 := R1.c0
      have c1' := R1.c1
      have f0 := R1.f0
      have f1 := R1.f1
      have HB : Hid (Below w.heap.size w ((w1.setCell ⟨w.heap.size + 1, 0, none⟩ (.bool false)).setCell ⟨w.heap.size + 1, 1, none⟩ (.slice none 0 0))) := (B1.setCell (p := ⟨w.heap.size + 1, 0, none⟩) (by show w.heap.size ≤ w.heap.size + 1; omega) (.bool false)).setCell (p := ⟨w.heap.size + 1, 1, none⟩) (by show w.heap.size ≤ w.heap.size + 1; omega) (.slice none 0 0)
      clear R0 B0 b1 R1 B1 kT sp
      go_wp2
      (try simp only [Exit.inBlock, Exit.then])
      refine bodyPost_ret (v := .tuple #[.agg #[.bool false, .slice none 0 0], .bool false]) ?_ rfl ⟨_, by rw [HR.out], by rw [HR.out]; exact ⟨_, rfl, World.ownsRow_nil _ _ _ _⟩, HB.out⟩
      rw [results_cell_tmp rfl]
      go_simp
    have q1 : decide (k < 0) = false := decide_eq_false hk1
    by_cases hk2 : 600 < k
    · have q2 : decide (600 < k) = true := decide_eq_true hk2
      have HR : Hid (rrootR a k mode = ((false, []), false)) := by show _ = _; unfold rrootR; rw [if_neg (by omega)]
      obtain ⟨rr, hr⟩ : ∃ r, rrootR a k mode = r := ⟨_, rfl⟩
      rw [hr] at HR
      rw [hr]
      clear hr
      obtain ⟨s, rfl, hs⟩ := ha
      obtain ⟨ad, cap, rfl, -⟩ := id hs
      generalize a.1 = g0 at *
      generalize a.2.length = len at *
      have B0 := below2 w (.cells #[.bool g0, .slice ad len cap] 24) (.cells #[.bool false, .slice none 0 0] 24)
      have s2 : (w.alloc (.cells #[.bool g0, .slice ad len cap] 24)).heap.size = w.heap.size + 1 := by simp
      have R0 := BoxW.made (w.alloc (.cells #[.bool g0, .slice ad len cap] 24)) (.bool false) (.slice none 0 0) 24
      rw [s2] at R0
      clear s2 hs
      go_enter Try.func34, Try.ntmps34
      go_wp2_with fail
      refine (kT _ B0).mono ?_
      generalize (w.alloc (.cells #[.bool g0, .slice ad len cap] 24)).alloc (.cells #[.bool false, .slice none 0 0] 24) = w0 at *
      rintro e w1 ⟨p, rfl, hp, sp, b1⟩
      have R1 := R0.below b1 (Nat.le_refl _)
      have B1 := B0.trans (b1.mono B0.size)
      have cp0 := sp.sign
      rw [decide_eq_false (show ¬ valW a < 0 by omega)] at cp0
      have c0 := R1.c0
      have c1' := R1.c1
      have f0 := R1.f0
      have f1 := R1.f1
      have HB : Hid (Below w.heap.size w ((w1.setCell ⟨w.heap.size + 1, 0, none⟩ (.bool false)).setCell ⟨w.heap.size + 1, 1, none⟩ (.slice none 0 0))) := (B1.setCell (p := ⟨w.heap.size + 1, 0, none⟩) (by show w.heap.size ≤ w.heap.size + 1; omega) (.bool false)).setCell (p := ⟨w.heap.size + 1, 1, none⟩) (by show w.heap.size ≤ w.heap.size + 1; omega) (.slice none 0 0)
      clear R0 B0 b1 R1 B1 kT sp
      go_wp2
      (try simp only [Exit.inBlock, Exit.then])
      refine bodyPost_ret (v := .tuple #[.agg #[.bool false, .slice none 0 0], .bool false]) ?_ rfl ⟨_, by rw [HR.out], by rw [HR.out]; exact ⟨_, rfl, World.ownsRow_nil _ _ _ _⟩, HB.out⟩
      rw [results_cell_tmp rfl]
      go_simp
    have q2 : decide (600 < k) = false := decide_eq_false hk2
    by_cases hm : 0 ≤ mode ∧ mode ≤ 4
    · have kM := fun W => modeOk_yes mode W hm.1 hm.2
      have HR : Hid (rrootR a k mode = fitW (rootI (valW a) k.toNat mode)) := by show _ = _; unfold rrootR; rw [if_pos ⟨hok, by omega, by omega, by omega, hm.1, hm.2⟩]
      obtain ⟨j, rfl⟩ : ∃ j : Nat, k = (j : Int) := ⟨k.toNat, by omega⟩
      rw [Int.toNat_natCast] at HR
      have kF := fun p W (h1 : GA W p 1 (valW a).natAbs) => bRoot p 1 (valW a).natAbs j W (by omega) (by omega) h1
      have hfr := root_round (valW a) j mode hm.1 hm.2
      have hlq : (limbs (isqrt ((valW a).natAbs * 4 / 2 ^ j) / 2)).length ≤ 97 := by
        obtain ⟨i1, i2⟩ := isqrt_spec ((valW a).natAbs * 4 / 2 ^ j)
        have h5 : (limbs ((valW a).natAbs * 4)).length ≤ 49 := by
          have := mul_limbs_len (valW a).natAbs 4
          have h4 : (limbs 4).length ≤ 1 := limbs_len_le _ 1 (by decide)
          omega
        refine Nat.le_trans (limbs_mono (m := (valW a).natAbs * 4) ?_) (by omega)
        have h6 := Nat.div_le_self ((valW a).natAbs * 4) (2 ^ j)
        have h7 := Nat.le_mul_self (isqrt ((valW a).natAbs * 4 / 2 ^ j))
        omega
      have kR := fun W => bRounded (isqrt ((valW a).natAbs * 4 / 2 ^ j) / 2) (rootWh (valW a).natAbs j) (rootHf (valW a).natAbs j) mode false W hlq hm.1 hm.2
      simp only [Bool.false_eq_true, if_false] at kR
      rw [← hfr] at kR
      have kW := fun b' W h => sWhole b' (rootI (valW a) j mode) W h
      clear hfr hok hm l1 hlq
      obtain ⟨rr, hr⟩ : ∃ r, rrootR a (j : Int) mode = r := ⟨_, rfl⟩
      rw [hr] at HR
      rw [hr]
      clear hr
      generalize fitW (rootI (valW a) j mode) = fw at *
      generalize rootI (valW a) j mode = z at *
      generalize rootWh (valW a).natAbs j = wh at *
      generalize rootHf (valW a).natAbs j = cm at *
      generalize isqrt ((valW a).natAbs * 4 / 2 ^ j) / 2 = qq at *
      obtain ⟨s, rfl, hs⟩ := ha
      obtain ⟨ad, cap, rfl, -⟩ := id hs
      generalize a.1 = g0 at *
      generalize a.2.length = len at *
      have B0 := below2 w (.cells #[.bool g0, .slice ad len cap] 24) (.cells #[.bool false, .slice none 0 0] 24)
      have s2 : (w.alloc (.cells #[.bool g0, .slice ad len cap] 24)).heap.size = w.heap.size + 1 := by simp
      have R0 := BoxW.made (w.alloc (.cells #[.bool g0, .slice ad len cap] 24)) (.bool false) (.slice none 0 0) 24
      rw [s2] at R0
      clear s2 hs
      go_enter Try.func34, Try.ntmps34
      go_wp2_with fail
      refine (kT _ B0).mono ?_
      generalize (w.alloc (.cells #[.bool g0, .slice ad len cap] 24)).alloc (.cells #[.bool false, .slice none 0 0] 24) = w0 at *
      rintro e w1 ⟨p, rfl, hp, sp, b1⟩
      have R1 := R0.below b1 (Nat.le_refl _)
      have B1 := B0.trans (b1.mono B0.size)
      have cp0 := sp.sign
      rw [decide_eq_false (show ¬ valW a < 0 by omega)] at cp0
      clear kT
      go_wp2_with (first | (go_at_call 60; refine (kM _).mono ?_; rintro e w1 ⟨rfl, rfl⟩))
      refine (kF p _ sp.mag).mono ?_
      rintro e w2 ⟨rfl, b2⟩
      have R2 := R1.below b2 (Nat.le_refl _)
      have B2 := B1.trans (b2.mono B1.size)
      go_wp2_with fail
      refine (kR _).mono ?_
      rintro e w3 ⟨c, rfl, hc, sc, b3⟩
      have R3 := R2.below b3 (Nat.le_refl _)
      have B3 := B2.trans (b3.mono B2.size)
      go_wp2_with fail
      refine (kW c _ sc).mono ?_
      rintro e w4 ⟨v3, rfl, o3, b4⟩
      have R4 := R3.below b4 (Nat.le_refl _)
      have B4 := B3.trans (b4.mono B3.size)
      obtain ⟨⟨g3, l3⟩, ok3⟩ := fw
      obtain ⟨s3, rfl, q3⟩ := o3
      obtain ⟨ad3, cap3, rfl, -⟩ := q3.row
      have hR := R3.hi
      have d0 := R4.c0
      have d1 := R4.c1
      have f0 := R4.f0
      have f1 := R4.f1
      have o6 := ownsRow_setCell_below (a := ⟨w.heap.size + 1, 0, none⟩) q3 (by exact hR) (.bool g3)
      have o7 := ownsRow_setCell_below (a := ⟨w.heap.size + 1, 1, none⟩) o6 (by exact hR) (.slice ad3 l3.length cap3)
      have HO : Hid (World.ownsRow _ w.heap.size 3 1 (.slice ad3 l3.length cap3) l3.length (l3.map (Value.int .i64))) := ownsRow_mono o7 B3.size
      have HB : Hid (Below w.heap.size w _) := (B4.setCell (p := ⟨w.heap.size + 1, 0, none⟩) (by show w.heap.size ≤ w.heap.size + 1; omega) (.bool g3)).setCell (p := ⟨w.heap.size + 1, 1, none⟩) (by show w.heap.size ≤ w.heap.size + 1; omega) (.slice ad3 l3.length cap3)
      clear o6 o7 R0 R1 R2 R3 R4 B0 B1 B2 B3 B4 b1 b2 b3 b4 kM kF kR kW sp sc q3
      go_wp2
      (try simp only [Exit.inBlock, Exit.then])
      refine bodyPost_ret (v := .tuple #[.agg #[.bool g3, .slice ad3 l3.length cap3], .bool ok3]) ?_ rfl ⟨_, by rw [HR.out], by rw [HR.out]; exact ⟨_, rfl, HO.out⟩, HB.out⟩
      rw [results_cell_tmp rfl]
      go_simp
    · have kM := fun W => modeOk_no mode W hm
      have HR : Hid (rrootR a k mode = ((false, []), false)) := by show _ = _; unfold rrootR; rw [if_neg (fun h => hm h.2.2.2.2)]
      clear hm
      obtain ⟨rr, hr⟩ : ∃ r, rrootR a k mode = r := ⟨_, rfl⟩
      rw [hr] at HR
      rw [hr]
      clear hr
      obtain ⟨s, rfl, hs⟩ := ha
      obtain ⟨ad, cap, rfl, -⟩ := id hs
      generalize a.1 = g0 at *
      generalize a.2.length = len at *
      have B0 := below2 w (.cells #[.bool g0, .slice ad len cap] 24) (.cells #[.bool false, .slice none 0 0] 24)
      have s2 : (w.alloc (.cells #[.bool g0, .slice ad len cap] 24)).heap.size = w.heap.size + 1 := by simp
      have R0 := BoxW.made (w.alloc (.cells #[.bool g0, .slice ad len cap] 24)) (.bool false) (.slice none 0 0) 24
      rw [s2] at R0
      clear s2 hs
      go_enter Try.func34, Try.ntmps34
      go_wp2_with fail
      refine (kT _ B0).mono ?_
      generalize (w.alloc (.cells #[.bool g0, .slice ad len cap] 24)).alloc (.cells #[.bool false, .slice none 0 0] 24) = w0 at *
      rintro e w1 ⟨p, rfl, hp, sp, b1⟩
      have R1 := R0.below b1 (Nat.le_refl _)
      have B1 := B0.trans (b1.mono B0.size)
      have cp0 := sp.sign
      rw [decide_eq_false (show ¬ valW a < 0 by omega)] at cp0
      have c0 := R1.c0
      have c1' := R1.c1
      have f0 := R1.f0
      have f1 := R1.f1
      have HB : Hid (Below w.heap.size w ((w1.setCell ⟨w.heap.size + 1, 0, none⟩ (.bool false)).setCell ⟨w.heap.size + 1, 1, none⟩ (.slice none 0 0))) := (B1.setCell (p := ⟨w.heap.size + 1, 0, none⟩) (by show w.heap.size ≤ w.heap.size + 1; omega) (.bool false)).setCell (p := ⟨w.heap.size + 1, 1, none⟩) (by show w.heap.size ≤ w.heap.size + 1; omega) (.slice none 0 0)
      clear R0 B0 b1 R1 B1 kT sp
      go_wp2_with (first | (go_at_call 60; refine (kM _).mono ?_; rintro e w1 ⟨rfl, rfl⟩))
      (try simp only [Exit.inBlock, Exit.then])
      refine bodyPost_ret (v := .tuple #[.agg #[.bool false, .slice none 0 0], .bool false]) ?_ rfl ⟨_, by rw [HR.out], by rw [HR.out]; exact ⟨_, rfl, World.ownsRow_nil _ _ _ _⟩, HB.out⟩
      rw [results_cell_tmp rfl]
      go_simp
  · have hf : okW a = false := by simpa using hok
    have kT := fun W (h : Below w.heap.size w W) => sFromNo va a W (ha.below h (Nat.le_refl _)) hla hf
    have HR : Hid (rrootR a k mode = ((false, []), false)) := by show _ = _; unfold rrootR; rw [if_neg (fun q => hok q.1)]
    clear hok hf
    obtain ⟨rr, hr⟩ : ∃ r, rrootR a k mode = r := ⟨_, rfl⟩
    rw [hr] at HR
    rw [hr]
    clear hr
    obtain ⟨s, rfl, hs⟩ := ha
    obtain ⟨ad, cap, rfl, -⟩ := id hs
    generalize a.1 = g0 at *
    generalize a.2.length = len at *
    have B0 := below2 w (.cells #[.bool g0, .slice ad len cap] 24) (.cells #[.bool false, .slice none 0 0] 24)
    have s2 : (w.alloc (.cells #[.bool g0, .slice ad len cap] 24)).heap.size = w.heap.size + 1 := by simp
    have R0 := BoxW.made (w.alloc (.cells #[.bool g0, .slice ad len cap] 24)) (.bool false) (.slice none 0 0) 24
    rw [s2] at R0
    clear s2 hs
    go_enter Try.func34, Try.ntmps34
    go_wp2_with fail
    refine (kT _ B0).mono ?_
    generalize (w.alloc (.cells #[.bool g0, .slice ad len cap] 24)).alloc (.cells #[.bool false, .slice none 0 0] 24) = w0 at *
    rintro e w1 ⟨rfl, b1⟩
    have R1 := R0.below b1 (Nat.le_refl _)
    have B1 := B0.trans (b1.mono B0.size)
    have c0 := R1.c0
    have c1' := R1.c1
    have f0 := R1.f0
    have f1 := R1.f1
    have HB : Hid (Below w.heap.size w ((w1.setCell ⟨w.heap.size + 1, 0, none⟩ (.bool false)).setCell ⟨w.heap.size + 1, 1, none⟩ (.slice none 0 0))) := (B1.setCell (p := ⟨w.heap.size + 1, 0, none⟩) (by show w.heap.size ≤ w.heap.size + 1; omega) (.bool false)).setCell (p := ⟨w.heap.size + 1, 1, none⟩) (by show w.heap.size ≤ w.heap.size + 1; omega) (.slice none 0 0)
    clear R0 B0 b1 R1 B1 kT
    go_wp2
    (try simp only [Exit.inBlock, Exit.then])
    refine bodyPost_ret (v := .tuple #[.agg #[.bool false, .slice none 0 0], .bool false]) ?_ rfl ⟨_, by rw [HR.out], by rw [HR.out]; exact ⟨_, rfl, World.ownsRow_nil _ _ _ _⟩, HB.out⟩
    rw [results_cell_tmp rfl]
    go_simp

end Go.Proofs.Ytmjejnhbmhehdaa
