/- The squared gain and the gain of the program, each by its contract. -/
import Derived.Test.YtmbopjjpepbgkaaGsqS
import Derived.Test.YtmbopjjpepbgkaaSpans
import Derived.Test.YtmbopjjpepbgkaaSgShift
namespace Go.Proofs.Ytmbopjjpepbgkaa
open Go.RowKit
set_option linter.unusedSimpArgs false

theorem turnsAt (n : Int) (w : World) : Calls Try.prog 23 #[.int .i64 n] w fun e w' => e = .returned (.bool (decide (0 ≤ n ∧ n ≤ 200))) ∧ w' = w := by
  by_cases h1 : 0 ≤ n
  · by_cases h2 : n ≤ 200
    · rw [decide_eq_true ⟨h1, h2⟩]
      go_enter Try.func23, Try.ntmps23
      go_wp2
      go_ret
      exact ⟨rfl, rfl⟩
    · rw [decide_eq_false (by omega)]
      have h3 : decide (n ≤ 200) = false := decide_eq_false h2
      clear h2
      go_enter Try.func23, Try.ntmps23
      go_wp2
      go_ret
      exact ⟨rfl, rfl⟩
  · rw [decide_eq_false (by omega)]
    have h3 : decide (0 ≤ n) = false := decide_eq_false h1
    clear h1
    go_enter Try.func23, Try.ntmps23
    go_wp2
    go_ret
    exact ⟨rfl, rfl⟩

theorem constAt (p : Int) (w : World) : Calls Try.prog 24 #[.int .i64 p] w fun e w' => e = .returned (.bool (decide (1 ≤ p ∧ p ≤ 464))) ∧ w' = w := by
  by_cases h1 : 1 ≤ p
  · by_cases h2 : p ≤ 464
    · rw [decide_eq_true ⟨h1, h2⟩]
      go_enter Try.func24, Try.ntmps24
      go_wp2
      go_ret
      exact ⟨rfl, rfl⟩
    · rw [decide_eq_false (by omega)]
      have h3 : decide (p ≤ 464) = false := decide_eq_false h2
      clear h2
      go_enter Try.func24, Try.ntmps24
      go_wp2
      go_ret
      exact ⟨rfl, rfl⟩
  · rw [decide_eq_false (by omega)]
    have h3 : decide (1 ≤ p) = false := decide_eq_false h1
    clear h1
    go_enter Try.func24, Try.ntmps24
    go_wp2
    go_ret
    exact ⟨rfl, rfl⟩

theorem sg_ne {w : World} {c b : Nat} {x : Int} {v : Option Addr} (h : SG w c x) (hb : w.cell? ⟨b, 0, none⟩ = some (.pointer v)) : c ≠ b := fun e => by
  have h1 := h.sign
  rw [e, hb] at h1
  cases h1
set_option maxRecDepth 20000 in
set_option maxHeartbeats 6400000 in
theorem iGsq (n p : Nat) (w : World) (hn : n ≤ 200) (hp : p ≤ 480) :
    Calls Try.prog 26 #[.int .i64 (n : Int), .int .i64 (p : Int)] w (spanE (gsq p n).1 (gsq p n).2 w) := by
  unfold spanE
  have R := BoxW.made w (.pointer none) (.pointer none) 46
  have B := below1 w (.cells #[.pointer none, .pointer none] 46)
  have l1 : (limbs (1 : Int).natAbs).length ≤ 1 := by rw [show (1 : Int).natAbs = 1 from rfl]; exact limbs_len_le 1 1 (by omega)
  have l0 := gsq_len p 0 (by omega)
  have kU := fun b W (h : SG W b 1) => sgUp b 1 p W h (by omega) (by omega)
  rw [Int.one_mul] at kU
  go_enter Try.func26, Try.ntmps26
  go_wp2_with fail
  refine (sOf 1 _ (by omega) (by omega)).mono ?_
  generalize w.alloc (.cells #[.pointer none, .pointer none] 46) = w0 at *
  rintro e w1 ⟨b, rfl, hb, sb, b1⟩
  replace R := R.below b1 (Nat.le_refl _)
  replace B := B.trans (b1.mono B.size)
  clear b1
  go_wp2_with fail
  refine (kU b _ sb).mono ?_
  rintro e w2 ⟨c, rfl, hc, sc, b2⟩
  replace R := R.below b2 (Nat.le_refl _)
  replace B := B.trans (b2.mono B.size)
  clear b2
  clear sb kU
  go_wp2_with fail
  refine (alone_c c _ _ sc).mono ?_
  rintro e w3 ⟨c1, d1, rfl, sc1, sd1, b3⟩
  replace R := R.below b3 (Nat.le_refl _)
  replace B := B.trans (b3.mono B.size)
  clear b3
  clear sc
  have E := BoxW.made w3 (.pointer (some ⟨c1, 0, none⟩)) (.pointer (some ⟨d1, 0, none⟩)) 46
  have bE := below1 w3 (.cells #[.pointer (some ⟨c1, 0, none⟩), .pointer (some ⟨d1, 0, none⟩)] 46)
  have hE3 := R.hi
  replace sc1 := sc1.below bE sc1.lt
  replace sd1 := sd1.below bE sd1.lt
  replace R := R.below bE (Nat.le_refl _)
  replace B := B.trans (bE.mono B.size)
  clear bE
  go_wp2
  generalize w3.alloc (.cells #[.pointer (some ⟨c1, 0, none⟩), .pointer (some ⟨d1, 0, none⟩)] 46) = w4 at *
  obtain ⟨eb, heb⟩ : ∃ b, w3.heap.size = b := ⟨_, rfl⟩
  rw [heb] at E hE3
  (try rw [heb])
  clear heb
  go_loopw [6] (fun i wr => ∃ k c d : Nat, k ≤ n ∧ i = .int .i64 k ∧ BoxW wr eb eb (.pointer (some ⟨c, 0, none⟩)) (.pointer (some ⟨d, 0, none⟩)) ∧ SG wr c (gsq p k).1 ∧ SG wr d (gsq p k).2 ∧ BoxW wr w.heap.size w.heap.size (.pointer none) (.pointer none) ∧ Below w.heap.size w wr) (fun i _ => n - (intOf i).toNat)
  case atStart => exact ⟨0, c1, d1, Nat.zero_le _, rfl, E, sc1, sd1, R, B⟩
  case round =>
    clear E sc1 sd1 R B
    obtain ⟨k, c, d, hk, rfl, E, sc, sd, R, B⟩ := hrel
    by_cases hlt : k < n
    · have hlt' : (k : Int) < (n : Int) := by omega
      have gl := gsq_len p k (by omega)
      have gp := gsq_part p k (by omega)
      obtain ⟨X, hX⟩ : ∃ X, (gsq p k).1 = X := ⟨_, rfl⟩
      obtain ⟨Y, hY⟩ : ∃ Y, (gsq p k).2 = Y := ⟨_, rfl⟩
      have H1 : Hid ((gsq p (k + 1)).1 = X + X / 2 ^ (2 * k)) := by show _ = _; rw [← hX]; rfl
      have H2 : Hid ((gsq p (k + 1)).2 = Y + -(-Y / 2 ^ (2 * k))) := by show _ = _; rw [← hY]; rfl
      rw [hX] at gl gp sc
      rw [hY] at gl gp sd
      clear hX hY
      have kM := fun W h1 h2 => movedSpan_c c d X Y (2 * (k : Int)) 0 W h1 h2 (by omega) (by omega) (by omega) (by omega)
      rw [show 0 - 2 * (k : Int) = -((2 * k : Nat) : Int) by omega, mvLo_down, mvHi_down] at kM
      have kA := fun c2 d2 W h1 h2 h3 h4 => addSpans_c c d c2 d2 X Y (X / 2 ^ (2 * k)) (-(-Y / 2 ^ (2 * k))) W h1 h2 h3 h4 (by omega) (by omega) (by omega) (by omega)
      unfold spanE at kM kA
      generalize X + X / 2 ^ (2 * k) = X2 at *
      generalize Y + -(-Y / 2 ^ (2 * k)) = Y2 at *
      generalize X / 2 ^ (2 * k) = d1 at *
      generalize -(-Y / 2 ^ (2 * k)) = d2 at *
      have hwk : IntKind.i64.wrap (2 * (k : Int)) = 2 * (k : Int) := by rw [IntKind.wrap_i64]; omega
      have hel := E.lo
      have hrh := R.hi
      have Ec0 := E.c0
      have Ef0 := E.f0
      have Ec1 := E.c1
      have Ef1 := E.f1
      go_wp2_with fail
      have bd := (Below.refl wr.heap.size wr).drew
      replace sc := sc.below bd sc.lt
      replace sd := sd.below bd sd.lt
      replace E := E.below bd (Nat.le_refl _)
      replace R := R.below bd (Nat.le_refl _)
      replace B := B.trans (bd.mono B.size)
      clear bd
      have Ed0 := E.c0
      have Ee0 := E.f0
      have Ed1 := E.c1
      have Ee1 := E.f1
      go_region_with (first
              | (go_at_call 50; have hq := BA; clear hq; refine (kA cA dA _ s1 s2 scA sdA).mono ?_; rintro e wB ⟨cB, dB, rfl, scB, sdB, bB⟩; have EB := EA.below bB (Nat.le_refl _); have RB := RA.below bB (Nat.le_refl _); have BB := BA.trans (bB.mono BA.size); have Eb0 := EB.c0; have Ey0 := EB.f0; have Eb1 := EB.c1; have Ey1 := EB.f1)
              | (go_at_call 51; (try simp only [hwk]); refine (kM _ sc sd).mono ?_; rintro e wA ⟨cA, dA, rfl, scA, sdA, bA⟩; have EA := E.below bA (Nat.le_refl _); have RA := R.below bA (Nat.le_refl _); have BA := B.trans (bA.mono B.size); have s1 := sc.below bA sc.lt; have s2 := sd.below bA sd.lt; have Ea0 := EA.c0; have Ez0 := EA.f0; have Ea1 := EA.c1; have Ez1 := EA.f1))
      all_goals
        have n1 := sg_ne scB EB.c0
        have n2 := sg_ne sdB EB.c0
        have E3 := (EB.set0 (.pointer (some ⟨cB, 0, none⟩))).set1 (.pointer (some ⟨dB, 0, none⟩))
        have sc3 := scB.tn ((tnC wB (eb) 0 (.pointer (some ⟨cB, 0, none⟩))).trans (tnC _ (eb) 1 (.pointer (some ⟨dB, 0, none⟩)))) (fun h => n1 (by simpa using h))
        have sd3 := sdB.tn ((tnC wB (eb) 0 (.pointer (some ⟨cB, 0, none⟩))).trans (tnC _ (eb) 1 (.pointer (some ⟨dB, 0, none⟩)))) (fun h => n2 (by simpa using h))
        have R3 := RB.tn ((tnC wB (eb) 0 (.pointer (some ⟨cB, 0, none⟩))).trans (tnC _ (eb) 1 (.pointer (some ⟨dB, 0, none⟩)))) (fun k hk hs => by simp at hk hs; omega)
        have B3 := ((BB.setCell (p := ⟨eb, 0, none⟩) (by show w.heap.size ≤ eb; omega) (.pointer (some ⟨cB, 0, none⟩))).setCell (p := ⟨eb, 1, none⟩) (by show w.heap.size ≤ eb; omega) (.pointer (some ⟨dB, 0, none⟩)))
        generalize ((wB.setCell ⟨eb, 0, none⟩ (.pointer (some ⟨cB, 0, none⟩))).setCell ⟨eb, 1, none⟩ (.pointer (some ⟨dB, 0, none⟩))) = wC at *
        clear Ec0 Ec1 Ef0 Ef1 Ed0 Ed1 Ee0 Ee1 Ea0 Ea1 Ez0 Ez1 Eb0 Eb1 Ey0 Ey1 E EA EB sc sd scA sdA scB sdB s1 s2 R RA RB B BA BB n1 n2
        go_wp2
        go_roundw
        case rel => exact ⟨k + 1, _, _, by omega, by go_num, E3, by rw [H1.out]; exact sc3, by rw [H2.out]; exact sd3, R3, B3⟩
        case measure => simp [intOf]; omega
    · obtain rfl : k = n := by omega
      have hlt' : ¬ (k : Int) < (k : Int) := by omega
      have Ec0 := E.c0
      have Rc0 := R.c0
      have Rf0 := R.f0
      have Ec1 := E.c1
      have Rc1 := R.c1
      have Rf1 := R.f1
      have hrh := R.hi
      have hel := E.lo
      have hne : ¬ w.heap.size = eb := by omega
      have hne' : ¬ eb = w.heap.size := by omega
      have n1 := sg_ne sc R.c0
      have n2 := sg_ne sd R.c0
      have HC := sc
      have HD := sd
      have HB := B
      clear sc sd B E R
      go_wp2
      (try simp only [Exit.inBlock, Exit.then])
      refine bodyPost_ret (v := .agg #[.pointer (some ⟨c, 0, none⟩), .pointer (some ⟨d, 0, none⟩)]) ?_ rfl ⟨_, _, rfl, HC.tn ((tnC _ (w.heap.size) 0 (.pointer (some ⟨c, 0, none⟩))).trans (tnC _ (w.heap.size) 1 (.pointer (some ⟨d, 0, none⟩)))) (fun h => n1 (by simpa using h)), HD.tn ((tnC _ (w.heap.size) 0 (.pointer (some ⟨c, 0, none⟩))).trans (tnC _ (w.heap.size) 1 (.pointer (some ⟨d, 0, none⟩)))) (fun h => n2 (by simpa using h)), ((HB.setCell (p := ⟨w.heap.size, 0, none⟩) (by show w.heap.size ≤ w.heap.size; omega) (.pointer (some ⟨c, 0, none⟩))).setCell (p := ⟨w.heap.size, 1, none⟩) (by show w.heap.size ≤ w.heap.size; omega) (.pointer (some ⟨d, 0, none⟩)))⟩
      rw [results_cell1 rfl]
      go_simp

set_option maxRecDepth 20000 in
set_option maxHeartbeats 6400000 in
theorem iGn (n p : Nat) (w : World) (hn : n ≤ 200) (hp : p ≤ 464) :
    Calls Try.prog 28 #[.int .i64 (n : Int), .int .i64 (p : Int)] w (spanE (gnLo p n) (gnHi p n) w) := by
  have kG := fun W => iGsq n (p + 16) W hn (by omega)
  rw [show ((p + 16 : Nat) : Int) = (p : Int) + 16 by omega] at kG
  unfold spanE at kG ⊢
  have gl := gsq_len (p + 16) n (by omega)
  have rl := root_len p n (by omega)
  obtain ⟨X, hX⟩ : ∃ X, (gsq (p + 16) n).1 = X := ⟨_, rfl⟩
  obtain ⟨Y, hY⟩ : ∃ Y, (gsq (p + 16) n).2 = Y := ⟨_, rfl⟩
  have H1 : Hid (gnLo p n = rtLo (X.natAbs * 2 ^ (p + 16)) / 2 ^ 16) := by show _ = _; rw [← hX]; rfl
  have H2 : Hid (gnHi p n = -(-((rtUp (Y.natAbs * 2 ^ (p + 16)) : Nat) : Int) / 2 ^ 16)) := by show _ = _; rw [← hY]; rfl
  rw [hX, hY] at gl rl
  simp only [hX, hY] at kG
  clear hX hY
  have kR := fun c d W h1 h2 => rootedSpan_c c d (p + 16) X Y W h1 h2 (by omega) (by omega) (by omega)
  rw [show ((p + 16 : Nat) : Int) = (p : Int) + 16 by omega] at kR
  unfold spanE at kR
  unfold rtLo at H1 kR
  obtain ⟨q1, hq1⟩ : ∃ q, isqrt (X.natAbs * 2 ^ (p + 16)) = q := ⟨_, rfl⟩
  obtain ⟨q2, hq2⟩ : ∃ q, rtUp (Y.natAbs * 2 ^ (p + 16)) = q := ⟨_, rfl⟩
  rw [hq1] at H1 rl
  rw [hq2] at H2 rl
  simp only [hq1, hq2] at kR
  clear hq1 hq2
  have kM := fun c d W h1 h2 => movedSpan_c c d (q1 : Int) (q2 : Int) ((p : Int) + 16) (p : Int) W h1 h2 (by rw [Int.natAbs_natCast]; omega) (by rw [Int.natAbs_natCast]; omega) (by omega) (by omega)
  rw [show (p : Int) - ((p : Int) + 16) = -((16 : Nat) : Int) by omega, mvLo_down, mvHi_down] at kM
  unfold spanE at kM
  have hpw : IntKind.i64.wrap ((p : Int) + 16) = (p : Int) + 16 := by rw [IntKind.wrap_i64]; omega
  rw [H1.out, H2.out]
  generalize (q1 : Int) / 2 ^ 16 = e1 at *
  generalize -(-(q2 : Int) / 2 ^ 16) = e2 at *
  generalize (q1 : Int) = u1 at *
  generalize (q2 : Int) = u2 at *
  have R := BoxW.made w (.pointer none) (.pointer none) 46
  have B := below1 w (.cells #[.pointer none, .pointer none] 46)
  go_enter Try.func28, Try.ntmps28
  go_wp2_with fail
  (try simp only [hpw])
  refine (kG _).mono ?_
  generalize w.alloc (.cells #[.pointer none, .pointer none] 46) = w0 at *
  rintro e w1 ⟨c1, d1, rfl, sc, sd, b1⟩
  replace R := R.below b1 (Nat.le_refl _)
  replace B := B.trans (b1.mono B.size)
  clear b1
  have E := BoxW.made w1 (.pointer (some ⟨c1, 0, none⟩)) (.pointer (some ⟨d1, 0, none⟩)) 46
  have bE := below1 w1 (.cells #[.pointer (some ⟨c1, 0, none⟩), .pointer (some ⟨d1, 0, none⟩)] 46)
  replace sc := sc.below bE sc.lt
  replace sd := sd.below bE sd.lt
  replace R := R.below bE (Nat.le_refl _)
  replace B := B.trans (bE.mono B.size)
  clear bE
  have Ec0 := E.c0
  have Ec1 := E.c1
  go_wp2_with fail
  (try simp only [hpw])
  refine (kR c1 d1 _ sc sd).mono ?_
  generalize w1.alloc (.cells #[.pointer (some ⟨c1, 0, none⟩), .pointer (some ⟨d1, 0, none⟩)] 46) = w2 at *
  clear Ec0 Ec1 E
  rintro e w3 ⟨c2, d2, rfl, sc2, sd2, b3⟩
  replace R := R.below b3 (Nat.le_refl _)
  replace B := B.trans (b3.mono B.size)
  clear b3
  clear sc sd
  go_wp2_with fail
  (try simp only [hpw])
  refine (kM c2 d2 _ sc2 sd2).mono ?_
  rintro e w4 ⟨c, d, rfl, sc, sd, b4⟩
  replace R := R.below b4 (Nat.le_refl _)
  replace B := B.trans (b4.mono B.size)
  clear b4
  clear sc2 sd2
  have Rc0 := R.c0
  have Rf0 := R.f0
  have Rc1 := R.c1
  have Rf1 := R.f1
  have n1 := sg_ne sc R.c0
  have n2 := sg_ne sd R.c0
  have HC := sc
  have HD := sd
  have HB := B
  clear sc sd B R
  go_wp2
  (try simp only [Exit.inBlock, Exit.then])
  refine bodyPost_ret (v := .agg #[.pointer (some ⟨c, 0, none⟩), .pointer (some ⟨d, 0, none⟩)]) ?_ rfl ⟨_, _, rfl, HC.tn ((tnC _ (w.heap.size) 0 (.pointer (some ⟨c, 0, none⟩))).trans (tnC _ (w.heap.size) 1 (.pointer (some ⟨d, 0, none⟩)))) (fun h => n1 (by simpa using h)), HD.tn ((tnC _ (w.heap.size) 0 (.pointer (some ⟨c, 0, none⟩))).trans (tnC _ (w.heap.size) 1 (.pointer (some ⟨d, 0, none⟩)))) (fun h => n2 (by simpa using h)), ((HB.setCell (p := ⟨w.heap.size, 0, none⟩) (by show w.heap.size ≤ w.heap.size; omega) (.pointer (some ⟨c, 0, none⟩))).setCell (p := ⟨w.heap.size, 1, none⟩) (by show w.heap.size ≤ w.heap.size; omega) (.pointer (some ⟨d, 0, none⟩)))⟩
  rw [results_cell1 rfl]
  go_simp

set_option maxRecDepth 20000 in
set_option maxHeartbeats 6400000 in
theorem iGainSquare (n p : Int) (w : World) :
    Calls Try.prog 7 #[.int .i64 n, .int .i64 p] w fun e w' => ∃ v, e = .returned (.tuple #[v, .bool (gsR n p).2]) ∧ ownsV w' w.heap.size v (gsR n p).1 ∧ Below w.heap.size w w' := by
  have kP := fun W => constAt p W
  have kN := fun W => turnsAt n W
  by_cases hn : 0 ≤ n ∧ n ≤ 200
  case neg =>
    have HN : Hid (gsR n p = (((false, []), (false, [])), false)) := by show _ = _; unfold gsR; rw [if_neg (fun q => hn q.2)]
    rw [decide_eq_false hn] at kN
    generalize gsR n p = rr at *
    clear hn
    have R := BoxV.made w (.bool false) (.slice none 0 0) (.bool false) (.slice none 0 0) 26
    have B := below1 w (.cells #[.bool false, .slice none 0 0, .bool false, .slice none 0 0] 26)
    go_enter Try.func7, Try.ntmps7
    go_wp2_with fail
    refine (kN _).mono ?_
    generalize w.alloc (.cells #[.bool false, .slice none 0 0, .bool false, .slice none 0 0] 26) = w0 at *
    rintro e w1 ⟨rfl, rfl⟩
    have Rc0 := R.c0
    have Rf0 := R.f0
    have Rc1 := R.c1
    have Rf1 := R.f1
    have Rc2 := R.c2
    have Rf2 := R.f2
    have Rc3 := R.c3
    have Rf3 := R.f3
    have HB := B
    clear R B
    go_wp2
    (try simp only [Exit.inBlock, Exit.then])
    refine bodyPost_ret (v := .tuple #[.agg #[.bool false, .slice none 0 0, .bool false, .slice none 0 0], .bool false]) ?_ rfl ⟨_, by rw [HN.out], by rw [HN.out]; exact nilV _ _, ((((HB.setCell (p := ⟨w.heap.size, 0, none⟩) (by show w.heap.size ≤ w.heap.size; omega) (.bool false)).setCell (p := ⟨w.heap.size, 1, none⟩) (by show w.heap.size ≤ w.heap.size; omega) (.slice none 0 0)).setCell (p := ⟨w.heap.size, 2, none⟩) (by show w.heap.size ≤ w.heap.size; omega) (.bool false)).setCell (p := ⟨w.heap.size, 3, none⟩) (by show w.heap.size ≤ w.heap.size; omega) (.slice none 0 0))⟩
    rw [results_cell_tmp rfl]
    go_simp
  rw [decide_eq_true hn] at kN
  by_cases hp : 1 ≤ p ∧ p ≤ 464
  case neg =>
    have HN : Hid (gsR n p = (((false, []), (false, [])), false)) := by show _ = _; unfold gsR; rw [if_neg (fun q => hp q.1)]
    rw [decide_eq_false hp] at kP
    generalize gsR n p = rr at *
    clear hp hn
    have R := BoxV.made w (.bool false) (.slice none 0 0) (.bool false) (.slice none 0 0) 26
    have B := below1 w (.cells #[.bool false, .slice none 0 0, .bool false, .slice none 0 0] 26)
    go_enter Try.func7, Try.ntmps7
    go_wp2_with fail
    refine (kN _).mono ?_
    generalize w.alloc (.cells #[.bool false, .slice none 0 0, .bool false, .slice none 0 0] 26) = w0 at *
    rintro e w1 ⟨rfl, rfl⟩
    go_wp2_with fail
    refine (kP _).mono ?_
    rintro e w2 ⟨rfl, rfl⟩
    have Rc0 := R.c0
    have Rf0 := R.f0
    have Rc1 := R.c1
    have Rf1 := R.f1
    have Rc2 := R.c2
    have Rf2 := R.f2
    have Rc3 := R.c3
    have Rf3 := R.f3
    have HB := B
    clear R B
    go_wp2
    (try simp only [Exit.inBlock, Exit.then])
    refine bodyPost_ret (v := .tuple #[.agg #[.bool false, .slice none 0 0, .bool false, .slice none 0 0], .bool false]) ?_ rfl ⟨_, by rw [HN.out], by rw [HN.out]; exact nilV _ _, ((((HB.setCell (p := ⟨w.heap.size, 0, none⟩) (by show w.heap.size ≤ w.heap.size; omega) (.bool false)).setCell (p := ⟨w.heap.size, 1, none⟩) (by show w.heap.size ≤ w.heap.size; omega) (.slice none 0 0)).setCell (p := ⟨w.heap.size, 2, none⟩) (by show w.heap.size ≤ w.heap.size; omega) (.bool false)).setCell (p := ⟨w.heap.size, 3, none⟩) (by show w.heap.size ≤ w.heap.size; omega) (.slice none 0 0))⟩
    rw [results_cell_tmp rfl]
    go_simp
  have HN : Hid (gsR n p = ((mkW (gsq p.toNat n.toNat).1, mkW (gsq p.toNat n.toNat).2), true)) := by show _ = _; unfold gsR; rw [if_pos ⟨hp, hn⟩]
  rw [decide_eq_true hp] at kP
  have kG := fun W => iGsq n.toNat p.toNat W (by omega) (by omega)
  unfold spanE at kG
  rw [show ((n.toNat : Nat) : Int) = n by omega, show ((p.toNat : Nat) : Int) = p by omega] at kG
  have ln := gsq_len p.toNat n.toNat (by omega)
  have hfv := fitV_all (gsq p.toNat n.toNat).1 (gsq p.toNat n.toNat).2 (by omega) (by omega)
  have kF := fun c d W h1 h2 => ivFrom_c c d (gsq p.toNat n.toNat).1 (gsq p.toNat n.toNat).2 W h1 h2
  rw [hfv] at kF
  generalize gsR n p = rr at *
  generalize mkW (gsq p.toNat n.toNat).1 = e1 at *
  generalize mkW (gsq p.toNat n.toNat).2 = e2 at *
  clear hp hn hfv ln
  have R := BoxV.made w (.bool false) (.slice none 0 0) (.bool false) (.slice none 0 0) 26
  have B := below1 w (.cells #[.bool false, .slice none 0 0, .bool false, .slice none 0 0] 26)
  go_enter Try.func7, Try.ntmps7
  go_wp2_with fail
  refine (kN _).mono ?_
  generalize w.alloc (.cells #[.bool false, .slice none 0 0, .bool false, .slice none 0 0] 26) = w0 at *
  rintro e w1 ⟨rfl, rfl⟩
  go_wp2_with fail
  refine (kP _).mono ?_
  rintro e w2 ⟨rfl, rfl⟩
  go_wp2_with fail
  refine (kG _).mono ?_
  rintro e w3 ⟨c, d, rfl, sc, sd, b3⟩
  replace R := R.below b3 (Nat.le_refl _)
  replace B := B.trans (b3.mono B.size)
  clear b3
  have hR3 := R.hi
  go_wp2_with fail
  refine (kF c d _ sc sd).mono ?_
  rintro e w4 ⟨v4, rfl, o4, b4⟩
  replace R := R.below b4 (Nat.le_refl _)
  replace B := B.trans (b4.mono B.size)
  clear b4
  obtain ⟨g, ad, j, cap, g', ae, j', cap', rfl, oV⟩ := ownsV.opened o4
  have Rc0 := R.c0
  have Rf0 := R.f0
  have Rc1 := R.c1
  have Rf1 := R.f1
  have Rc2 := R.c2
  have Rf2 := R.f2
  have Rc3 := R.c3
  have Rf3 := R.f3
  have HV := oV
  have HB := B
  have hbl := fun k hk => (oV.ltb k hk)
  go_wp2
  (try simp only [Exit.inBlock, Exit.then])
  refine bodyPost_ret (v := .tuple #[.agg #[.bool g, .slice ad j cap, .bool g', .slice ae j' cap'], .bool true]) ?_ rfl ⟨_, by rw [HN.out], ?_, ((((HB.setCell (p := ⟨w.heap.size, 0, none⟩) (by show w.heap.size ≤ w.heap.size; omega) (.bool g)).setCell (p := ⟨w.heap.size, 1, none⟩) (by show w.heap.size ≤ w.heap.size; omega) (.slice ad j cap)).setCell (p := ⟨w.heap.size, 2, none⟩) (by show w.heap.size ≤ w.heap.size; omega) (.bool g')).setCell (p := ⟨w.heap.size, 3, none⟩) (by show w.heap.size ≤ w.heap.size; omega) (.slice ae j' cap'))⟩
  · rw [results_cell_tmp rfl]
    go_simp
  · rw [HN.out]
    exact ownsV_mono (HV.tn ((((tnC _ (w.heap.size) 0 (.bool g)).trans (tnC _ (w.heap.size) 1 (.slice ad j cap))).trans (tnC _ (w.heap.size) 2 (.bool g'))).trans (tnC _ (w.heap.size) 3 (.slice ae j' cap'))) (fun k hk hs => by have := (hbl k hk).1; simp at hs; omega)) (by omega)

set_option maxRecDepth 20000 in
set_option maxHeartbeats 6400000 in
theorem iGain (n p : Int) (w : World) :
    Calls Try.prog 12 #[.int .i64 n, .int .i64 p] w fun e w' => ∃ v, e = .returned (.tuple #[v, .bool (gnR n p).2]) ∧ ownsV w' w.heap.size v (gnR n p).1 ∧ Below w.heap.size w w' := by
  have kP := fun W => constAt p W
  have kN := fun W => turnsAt n W
  by_cases hn : 0 ≤ n ∧ n ≤ 200
  case neg =>
    have HN : Hid (gnR n p = (((false, []), (false, [])), false)) := by show _ = _; unfold gnR; rw [if_neg (fun q => hn q.2)]
    rw [decide_eq_false hn] at kN
    generalize gnR n p = rr at *
    clear hn
    have R := BoxV.made w (.bool false) (.slice none 0 0) (.bool false) (.slice none 0 0) 26
    have B := below1 w (.cells #[.bool false, .slice none 0 0, .bool false, .slice none 0 0] 26)
    go_enter Try.func12, Try.ntmps12
    go_wp2_with fail
    refine (kN _).mono ?_
    generalize w.alloc (.cells #[.bool false, .slice none 0 0, .bool false, .slice none 0 0] 26) = w0 at *
    rintro e w1 ⟨rfl, rfl⟩
    have Rc0 := R.c0
    have Rf0 := R.f0
    have Rc1 := R.c1
    have Rf1 := R.f1
    have Rc2 := R.c2
    have Rf2 := R.f2
    have Rc3 := R.c3
    have Rf3 := R.f3
    have HB := B
    clear R B
    go_wp2
    (try simp only [Exit.inBlock, Exit.then])
    refine bodyPost_ret (v := .tuple #[.agg #[.bool false, .slice none 0 0, .bool false, .slice none 0 0], .bool false]) ?_ rfl ⟨_, by rw [HN.out], by rw [HN.out]; exact nilV _ _, ((((HB.setCell (p := ⟨w.heap.size, 0, none⟩) (by show w.heap.size ≤ w.heap.size; omega) (.bool false)).setCell (p := ⟨w.heap.size, 1, none⟩) (by show w.heap.size ≤ w.heap.size; omega) (.slice none 0 0)).setCell (p := ⟨w.heap.size, 2, none⟩) (by show w.heap.size ≤ w.heap.size; omega) (.bool false)).setCell (p := ⟨w.heap.size, 3, none⟩) (by show w.heap.size ≤ w.heap.size; omega) (.slice none 0 0))⟩
    rw [results_cell_tmp rfl]
    go_simp
  rw [decide_eq_true hn] at kN
  by_cases hp : 1 ≤ p ∧ p ≤ 464
  case neg =>
    have HN : Hid (gnR n p = (((false, []), (false, [])), false)) := by show _ = _; unfold gnR; rw [if_neg (fun q => hp q.1)]
    rw [decide_eq_false hp] at kP
    generalize gnR n p = rr at *
    clear hp hn
    have R := BoxV.made w (.bool false) (.slice none 0 0) (.bool false) (.slice none 0 0) 26
    have B := below1 w (.cells #[.bool false, .slice none 0 0, .bool false, .slice none 0 0] 26)
    go_enter Try.func12, Try.ntmps12
    go_wp2_with fail
    refine (kN _).mono ?_
    generalize w.alloc (.cells #[.bool false, .slice none 0 0, .bool false, .slice none 0 0] 26) = w0 at *
    rintro e w1 ⟨rfl, rfl⟩
    go_wp2_with fail
    refine (kP _).mono ?_
    rintro e w2 ⟨rfl, rfl⟩
    have Rc0 := R.c0
    have Rf0 := R.f0
    have Rc1 := R.c1
    have Rf1 := R.f1
    have Rc2 := R.c2
    have Rf2 := R.f2
    have Rc3 := R.c3
    have Rf3 := R.f3
    have HB := B
    clear R B
    go_wp2
    (try simp only [Exit.inBlock, Exit.then])
    refine bodyPost_ret (v := .tuple #[.agg #[.bool false, .slice none 0 0, .bool false, .slice none 0 0], .bool false]) ?_ rfl ⟨_, by rw [HN.out], by rw [HN.out]; exact nilV _ _, ((((HB.setCell (p := ⟨w.heap.size, 0, none⟩) (by show w.heap.size ≤ w.heap.size; omega) (.bool false)).setCell (p := ⟨w.heap.size, 1, none⟩) (by show w.heap.size ≤ w.heap.size; omega) (.slice none 0 0)).setCell (p := ⟨w.heap.size, 2, none⟩) (by show w.heap.size ≤ w.heap.size; omega) (.bool false)).setCell (p := ⟨w.heap.size, 3, none⟩) (by show w.heap.size ≤ w.heap.size; omega) (.slice none 0 0))⟩
    rw [results_cell_tmp rfl]
    go_simp
  have HN : Hid (gnR n p = ((mkW (gnLo p.toNat n.toNat), mkW (gnHi p.toNat n.toNat)), true)) := by show _ = _; unfold gnR; rw [if_pos ⟨hp, hn⟩]
  rw [decide_eq_true hp] at kP
  have kG := fun W => iGn n.toNat p.toNat W (by omega) (by omega)
  unfold spanE at kG
  rw [show ((n.toNat : Nat) : Int) = n by omega, show ((p.toNat : Nat) : Int) = p by omega] at kG
  have ln := gn_len p.toNat n.toNat (by omega)
  have hfv := fitV_all (gnLo p.toNat n.toNat) (gnHi p.toNat n.toNat) (by omega) (by omega)
  have kF := fun c d W h1 h2 => ivFrom_c c d (gnLo p.toNat n.toNat) (gnHi p.toNat n.toNat) W h1 h2
  rw [hfv] at kF
  generalize gnR n p = rr at *
  generalize mkW (gnLo p.toNat n.toNat) = e1 at *
  generalize mkW (gnHi p.toNat n.toNat) = e2 at *
  clear hp hn hfv ln
  have R := BoxV.made w (.bool false) (.slice none 0 0) (.bool false) (.slice none 0 0) 26
  have B := below1 w (.cells #[.bool false, .slice none 0 0, .bool false, .slice none 0 0] 26)
  go_enter Try.func12, Try.ntmps12
  go_wp2_with fail
  refine (kN _).mono ?_
  generalize w.alloc (.cells #[.bool false, .slice none 0 0, .bool false, .slice none 0 0] 26) = w0 at *
  rintro e w1 ⟨rfl, rfl⟩
  go_wp2_with fail
  refine (kP _).mono ?_
  rintro e w2 ⟨rfl, rfl⟩
  go_wp2_with fail
  refine (kG _).mono ?_
  rintro e w3 ⟨c, d, rfl, sc, sd, b3⟩
  replace R := R.below b3 (Nat.le_refl _)
  replace B := B.trans (b3.mono B.size)
  clear b3
  have hR3 := R.hi
  go_wp2_with fail
  refine (kF c d _ sc sd).mono ?_
  rintro e w4 ⟨v4, rfl, o4, b4⟩
  replace R := R.below b4 (Nat.le_refl _)
  replace B := B.trans (b4.mono B.size)
  clear b4
  obtain ⟨g, ad, j, cap, g', ae, j', cap', rfl, oV⟩ := ownsV.opened o4
  have Rc0 := R.c0
  have Rf0 := R.f0
  have Rc1 := R.c1
  have Rf1 := R.f1
  have Rc2 := R.c2
  have Rf2 := R.f2
  have Rc3 := R.c3
  have Rf3 := R.f3
  have HV := oV
  have HB := B
  have hbl := fun k hk => (oV.ltb k hk)
  go_wp2
  (try simp only [Exit.inBlock, Exit.then])
  refine bodyPost_ret (v := .tuple #[.agg #[.bool g, .slice ad j cap, .bool g', .slice ae j' cap'], .bool true]) ?_ rfl ⟨_, by rw [HN.out], ?_, ((((HB.setCell (p := ⟨w.heap.size, 0, none⟩) (by show w.heap.size ≤ w.heap.size; omega) (.bool g)).setCell (p := ⟨w.heap.size, 1, none⟩) (by show w.heap.size ≤ w.heap.size; omega) (.slice ad j cap)).setCell (p := ⟨w.heap.size, 2, none⟩) (by show w.heap.size ≤ w.heap.size; omega) (.bool g')).setCell (p := ⟨w.heap.size, 3, none⟩) (by show w.heap.size ≤ w.heap.size; omega) (.slice ae j' cap'))⟩
  · rw [results_cell_tmp rfl]
    go_simp
  · rw [HN.out]
    exact ownsV_mono (HV.tn ((((tnC _ (w.heap.size) 0 (.bool g)).trans (tnC _ (w.heap.size) 1 (.slice ad j cap))).trans (tnC _ (w.heap.size) 2 (.bool g'))).trans (tnC _ (w.heap.size) 3 (.slice ae j' cap'))) (fun k hk hs => by have := (hbl k hk).1; simp at hs; omega)) (by omega)

end Go.Proofs.Ytmbopjjpepbgkaa
