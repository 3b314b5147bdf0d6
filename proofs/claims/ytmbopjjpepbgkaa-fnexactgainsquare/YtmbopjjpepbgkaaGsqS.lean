/- The squared gain and the gain of the specification, each by its contract. -/
import Derived.Test.YtmbopjjpepbgkaaGsqM
import Derived.Test.YtmbopjjpepbgkaaSPick
import Derived.Test.YtmbopjjpepbgkaaMoveS
import Derived.Test.YtmbopjjpepbgkaaIvAddB
import Derived.Test.YtmbopjjpepbgkaaRB
import Derived.Test.YtmbopjjpepbgkaaModeS
import Derived.Test.YtmbopjjpepbgkaaBx1
namespace Go.Proofs.Ytmbopjjpepbgkaa
open Go.RowKit
set_option linter.unusedSimpArgs false

theorem ownsV.opened {w : World} {base : Nat} {v : Value} {a : Vh} (h : ownsV w base v a) : ∃ (g : Bool) (ad : Option Addr) (j cap : Nat) (g' : Bool) (ae : Option Addr) (j' cap' : Nat), v = .agg #[.bool g, .slice ad j cap, .bool g', .slice ae j' cap'] ∧ ownsV w base (.agg #[.bool g, .slice ad j cap, .bool g', .slice ae j' cap']) a := by
  have h' := h
  obtain ⟨s, t, rfl, h1, h2, -⟩ := h
  obtain ⟨ad, cap, rfl, -⟩ := h1.row
  obtain ⟨ae, cap', rfl, -⟩ := h2.row
  exact ⟨_, _, _, _, _, _, _, _, rfl, h'⟩
theorem ownsW_pair {w : World} {base mid : Nat} {u v : Value} {a b : Wh} (h1 : ownsW w base u a) (h2 : ownsW w mid v b) (hb : base ≤ mid) (hm : ∀ k ∈ blkW u, k < mid) : ∃ (g : Bool) (ad : Option Addr) (j cap : Nat) (g' : Bool) (ae : Option Addr) (j' cap' : Nat), u = .agg #[.bool g, .slice ad j cap] ∧ v = .agg #[.bool g', .slice ae j' cap'] ∧ ownsV w base (.agg #[.bool g, .slice ad j cap, .bool g', .slice ae j' cap']) (a, b) := by
  have g1 := h1.ltb
  have g2 := h2.ltb
  obtain ⟨s, rfl, q1⟩ := h1
  obtain ⟨t, rfl, q2⟩ := h2
  obtain ⟨ad, cap, rfl, -⟩ := q1.row
  obtain ⟨ae, cap', rfl, -⟩ := q2.row
  exact ⟨_, _, _, _, _, _, _, _, rfl, rfl, ⟨_, _, rfl, q1, ownsI_mono q2 hb, apart_of hm (fun k hk => (g2 k hk).1)⟩⟩

/-- l13P of the specification. -/
theorem l13pAt (p : Int) (w : World) : Calls Try.prog 20 #[.int .i64 p] w fun e w' => e = .returned (.bool (decide (1 ≤ p ∧ p ≤ 464))) ∧ w' = w := by
  have k := fun W => inAt p 1 464 W
  generalize decide (1 ≤ p ∧ p ≤ 464) = r at *
  go_enter Try.func20, Try.ntmps20
  go_wp2_with fail
  refine (k _).mono ?_
  rintro e w1 ⟨rfl, rfl⟩
  go_wp2
  go_ret
  exact ⟨rfl, rfl⟩

/-- l10Move to fewer parts, by an even number. -/
theorem sMv (va : Value) (x y : Int) (i : Nat) (w : World) (ha : rowV w va (mkW x, mkW y)) (m1 : (limbs x.natAbs).length ≤ 10000) (m2 : (limbs y.natAbs).length ≤ 10000) (hi : i ≤ 1000) :
    Calls Try.prog 46 #[va, .int .i64 (-(2 * (i : Int)))] w fun e w' => ∃ v, e = .returned v ∧ ownsV w' w.heap.size v (mkW (x / 2 ^ (2 * i)), mkW (-(-y / 2 ^ (2 * i)))) ∧ Below w.heap.size w w' := by
  by_cases h : i = 0
  · subst h
    have k := sVMoveUp va (mkW x, mkW y) x y 0 w ha rfl rfl m1 m2 (by omega)
    rw [show x * 2 ^ 0 = x by omega, show y * 2 ^ 0 = y by omega] at k
    rw [show x / 2 ^ (2 * 0) = x by simp, show -(-y / 2 ^ (2 * 0)) = y by simp]
    exact k
  · have k := sVMoveDown va (mkW x, mkW y) x y (2 * i) w ha rfl rfl m1 m2 (by omega) (by omega)
    rw [show -((2 * i : Nat) : Int) = -(2 * (i : Int)) by omega] at k
    exact k

set_option maxRecDepth 20000 in
set_option maxHeartbeats 6400000 in
theorem sGsq (n p : Nat) (w : World) (hn : n ≤ 200) (hp : p ≤ 480) :
    Calls Try.prog 22 #[.int .i64 (n : Int), .int .i64 (p : Int)] w fun e w' => ∃ v, e = .returned v ∧ ownsV w' w.heap.size v (mkW (gsq p n).1, mkW (gsq p n).2) ∧ Below w.heap.size w w' := by
  have R := BoxV.made w (.bool false) (.slice none 0 0) (.bool false) (.slice none 0 0) 26
  have B := below1 w (.cells #[.bool false, .slice none 0 0, .bool false, .slice none 0 0] 26)
  have hs0 : (w.alloc (.cells #[.bool false, .slice none 0 0, .bool false, .slice none 0 0] 26)).heap.size = w.heap.size + 1 := by simp
  go_enter Try.func22, Try.ntmps22
  go_wp2_with fail
  refine (sOne _).mono ?_
  generalize w.alloc (.cells #[.bool false, .slice none 0 0, .bool false, .slice none 0 0] 26) = w0 at *
  rintro e w1 ⟨v1, rfl, o1, b1⟩
  replace R := R.below b1 (Nat.le_refl _)
  replace B := B.trans (b1.mono B.size)
  clear b1
  have hR1 := R.hi
  go_wp2_with fail
  refine (sWUp _ 1 p _ o1.row (by rw [show (1 : Int).natAbs = 1 from rfl]; exact Nat.le_trans (limbs_len_le 1 1 (by omega)) (by omega)) (by omega)).mono ?_
  rintro e w2 ⟨v2, rfl, o2, b2⟩
  replace R := R.below b2 (Nat.le_refl _)
  replace B := B.trans (b2.mono B.size)
  have z2 := b2.size
  clear b2
  clear o1
  have hm2 := fun k hk => (o2.ltb k hk).2
  go_wp2_with fail
  refine (sOne _).mono ?_
  rintro e w3 ⟨v3, rfl, o3, b3⟩
  replace o2 := o2.below b3 (Nat.le_refl _)
  have hm3 : ∀ k ∈ blkW v2, k < w3.heap.size := fun k hk => Nat.lt_of_lt_of_le (hm2 k hk) b3.size
  replace R := R.below b3 (Nat.le_refl _)
  replace B := B.trans (b3.mono B.size)
  have z3 := b3.size
  clear b3
  go_wp2_with fail
  refine (sWUp _ 1 p _ o3.row (by rw [show (1 : Int).natAbs = 1 from rfl]; exact Nat.le_trans (limbs_len_le 1 1 (by omega)) (by omega)) (by omega)).mono ?_
  rintro e w4 ⟨v4, rfl, o4, b4⟩
  replace o2 := o2.below b4 (Nat.le_refl _)
  replace R := R.below b4 (Nat.le_refl _)
  replace B := B.trans (b4.mono B.size)
  clear b4
  clear o3
  rw [Int.one_mul] at o2 o4
  have hm4 : ∀ k ∈ blkW v2, k < w3.heap.size := hm3
  obtain ⟨g, ad, j, cap, g', ae, j', cap', rfl, rfl, oV⟩ := ownsW_pair o2 o4 (by omega) hm4
  replace oV := ownsV_mono oV (show w.heap.size + 1 ≤ _ from hR1)
  have hrw4 := R.hi
  have V := BoxV.made w4 (.bool g) (.slice ad j cap) (.bool g') (.slice ae j' cap') 26
  have bV := below1 w4 (.cells #[.bool g, .slice ad j cap, .bool g', .slice ae j' cap'] 26)
  have hap := apart_of (fun k hk => (oV.ltb k hk).2) (fun k hk => (V.ltb k hk).1)
  replace oV := oV.below bV (Nat.le_refl _)
  replace R := R.below bV (Nat.le_refl _)
  replace B := B.trans (bV.mono B.size)
  clear bV
  go_wp2
  generalize w4.alloc (.cells #[.bool g, .slice ad j cap, .bool g', .slice ae j' cap'] 26) = w5 at *
  have hr5 := R.hi
  have hvr : w.heap.size < w4.heap.size := hrw4
  obtain ⟨eb, heb⟩ : ∃ b, w4.heap.size = b := ⟨_, rfl⟩
  rw [heb] at V hap hvr
  (try rw [heb])
  clear heb o2 o4 hm2 hm3 hm4
  go_loopw [6] (fun i wr => ∃ (k : Nat) (g : Bool) (ad : Option Addr) (j cap : Nat) (g' : Bool) (ae : Option Addr) (j' cap' : Nat), k ≤ n ∧ i = .int .i64 k ∧ BoxV wr eb eb (.bool g) (.slice ad j cap) (.bool g') (.slice ae j' cap') ∧ ownsV wr (w.heap.size + 1) (.agg #[.bool g, .slice ad j cap, .bool g', .slice ae j' cap']) (mkW (gsq p k).1, mkW (gsq p k).2) ∧ Apart (blkV (.agg #[.bool g, .slice ad j cap, .bool g', .slice ae j' cap'])) [eb] ∧ BoxV wr w.heap.size w.heap.size (.bool false) (.slice none 0 0) (.bool false) (.slice none 0 0) ∧ Below w.heap.size w wr) (fun i _ => n - (intOf i).toNat)
  case atStart => exact ⟨0, g, ad, j, cap, g', ae, j', cap', Nat.zero_le _, rfl, V, oV, hap, R, B⟩
  case round =>
    clear V oV hap R B
    obtain ⟨k, g, ad, j, cap, g', ae, j', cap', hk, rfl, V, oV, hap, R, B⟩ := hrel
    by_cases hlt : k < n
    · have hlt' : (k : Int) < (n : Int) := by omega
      have gl := gsq_len p k (by omega)
      have gp := gsq_part p k (by omega)
      obtain ⟨X, hX⟩ : ∃ X, (gsq p k).1 = X := ⟨_, rfl⟩
      obtain ⟨Y, hY⟩ : ∃ Y, (gsq p k).2 = Y := ⟨_, rfl⟩
      have H1 : Hid ((gsq p (k + 1)).1 = X + X / 2 ^ (2 * k)) := by show _ = _; rw [← hX]; rfl
      have H2 : Hid ((gsq p (k + 1)).2 = Y + -(-Y / 2 ^ (2 * k))) := by show _ = _; rw [← hY]; rfl
      rw [hX, hY] at gl gp oV
      clear hX hY
      have kM := fun W (q : rowV W (.agg #[.bool g, .slice ad j cap, .bool g', .slice ae j' cap']) (mkW X, mkW Y)) => sMv _ X Y k W q (by omega) (by omega) (by omega)
      have kA := fun v W (q : rowV W (.agg #[.bool g, .slice ad j cap, .bool g', .slice ae j' cap']) (mkW X, mkW Y)) (q2 : rowV W v (mkW (X / 2 ^ (2 * k)), mkW (-(-Y / 2 ^ (2 * k))))) => sVAdd _ v (mkW X, mkW Y) (mkW (X / 2 ^ (2 * k)), mkW (-(-Y / 2 ^ (2 * k)))) X Y (X / 2 ^ (2 * k)) (-(-Y / 2 ^ (2 * k))) W q q2 rfl rfl rfl rfl (by omega) (by omega) (by omega) (by omega)
      generalize X + X / 2 ^ (2 * k) = X2 at *
      generalize Y + -(-Y / 2 ^ (2 * k)) = Y2 at *
      generalize mkW (X / 2 ^ (2 * k)) = d1 at *
      generalize mkW (-(-Y / 2 ^ (2 * k))) = d2 at *
      have hwk : IntKind.i64.wrap (2 * (k : Int)) = 2 * (k : Int) := by rw [IntKind.wrap_i64]; omega
      have hwn : IntKind.i64.wrap (-(2 * (k : Int))) = -(2 * (k : Int)) := by rw [IntKind.wrap_i64]; omega
      have hz : (0 : Int) - 2 * (k : Int) = -(2 * (k : Int)) := by omega
      have hve := V.lo
      have hvh := V.hi
      have hrh := R.hi
      have Vc0 := V.c0
      have Vf0 := V.f0
      have Vc1 := V.c1
      have Vf1 := V.f1
      have Vc2 := V.c2
      have Vf2 := V.f2
      have Vc3 := V.c3
      have Vf3 := V.f3
      go_wp2_with fail
      have bd := (Below.refl wr.heap.size wr).drew
      replace V := V.below bd (Nat.le_refl _)
      replace oV := oV.below bd (Nat.le_refl _)
      replace R := R.below bd (Nat.le_refl _)
      replace B := B.trans (bd.mono B.size)
      clear bd
      have Vd0 := V.c0
      have Ve0 := V.f0
      have Vd1 := V.c1
      have Ve1 := V.f1
      have Vd2 := V.c2
      have Ve2 := V.f2
      have Vd3 := V.c3
      have Ve3 := V.f3
      go_region_with (first
              | (go_at_call 45; have hq := BA; clear hq; refine (kA _ _ oVA.row oA.row).mono ?_; rintro e wB ⟨vB, rfl, oB, bB⟩; have VB := VA.below bB (Nat.le_refl _); have RB := RA.below bB (Nat.le_refl _); have BB := BA.trans (bB.mono BA.size); obtain ⟨g2, ad2, j2, cap2, g3, ae2, j3, cap3, rfl, oB⟩ := ownsV.opened oB; have Vb0 := VB.c0; have Vy0 := VB.f0; have Vb1 := VB.c1; have Vy1 := VB.f1; have Vb2 := VB.c2; have Vy2 := VB.f2; have Vb3 := VB.c3; have Vy3 := VB.f3)
              | (go_at_call 46; (try simp only [hwk, hz, hwn]); refine (kM _ oV.row).mono ?_; rintro e wA ⟨vA, rfl, oA, bA⟩; have VA := V.below bA (Nat.le_refl _); have oVA := oV.below bA (Nat.le_refl _); have RA := R.below bA (Nat.le_refl _); have BA := B.trans (bA.mono B.size); have hzA := bA.size; have Va0 := VA.c0; have Vz0 := VA.f0; have Va1 := VA.c1; have Vz1 := VA.f1; have Va2 := VA.c2; have Vz2 := VA.f2; have Va3 := VA.c3; have Vz3 := VA.f3))
      all_goals
        have V3 := (((VB.set0 (.bool g2)).set1 (.slice ad2 j2 cap2)).set2 (.bool g3)).set3 (.slice ae2 j3 cap3)
        have hebA : eb < wA.heap.size := VA.hi
        have hapB : Apart (blkV (.agg #[.bool g2, .slice ad2 j2 cap2, .bool g3, .slice ae2 j3 cap3])) [eb] := fun k hk hs => by have := (oB.ltb k hk).1; simp at hs; omega
        have o3 := ownsV_mono (oB.tn ((((tnC wB (eb) 0 (.bool g2)).trans (tnC _ (eb) 1 (.slice ad2 j2 cap2))).trans (tnC _ (eb) 2 (.bool g3))).trans (tnC _ (eb) 3 (.slice ae2 j3 cap3))) hapB) (show w.heap.size + 1 ≤ wA.heap.size from RA.hi)
        have R3 := RB.tn ((((tnC wB (eb) 0 (.bool g2)).trans (tnC _ (eb) 1 (.slice ad2 j2 cap2))).trans (tnC _ (eb) 2 (.bool g3))).trans (tnC _ (eb) 3 (.slice ae2 j3 cap3))) (fun k hk hs => by simp at hk hs; omega)
        have B3 := ((((BB.setCell (p := ⟨eb, 0, none⟩) (by show w.heap.size ≤ eb; omega) (.bool g2)).setCell (p := ⟨eb, 1, none⟩) (by show w.heap.size ≤ eb; omega) (.slice ad2 j2 cap2)).setCell (p := ⟨eb, 2, none⟩) (by show w.heap.size ≤ eb; omega) (.bool g3)).setCell (p := ⟨eb, 3, none⟩) (by show w.heap.size ≤ eb; omega) (.slice ae2 j3 cap3))
        generalize ((((wB.setCell ⟨eb, 0, none⟩ (.bool g2)).setCell ⟨eb, 1, none⟩ (.slice ad2 j2 cap2)).setCell ⟨eb, 2, none⟩ (.bool g3)).setCell ⟨eb, 3, none⟩ (.slice ae2 j3 cap3)) = wC at *
        clear Vc0 Vc1 Vc2 Vc3 Vf0 Vf1 Vf2 Vf3 Vd0 Vd1 Vd2 Vd3 Ve0 Ve1 Ve2 Ve3 Va0 Va1 Va2 Va3 Vz0 Vz1 Vz2 Vz3 Vb0 Vb1 Vb2 Vb3 Vy0 Vy1 Vy2 Vy3 V VA VB oV oVA oA oB R RA RB B BA BB
        go_wp2
        go_roundw
        case rel => exact ⟨k + 1, _, _, _, _, _, _, _, _, by omega, by go_num, V3, by rw [H1.out, H2.out]; exact o3, hapB, R3, B3⟩
        case measure => simp [intOf]; omega
    · obtain rfl : k = n := by omega
      have hlt' : ¬ (k : Int) < (k : Int) := by omega
      have Vc0 := V.c0
      have Rc0 := R.c0
      have Rf0 := R.f0
      have Vc1 := V.c1
      have Rc1 := R.c1
      have Rf1 := R.f1
      have Vc2 := V.c2
      have Rc2 := R.c2
      have Rf2 := R.f2
      have Vc3 := V.c3
      have Rc3 := R.c3
      have Rf3 := R.f3
      have hrh := R.hi
      have hvl := V.lo
      have hne : ¬ w.heap.size = eb := by omega
      have hne' : ¬ eb = w.heap.size := by omega
      have HV := oV
      have HB := B
      have hbl := fun k hk => (oV.ltb k hk)
      go_wp2
      (try simp only [Exit.inBlock, Exit.then])
      refine bodyPost_ret (v := .agg #[.bool g, .slice ad j cap, .bool g', .slice ae j' cap']) ?_ rfl ⟨_, rfl, ?_, ((((HB.setCell (p := ⟨w.heap.size, 0, none⟩) (by show w.heap.size ≤ w.heap.size; omega) (.bool g)).setCell (p := ⟨w.heap.size, 1, none⟩) (by show w.heap.size ≤ w.heap.size; omega) (.slice ad j cap)).setCell (p := ⟨w.heap.size, 2, none⟩) (by show w.heap.size ≤ w.heap.size; omega) (.bool g')).setCell (p := ⟨w.heap.size, 3, none⟩) (by show w.heap.size ≤ w.heap.size; omega) (.slice ae j' cap'))⟩
      · rw [results_cell1 rfl]
        go_simp
      · exact ownsV_mono (HV.tn ((((tnC _ (w.heap.size) 0 (.bool g)).trans (tnC _ (w.heap.size) 1 (.slice ad j cap))).trans (tnC _ (w.heap.size) 2 (.bool g'))).trans (tnC _ (w.heap.size) 3 (.slice ae j' cap'))) (fun k hk hs => by have := (hbl k hk).1; simp at hs; omega)) (by omega)

theorem mkW_nat (q : Nat) : (false, limbs q) = mkW (q : Int) := by rw [mkW_pos _ (by omega), Int.natAbs_natCast]
set_option maxRecDepth 20000 in
set_option maxHeartbeats 6400000 in
theorem sGn (n p : Nat) (w : World) (hn : n ≤ 200) (hp : p ≤ 464) :
    Calls Try.prog 27 #[.int .i64 (n : Int), .int .i64 (p : Int)] w fun e w' => ∃ v, e = .returned v ∧ ownsV w' w.heap.size v (mkW (gnLo p n), mkW (gnHi p n)) ∧ Below w.heap.size w w' := by
  have kG := fun W => sGsq n (p + 16) W hn (by omega)
  rw [show ((p + 16 : Nat) : Int) = (p : Int) + 16 by omega] at kG
  have gl := gsq_len (p + 16) n (by omega)
  have rl := root_len p n (by omega)
  obtain ⟨X, hX⟩ : ∃ X, (gsq (p + 16) n).1 = X := ⟨_, rfl⟩
  obtain ⟨Y, hY⟩ : ∃ Y, (gsq (p + 16) n).2 = Y := ⟨_, rfl⟩
  have H1 : Hid (gnLo p n = rtLo (X.natAbs * 2 ^ (p + 16)) / 2 ^ 16) := by show _ = _; rw [← hX]; rfl
  have H2 : Hid (gnHi p n = -(-((rtUp (Y.natAbs * 2 ^ (p + 16)) : Nat) : Int) / 2 ^ 16)) := by show _ = _; rw [← hY]; rfl
  rw [hX, hY] at gl rl
  simp only [hX, hY] at kG
  clear hX hY
  have kR := fun va W (q : rowV W va (mkW X, mkW Y)) => sVRoot va (mkW X, mkW Y) X.natAbs Y.natAbs (p + 16) W q rfl rfl (by omega) (by omega) (by omega)
  rw [show ((p + 16 : Nat) : Int) = (p : Int) + 16 by omega] at kR
  unfold rtLo at H1
  obtain ⟨q1, hq1⟩ : ∃ q, isqrt (X.natAbs * 2 ^ (p + 16)) = q := ⟨_, rfl⟩
  obtain ⟨q2, hq2⟩ : ∃ q, rtUp (Y.natAbs * 2 ^ (p + 16)) = q := ⟨_, rfl⟩
  rw [hq1] at H1 rl
  rw [hq2] at H2 rl
  simp only [hq1, hq2] at kR
  clear hq1 hq2
  have kM := fun va W (q : rowV W va (mkW (q1 : Int), mkW (q2 : Int))) => sVMoveDown va (mkW (q1 : Int), mkW (q2 : Int)) q1 q2 16 W q rfl rfl (by rw [Int.natAbs_natCast]; omega) (by rw [Int.natAbs_natCast]; omega) (by omega) (by omega)
  rw [show -((16 : Nat) : Int) = -16 from rfl] at kM
  rw [mkW_nat q1, mkW_nat q2] at kR
  have hpw : IntKind.i64.wrap ((p : Int) + 16) = (p : Int) + 16 := by rw [IntKind.wrap_i64]; omega
  rw [H1.out, H2.out]
  generalize mkW ((q1 : Int) / 2 ^ 16) = e1 at *
  generalize mkW (-(-(q2 : Int) / 2 ^ 16)) = e2 at *
  have R := BoxV.made w (.bool false) (.slice none 0 0) (.bool false) (.slice none 0 0) 26
  have B := below1 w (.cells #[.bool false, .slice none 0 0, .bool false, .slice none 0 0] 26)
  go_enter Try.func27, Try.ntmps27
  go_wp2_with fail
  (try simp only [hpw])
  refine (kG _).mono ?_
  generalize w.alloc (.cells #[.bool false, .slice none 0 0, .bool false, .slice none 0 0] 26) = w0 at *
  rintro e w1 ⟨v1, rfl, o1, b1⟩
  replace R := R.below b1 (Nat.le_refl _)
  replace B := B.trans (b1.mono B.size)
  clear b1
  go_wp2_with fail
  (try simp only [hpw])
  refine (kR _ _ o1.row).mono ?_
  rintro e w2 ⟨v2, rfl, o2, b2⟩
  replace R := R.below b2 (Nat.le_refl _)
  replace B := B.trans (b2.mono B.size)
  clear b2
  clear o1
  have hR2 := R.hi
  go_wp2_with fail
  refine (kM _ _ o2.row).mono ?_
  rintro e w3 ⟨v3, rfl, o3, b3⟩
  replace R := R.below b3 (Nat.le_refl _)
  replace B := B.trans (b3.mono B.size)
  clear b3
  clear o2
  obtain ⟨g, ad, j, cap, g', ae, j', cap', rfl, oV⟩ := ownsV.opened o3
  have Rc0 := R.c0
  have Rf0 := R.f0
  have Rc1 := R.c1
  have Rf1 := R.f1
  have Rc2 := R.c2
  have Rf2 := R.f2
  have Rc3 := R.c3
  have Rf3 := R.f3
  have HV := oV
  have HB := B
  have hbl := fun k hk => (oV.ltb k hk)
  go_wp2
  (try simp only [Exit.inBlock, Exit.then])
  refine bodyPost_ret (v := .agg #[.bool g, .slice ad j cap, .bool g', .slice ae j' cap']) ?_ rfl ⟨_, rfl, ?_, ((((HB.setCell (p := ⟨w.heap.size, 0, none⟩) (by show w.heap.size ≤ w.heap.size; omega) (.bool g)).setCell (p := ⟨w.heap.size, 1, none⟩) (by show w.heap.size ≤ w.heap.size; omega) (.slice ad j cap)).setCell (p := ⟨w.heap.size, 2, none⟩) (by show w.heap.size ≤ w.heap.size; omega) (.bool g')).setCell (p := ⟨w.heap.size, 3, none⟩) (by show w.heap.size ≤ w.heap.size; omega) (.slice ae j' cap'))⟩
  · rw [results_cell1 rfl]
    go_simp
  · exact ownsV_mono (HV.tn ((((tnC _ (w.heap.size) 0 (.bool g)).trans (tnC _ (w.heap.size) 1 (.slice ad j cap))).trans (tnC _ (w.heap.size) 2 (.bool g'))).trans (tnC _ (w.heap.size) 3 (.slice ae j' cap'))) (fun k hk hs => by have := (hbl k hk).1; simp at hs; omega)) (by omega)

set_option maxRecDepth 20000 in
set_option maxHeartbeats 6400000 in
theorem sGainSquare (n p : Int) (w : World) :
    Calls Try.prog 6 #[.int .i64 n, .int .i64 p] w fun e w' => ∃ v, e = .returned (.tuple #[v, .bool (gsR n p).2]) ∧ ownsV w' w.heap.size v (gsR n p).1 ∧ Below w.heap.size w w' := by
  have kP := fun W => l13pAt p W
  have kN := fun W => inAt n 0 200 W
  by_cases hp : 1 ≤ p ∧ p ≤ 464
  case neg =>
    have HN : Hid (gsR n p = (((false, []), (false, [])), false)) := by show _ = _; unfold gsR; rw [if_neg (fun q => hp q.1)]
    rw [decide_eq_false hp] at kP
    generalize gsR n p = rr at *
    clear hp
    have R := BoxV.made w (.bool false) (.slice none 0 0) (.bool false) (.slice none 0 0) 26
    have B := below1 w (.cells #[.bool false, .slice none 0 0, .bool false, .slice none 0 0] 26)
    go_enter Try.func6, Try.ntmps6
    go_wp2_with fail
    refine (kP _).mono ?_
    generalize w.alloc (.cells #[.bool false, .slice none 0 0, .bool false, .slice none 0 0] 26) = w0 at *
    rintro e w1 ⟨rfl, rfl⟩
    have Rc0 := R.c0
    have Rf0 := R.f0
    have Rc1 := R.c1
    have Rf1 := R.f1
    have Rc2 := R.c2
    have Rf2 := R.f2
    have Rc3 := R.c3
    have Rf3 := R.f3
    have HB := B
    clear R B
    go_wp2
    (try simp only [Exit.inBlock, Exit.then])
    refine bodyPost_ret (v := .tuple #[.agg #[.bool false, .slice none 0 0, .bool false, .slice none 0 0], .bool false]) ?_ rfl ⟨_, by rw [HN.out], by rw [HN.out]; exact nilV _ _, ((((HB.setCell (p := ⟨w.heap.size, 0, none⟩) (by show w.heap.size ≤ w.heap.size; omega) (.bool false)).setCell (p := ⟨w.heap.size, 1, none⟩) (by show w.heap.size ≤ w.heap.size; omega) (.slice none 0 0)).setCell (p := ⟨w.heap.size, 2, none⟩) (by show w.heap.size ≤ w.heap.size; omega) (.bool false)).setCell (p := ⟨w.heap.size, 3, none⟩) (by show w.heap.size ≤ w.heap.size; omega) (.slice none 0 0))⟩
    rw [results_cell_tmp rfl]
    go_simp
  rw [decide_eq_true hp] at kP
  by_cases hn : 0 ≤ n ∧ n ≤ 200
  case neg =>
    have HN : Hid (gsR n p = (((false, []), (false, [])), false)) := by show _ = _; unfold gsR; rw [if_neg (fun q => hn q.2)]
    rw [decide_eq_false hn] at kN
    generalize gsR n p = rr at *
    clear hp hn
    have R := BoxV.made w (.bool false) (.slice none 0 0) (.bool false) (.slice none 0 0) 26
    have B := below1 w (.cells #[.bool false, .slice none 0 0, .bool false, .slice none 0 0] 26)
    go_enter Try.func6, Try.ntmps6
    go_wp2_with fail
    refine (kP _).mono ?_
    generalize w.alloc (.cells #[.bool false, .slice none 0 0, .bool false, .slice none 0 0] 26) = w0 at *
    rintro e w1 ⟨rfl, rfl⟩
    go_wp2_with fail
    refine (kN _).mono ?_
    rintro e w2 ⟨rfl, rfl⟩
    have Rc0 := R.c0
    have Rf0 := R.f0
    have Rc1 := R.c1
    have Rf1 := R.f1
    have Rc2 := R.c2
    have Rf2 := R.f2
    have Rc3 := R.c3
    have Rf3 := R.f3
    have HB := B
    clear R B
    go_wp2
    (try simp only [Exit.inBlock, Exit.then])
    refine bodyPost_ret (v := .tuple #[.agg #[.bool false, .slice none 0 0, .bool false, .slice none 0 0], .bool false]) ?_ rfl ⟨_, by rw [HN.out], by rw [HN.out]; exact nilV _ _, ((((HB.setCell (p := ⟨w.heap.size, 0, none⟩) (by show w.heap.size ≤ w.heap.size; omega) (.bool false)).setCell (p := ⟨w.heap.size, 1, none⟩) (by show w.heap.size ≤ w.heap.size; omega) (.slice none 0 0)).setCell (p := ⟨w.heap.size, 2, none⟩) (by show w.heap.size ≤ w.heap.size; omega) (.bool false)).setCell (p := ⟨w.heap.size, 3, none⟩) (by show w.heap.size ≤ w.heap.size; omega) (.slice none 0 0))⟩
    rw [results_cell_tmp rfl]
    go_simp
  have HN : Hid (gsR n p = ((mkW (gsq p.toNat n.toNat).1, mkW (gsq p.toNat n.toNat).2), true)) := by show _ = _; unfold gsR; rw [if_pos ⟨hp, hn⟩]
  rw [decide_eq_true hn] at kN
  have kG := fun W => sGsq n.toNat p.toNat W (by omega) (by omega)
  rw [show ((n.toNat : Nat) : Int) = n by omega, show ((p.toNat : Nat) : Int) = p by omega] at kG
  generalize gsR n p = rr at *
  generalize mkW (gsq p.toNat n.toNat).1 = e1 at *
  generalize mkW (gsq p.toNat n.toNat).2 = e2 at *
  clear hp hn
  have R := BoxV.made w (.bool false) (.slice none 0 0) (.bool false) (.slice none 0 0) 26
  have B := below1 w (.cells #[.bool false, .slice none 0 0, .bool false, .slice none 0 0] 26)
  go_enter Try.func6, Try.ntmps6
  go_wp2_with fail
  refine (kP _).mono ?_
  generalize w.alloc (.cells #[.bool false, .slice none 0 0, .bool false, .slice none 0 0] 26) = w0 at *
  rintro e w1 ⟨rfl, rfl⟩
  go_wp2_with fail
  refine (kN _).mono ?_
  rintro e w2 ⟨rfl, rfl⟩
  have hR2 := R.hi
  go_wp2_with fail
  refine (kG _).mono ?_
  rintro e w3 ⟨v3, rfl, o3, b3⟩
  replace R := R.below b3 (Nat.le_refl _)
  replace B := B.trans (b3.mono B.size)
  clear b3
  obtain ⟨g, ad, j, cap, g', ae, j', cap', rfl, oV⟩ := ownsV.opened o3
  have Rc0 := R.c0
  have Rf0 := R.f0
  have Rc1 := R.c1
  have Rf1 := R.f1
  have Rc2 := R.c2
  have Rf2 := R.f2
  have Rc3 := R.c3
  have Rf3 := R.f3
  have HV := oV
  have HB := B
  have hbl := fun k hk => (oV.ltb k hk)
  go_wp2
  (try simp only [Exit.inBlock, Exit.then])
  refine bodyPost_ret (v := .tuple #[.agg #[.bool g, .slice ad j cap, .bool g', .slice ae j' cap'], .bool true]) ?_ rfl ⟨_, by rw [HN.out], ?_, ((((HB.setCell (p := ⟨w.heap.size, 0, none⟩) (by show w.heap.size ≤ w.heap.size; omega) (.bool g)).setCell (p := ⟨w.heap.size, 1, none⟩) (by show w.heap.size ≤ w.heap.size; omega) (.slice ad j cap)).setCell (p := ⟨w.heap.size, 2, none⟩) (by show w.heap.size ≤ w.heap.size; omega) (.bool g')).setCell (p := ⟨w.heap.size, 3, none⟩) (by show w.heap.size ≤ w.heap.size; omega) (.slice ae j' cap'))⟩
  · rw [results_cell_tmp rfl]
    go_simp
  · rw [HN.out]
    exact ownsV_mono (HV.tn ((((tnC _ (w.heap.size) 0 (.bool g)).trans (tnC _ (w.heap.size) 1 (.slice ad j cap))).trans (tnC _ (w.heap.size) 2 (.bool g'))).trans (tnC _ (w.heap.size) 3 (.slice ae j' cap'))) (fun k hk hs => by have := (hbl k hk).1; simp at hs; omega)) (by omega)

set_option maxRecDepth 20000 in
set_option maxHeartbeats 6400000 in
theorem sGain (n p : Int) (w : World) :
    Calls Try.prog 11 #[.int .i64 n, .int .i64 p] w fun e w' => ∃ v, e = .returned (.tuple #[v, .bool (gnR n p).2]) ∧ ownsV w' w.heap.size v (gnR n p).1 ∧ Below w.heap.size w w' := by
  have kP := fun W => l13pAt p W
  have kN := fun W => inAt n 0 200 W
  by_cases hp : 1 ≤ p ∧ p ≤ 464
  case neg =>
    have HN : Hid (gnR n p = (((false, []), (false, [])), false)) := by show _ = _; unfold gnR; rw [if_neg (fun q => hp q.1)]
    rw [decide_eq_false hp] at kP
    generalize gnR n p = rr at *
    clear hp
    have R := BoxV.made w (.bool false) (.slice none 0 0) (.bool false) (.slice none 0 0) 26
    have B := below1 w (.cells #[.bool false, .slice none 0 0, .bool false, .slice none 0 0] 26)
    go_enter Try.func11, Try.ntmps11
    go_wp2_with fail
    refine (kP _).mono ?_
    generalize w.alloc (.cells #[.bool false, .slice none 0 0, .bool false, .slice none 0 0] 26) = w0 at *
    rintro e w1 ⟨rfl, rfl⟩
    have Rc0 := R.c0
    have Rf0 := R.f0
    have Rc1 := R.c1
    have Rf1 := R.f1
    have Rc2 := R.c2
    have Rf2 := R.f2
    have Rc3 := R.c3
    have Rf3 := R.f3
    have HB := B
    clear R B
    go_wp2
    (try simp only [Exit.inBlock, Exit.then])
    refine bodyPost_ret (v := .tuple #[.agg #[.bool false, .slice none 0 0, .bool false, .slice none 0 0], .bool false]) ?_ rfl ⟨_, by rw [HN.out], by rw [HN.out]; exact nilV _ _, ((((HB.setCell (p := ⟨w.heap.size, 0, none⟩) (by show w.heap.size ≤ w.heap.size; omega) (.bool false)).setCell (p := ⟨w.heap.size, 1, none⟩) (by show w.heap.size ≤ w.heap.size; omega) (.slice none 0 0)).setCell (p := ⟨w.heap.size, 2, none⟩) (by show w.heap.size ≤ w.heap.size; omega) (.bool false)).setCell (p := ⟨w.heap.size, 3, none⟩) (by show w.heap.size ≤ w.heap.size; omega) (.slice none 0 0))⟩
    rw [results_cell_tmp rfl]
    go_simp
  rw [decide_eq_true hp] at kP
  by_cases hn : 0 ≤ n ∧ n ≤ 200
  case neg =>
    have HN : Hid (gnR n p = (((false, []), (false, [])), false)) := by show _ = _; unfold gnR; rw [if_neg (fun q => hn q.2)]
    rw [decide_eq_false hn] at kN
    generalize gnR n p = rr at *
    clear hp hn
    have R := BoxV.made w (.bool false) (.slice none 0 0) (.bool false) (.slice none 0 0) 26
    have B := below1 w (.cells #[.bool false, .slice none 0 0, .bool false, .slice none 0 0] 26)
    go_enter Try.func11, Try.ntmps11
    go_wp2_with fail
    refine (kP _).mono ?_
    generalize w.alloc (.cells #[.bool false, .slice none 0 0, .bool false, .slice none 0 0] 26) = w0 at *
    rintro e w1 ⟨rfl, rfl⟩
    go_wp2_with fail
    refine (kN _).mono ?_
    rintro e w2 ⟨rfl, rfl⟩
    have Rc0 := R.c0
    have Rf0 := R.f0
    have Rc1 := R.c1
    have Rf1 := R.f1
    have Rc2 := R.c2
    have Rf2 := R.f2
    have Rc3 := R.c3
    have Rf3 := R.f3
    have HB := B
    clear R B
    go_wp2
    (try simp only [Exit.inBlock, Exit.then])
    refine bodyPost_ret (v := .tuple #[.agg #[.bool false, .slice none 0 0, .bool false, .slice none 0 0], .bool false]) ?_ rfl ⟨_, by rw [HN.out], by rw [HN.out]; exact nilV _ _, ((((HB.setCell (p := ⟨w.heap.size, 0, none⟩) (by show w.heap.size ≤ w.heap.size; omega) (.bool false)).setCell (p := ⟨w.heap.size, 1, none⟩) (by show w.heap.size ≤ w.heap.size; omega) (.slice none 0 0)).setCell (p := ⟨w.heap.size, 2, none⟩) (by show w.heap.size ≤ w.heap.size; omega) (.bool false)).setCell (p := ⟨w.heap.size, 3, none⟩) (by show w.heap.size ≤ w.heap.size; omega) (.slice none 0 0))⟩
    rw [results_cell_tmp rfl]
    go_simp
  have HN : Hid (gnR n p = ((mkW (gnLo p.toNat n.toNat), mkW (gnHi p.toNat n.toNat)), true)) := by show _ = _; unfold gnR; rw [if_pos ⟨hp, hn⟩]
  rw [decide_eq_true hn] at kN
  have kG := fun W => sGn n.toNat p.toNat W (by omega) (by omega)
  rw [show ((n.toNat : Nat) : Int) = n by omega, show ((p.toNat : Nat) : Int) = p by omega] at kG
  generalize gnR n p = rr at *
  generalize mkW (gnLo p.toNat n.toNat) = e1 at *
  generalize mkW (gnHi p.toNat n.toNat) = e2 at *
  clear hp hn
  have R := BoxV.made w (.bool false) (.slice none 0 0) (.bool false) (.slice none 0 0) 26
  have B := below1 w (.cells #[.bool false, .slice none 0 0, .bool false, .slice none 0 0] 26)
  go_enter Try.func11, Try.ntmps11
  go_wp2_with fail
  refine (kP _).mono ?_
  generalize w.alloc (.cells #[.bool false, .slice none 0 0, .bool false, .slice none 0 0] 26) = w0 at *
  rintro e w1 ⟨rfl, rfl⟩
  go_wp2_with fail
  refine (kN _).mono ?_
  rintro e w2 ⟨rfl, rfl⟩
  have hR2 := R.hi
  go_wp2_with fail
  refine (kG _).mono ?_
  rintro e w3 ⟨v3, rfl, o3, b3⟩
  replace R := R.below b3 (Nat.le_refl _)
  replace B := B.trans (b3.mono B.size)
  clear b3
  obtain ⟨g, ad, j, cap, g', ae, j', cap', rfl, oV⟩ := ownsV.opened o3
  have Rc0 := R.c0
  have Rf0 := R.f0
  have Rc1 := R.c1
  have Rf1 := R.f1
  have Rc2 := R.c2
  have Rf2 := R.f2
  have Rc3 := R.c3
  have Rf3 := R.f3
  have HV := oV
  have HB := B
  have hbl := fun k hk => (oV.ltb k hk)
  go_wp2
  (try simp only [Exit.inBlock, Exit.then])
  refine bodyPost_ret (v := .tuple #[.agg #[.bool g, .slice ad j cap, .bool g', .slice ae j' cap'], .bool true]) ?_ rfl ⟨_, by rw [HN.out], ?_, ((((HB.setCell (p := ⟨w.heap.size, 0, none⟩) (by show w.heap.size ≤ w.heap.size; omega) (.bool g)).setCell (p := ⟨w.heap.size, 1, none⟩) (by show w.heap.size ≤ w.heap.size; omega) (.slice ad j cap)).setCell (p := ⟨w.heap.size, 2, none⟩) (by show w.heap.size ≤ w.heap.size; omega) (.bool g')).setCell (p := ⟨w.heap.size, 3, none⟩) (by show w.heap.size ≤ w.heap.size; omega) (.slice ae j' cap'))⟩
  · rw [results_cell_tmp rfl]
    go_simp
  · rw [HN.out]
    exact ownsV_mono (HV.tn ((((tnC _ (w.heap.size) 0 (.bool g)).trans (tnC _ (w.heap.size) 1 (.slice ad j cap))).trans (tnC _ (w.heap.size) 2 (.bool g'))).trans (tnC _ (w.heap.size) 3 (.slice ae j' cap'))) (fun k hk hs => by have := (hbl k hk).1; simp at hs; omega)) (by omega)

end Go.Proofs.Ytmbopjjpepbgkaa
