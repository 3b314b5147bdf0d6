/- FnGain: the walk. -/
import Derived.Test.YtlpfjpbnedankaaLawGainM
import Derived.Test.YtlpfjpbnedankaaLB
import Derived.Test.YtlpfjpbnedankaaGQ
import Derived.Test.YtlpfjpbnedankaaIIvMul
import Derived.Test.YtlpfjpbnedankaaIS
import Derived.Test.YtlpfjpbnedankaaIB
import Derived.Test.YtlpfjpbnedankaaIWholeShift
import Derived.Test.YtlpfjpbnedankaaIWholeAdd
import Derived.Test.YtlpfjpbnedankaaIWholeOf
import Derived.Test.YtlpfjpbnedankaaNC
import Derived.Test.YtlpfjpbnedankaaDrX
import Derived.Test.YtlpfjpbnedankaaFB
namespace Go.Proofs.Ytlpfjpbnedankaa
open Go.RowKit
set_option linter.unusedSimpArgs false
set_option linter.unusedVariables false

def CutBANNBANNN (A : Bool → Option Addr → Nat → Nat → Bool → Option Addr → Nat → Nat → Nat → Act) (F : Bool → Option Addr → Nat → Nat → Bool → Option Addr → Nat → Nat → Nat → World → Prop) (a' : Act) (w' : World) : Prop := ∃ (b0 : Bool) (b1 : Option Addr) (b2 : Nat) (b3 : Nat) (b4 : Bool) (b5 : Option Addr) (b6 : Nat) (b7 : Nat) (b8 : Nat), a' = A b0 b1 b2 b3 b4 b5 b6 b7 b8 ∧ F b0 b1 b2 b3 b4 b5 b6 b7 b8 w'
theorem CutBANNBANNN.mk {A : Bool → Option Addr → Nat → Nat → Bool → Option Addr → Nat → Nat → Nat → Act} {F : Bool → Option Addr → Nat → Nat → Bool → Option Addr → Nat → Nat → Nat → World → Prop} {a' : Act} {w' : World} (b0 : Bool) (b1 : Option Addr) (b2 : Nat) (b3 : Nat) (b4 : Bool) (b5 : Option Addr) (b6 : Nat) (b7 : Nat) (b8 : Nat) (ha : a' = A b0 b1 b2 b3 b4 b5 b6 b7 b8) (h : F b0 b1 b2 b3 b4 b5 b6 b7 b8 w') : atEnd (CutBANNBANNN A F) .normal a' w' := ⟨b0, b1, b2, b3, b4, b5, b6, b7, b8, ha, h⟩
theorem wpCutBANNBANNN {P : Program} {c : Code} {Q : Exit → Act → World → Prop} {a : Act} {w : World} (A : Bool → Option Addr → Nat → Nat → Bool → Option Addr → Nat → Nat → Nat → Act) (F : Bool → Option Addr → Nat → Nat → Bool → Option Addr → Nat → Nat → Nat → World → Prop) (hA : c.wp P (atEnd (CutBANNBANNN A F)) a w)
    (hB : ∀ (b0 : Bool) (b1 : Option Addr) (b2 : Nat) (b3 : Nat) (b4 : Bool) (b5 : Option Addr) (b6 : Nat) (b7 : Nat) (b8 : Nat) w', F b0 b1 b2 b3 b4 b5 b6 b7 b8 w' → Q .normal (A b0 b1 b2 b3 b4 b5 b6 b7 b8) w') : c.wp P Q a w :=
  wp_mono hA (atEnd_out fun a' w' ⟨b0, b1, b2, b3, b4, b5, b6, b7, b8, ha, h⟩ => by subst ha; exact hB b0 b1 b2 b3 b4 b5 b6 b7 b8 w' h)

def PmL (k : Nat) (ds : List Int) : Prop := ds.length = k ∧ allPm ds
theorem PmL.zero : PmL 0 [] := ⟨rfl, fun d h => by cases h⟩
theorem PmL.snoc {k : Nat} {ds : List Int} {d : Int} (h : PmL k ds) (hd : d = 1 ∨ d = -1) : (ds ++ [d]).length = k + 1 ∧ allPm (ds ++ [d]) :=
  ⟨by rw [List.length_append, h.1]; rfl, fun x hx => by
    rcases List.mem_append.1 hx with q | q
    · exact h.2 x q
    · have : x = d := by simpa using q
      rw [this]
      exact hd⟩
theorem st0_len : st0.1.1.2.length ≤ 1048576 ∧ st0.1.2.2.length ≤ 1048576 := by
  unfold st0
  rw [mk_one]
  decide
theorem wofone_len : (wofR 1).2.length ≤ 1048576 := by
  unfold wofR
  rw [mk_one]
  decide
theorem pr_len {n : Nat} (h : n < 12) : (mkW (pr n)).2.length ≤ 1048576 := Nat.le_trans (fit_abs (z := (pr n : Int)) (k := 150) (by have := (gpr_le n h).1; omega) (by omega)) (by omega)
theorem st0_row {w : World} {x y : Value} (h : rowW w (.agg #[x, y]) (wofR 1)) : rowP w (.agg #[x, y, .bool false, .slice none 0 0, .int .i64 0]) st0 := by
  obtain ⟨s, e, hr⟩ := h
  injection e with e
  simp at e
  obtain ⟨rfl, rfl⟩ := e
  exact ⟨_, _, rfl, hr, (nilI w 0).row⟩
theorem rowV_of {w : World} {x y z u : Value} {a b : Wh} (h1 : rowW w (.agg #[x, y]) a) (h2 : rowW w (.agg #[z, u]) b) : rowV w (.agg #[x, y, z, u]) (a, b) := by
  obtain ⟨s, e, hr⟩ := h1
  obtain ⟨s', e', hr'⟩ := h2
  injection e with e
  injection e' with e'
  simp at e e'
  obtain ⟨rfl, rfl⟩ := e
  obtain ⟨rfl, rfl⟩ := e'
  exact ⟨_, _, rfl, hr, hr'⟩
set_option maxRecDepth 20000 in
set_option maxHeartbeats 12800000 in
theorem gain_in (a0 : Option Addr) (len cap : Nat) (zs : List Int) (w : World) (hlen : len ≤ 1048576) (hc : CodeIs w a0 len cap zs) :
    Calls Try.prog 3 #[.slice a0 len cap] w fun e w' => e = .returned (.bool true) ∧ Below w.heap.size w w' := by
  have B0_0 : Below w.heap.size w w := Below.refl _ _
  have B0 := B0_0
  clear B0_0 
  go_enter Try.func3, Try.ntmps3
  go_wp2_with fail
  refine (big_b a0 len cap _ hlen).mono ?_
  rintro e w1 ⟨rfl, bb1⟩
  have B1 := B0.trans (bb1.mono B0.size)
  clear B0 bb1
  go_wp2_with fail
  refine (at0_b a0 len cap zs 1 _ hlen (by omega) (hc.below B1)).mono ?_
  rintro e w2 ⟨x, rfl, x0, x1, bb2⟩
  have B2 := B1.trans (bb2.mono B1.size)
  clear B1 bb2
  have hx12 : 0 ≤ x % 12 ∧ x % 12 ≤ 11 := by omega
  go_wp2_with fail
  refine (at0_b a0 len cap zs 2 _ hlen (by omega) (hc.below B2)).mono ?_
  rintro e w3 ⟨y, rfl, y0, y1, bb3⟩
  have B3 := B2.trans (bb3.mono B2.size)
  clear B2 bb3
  have hy100 : 0 ≤ y % 100 ∧ y % 100 ≤ 99 := by omega
  have hw1 : IntKind.i64.wrap (20 + y % 100) = 20 + y % 100 := by rw [IntKind.wrap_i64]; omega
  obtain ⟨n, hn⟩ : ∃ n : Nat, x % 12 = (n : Int) := ⟨(x % 12).toNat, by omega⟩
  obtain ⟨p, hp⟩ : ∃ p : Nat, 20 + y % 100 = (p : Int) := ⟨(20 + y % 100).toNat, by omega⟩
  have n12 : n < 12 := by omega
  have p20 : 20 ≤ p := by omega
  have p120 : p < 120 := by omega
  obtain ⟨G, Q, S, X, Y, f, f1, f2, f3, f4, f5, f6, f7, lG, lQ, lS, lX, lY⟩ := gain_facts n12 p20 p120
  have kG := fun W => iGain n p W
  rw [f1] at kG
  dsimp only at kG
  have kQ := fun W => iGainSquare n p W
  rw [f2] at kQ
  dsimp only at kQ
  have kM := fun u v W (q1 : rowV W u G) (q2 : rowV W v G) => iIvMul u v G G p W q1 q2 lG.1 lG.2 lG.1 lG.2
  rw [f3] at kM
  dsimp only at kM
  have kA := fun u v W (q1 : rowV W u Q) (q2 : rowV W v (X, Y)) => iIvMeet u v Q (X, Y) W q1 q2 lQ.1 lQ.2 lX lY
  rw [f6] at kA
  have kB := fun u v W (q1 : rowV W u S) (q2 : rowV W v Q) => iIvMeet u v S Q W q1 q2 lS.1 lS.2 lQ.1 lQ.2
  rw [f7] at kB
  clear f1 f2 f3 f6 f7
  go_wp2_with fail
  refine (kG _).mono ?_
  rintro e w4 ⟨v, rfl, og, bb4⟩
  obtain ⟨h1, s1, t1, u1, m1, p1, q1, r1, rfl⟩ := og.cell
  replace og := ownsV_mono og B3.size
  have B4 := B3.trans (bb4.mono B3.size)
  clear B3 bb4
  have og4 := og
  clear og
  clear kG
  obtain ⟨w5, hw5⟩ : ∃ v, Hid (v = w4.alloc (.cells #[.bool h1, .slice s1 t1 u1, .bool m1, .slice p1 q1 r1] 29)) := ⟨_, rfl⟩
  have bb5 : Below w4.heap.size w4 w5 := by rw [hw5.out]; exact below1 _ _
  obtain ⟨qb5, hq5⟩ : ∃ v, Hid (v = w4.heap.size) := ⟨_, rfl⟩
  have G5 : BoxL w5 w.heap.size qb5 [.bool h1, .slice s1 t1 u1, .bool m1, .slice p1 q1 r1] := by rw [hw5.out, hq5.out]; exact (BoxL.made w4 [.bool h1, .slice s1 t1 u1, .bool m1, .slice p1 q1 r1] 29).mono B4.size
  have sn5 : w5.heap.size = qb5 + 1 := by rw [hw5.out, hq5.out]; simp
  have B5 := B4.trans (bb5.mono B4.size)
  have og5 := ownsV.below og4 bb5 (Nat.le_refl _)
  have ap_G_og : Apart (blkV (.agg #[.bool h1, .slice s1 t1 u1, .bool m1, .slice p1 q1 r1])) [qb5] := apart_one fun q hq => by rw [hq5.out]; have h1 := (ownsV.ltb og4 q hq).2; omega
  clear B4 og4 bb5
  replace sn5 : Hid (w5.heap.size = qb5 + 1) := sn5
  go_wp2_with fail
  replace sn5 := sn5.out
  rw [← hw5.out]
  (try rw [← hq5.out])
  (try rw [← sn5])
  clear hw5 hq5 sn5
  refine (kQ _).mono ?_
  rintro e w6 ⟨v, rfl, oq, bb6⟩
  obtain ⟨h2, s2, t2, u2, m2, p2, q2, r2, rfl⟩ := oq.cell
  have ap_G_oq : Apart (blkV (.agg #[.bool h2, .slice s2 t2 u2, .bool m2, .slice p2 q2 r2])) [qb5] := apart_one fun q hq => by have h1 := (ownsV.ltb oq q hq).1; have h2 := G5.hi; omega
  have ap_og_oq : Apart (blkV (.agg #[.bool h1, .slice s1 t1 u1, .bool m1, .slice p1 q1 r1])) (blkV (.agg #[.bool h2, .slice s2 t2 u2, .bool m2, .slice p2 q2 r2])) := apart_of (fun k hk => (ownsV.ltb og5 k hk).2) (fun k hk => (ownsV.ltb oq k hk).1)
  replace oq := ownsV_mono oq B5.size
  have B6 := B5.trans (bb6.mono B5.size)
  have og6 := ownsV.below og5 bb6 (Nat.le_refl _)
  have G6 := G5.below bb6 (Nat.le_refl _)
  clear B5 og5 G5 bb6
  have oq6 := oq
  clear oq
  clear kQ
  obtain ⟨w7, hw7⟩ : ∃ v, Hid (v = w6.alloc (.cells #[.bool h2, .slice s2 t2 u2, .bool m2, .slice p2 q2 r2] 29)) := ⟨_, rfl⟩
  have bb7 : Below w6.heap.size w6 w7 := by rw [hw7.out]; exact below1 _ _
  obtain ⟨qb7, hq7⟩ : ∃ v, Hid (v = w6.heap.size) := ⟨_, rfl⟩
  have Q7 : BoxL w7 w.heap.size qb7 [.bool h2, .slice s2 t2 u2, .bool m2, .slice p2 q2 r2] := by rw [hw7.out, hq7.out]; exact (BoxL.made w6 [.bool h2, .slice s2 t2 u2, .bool m2, .slice p2 q2 r2] 29).mono B6.size
  have sn7 : w7.heap.size = qb7 + 1 := by rw [hw7.out, hq7.out]; simp
  have B7 := B6.trans (bb7.mono B6.size)
  have og7 := ownsV.below og6 bb7 (Nat.le_refl _)
  have G7 := G6.below bb7 (Nat.le_refl _)
  have oq7 := ownsV.below oq6 bb7 (Nat.le_refl _)
  have ap_Q_og : Apart (blkV (.agg #[.bool h1, .slice s1 t1 u1, .bool m1, .slice p1 q1 r1])) [qb7] := apart_one fun q hq => by rw [hq7.out]; have h1 := (ownsV.ltb og6 q hq).2; omega
  have lt_G_Q : qb5 < qb7 := by rw [hq7.out]; exact G6.hi
  have ap_Q_oq : Apart (blkV (.agg #[.bool h2, .slice s2 t2 u2, .bool m2, .slice p2 q2 r2])) [qb7] := apart_one fun q hq => by rw [hq7.out]; have h1 := (ownsV.ltb oq6 q hq).2; omega
  clear B6 og6 G6 oq6 bb7
  have c_G_0 := G7.c 0 _ rfl
  have c_G_1 := G7.c 1 _ rfl
  have c_G_2 := G7.c 2 _ rfl
  have c_G_3 := G7.c 3 _ rfl
  rw [hw7.out] at c_G_0
  rw [hw7.out] at c_G_1
  rw [hw7.out] at c_G_2
  rw [hw7.out] at c_G_3
  replace sn7 : Hid (w7.heap.size = qb7 + 1) := sn7
  go_wp2_with fail
  replace sn7 := sn7.out
  rw [← hw7.out]
  (try rw [← hq7.out])
  (try rw [← sn7])
  clear c_G_0 c_G_1 c_G_2 c_G_3
  clear hw7 hq7 sn7
  refine (kM _ _ _ og7.row og7.row).mono ?_
  rintro e w8 ⟨v, rfl, os, bb8⟩
  obtain ⟨h3, s3, t3, u3, m3, p3, q3, r3, rfl⟩ := os.cell
  have ap_G_os : Apart (blkV (.agg #[.bool h3, .slice s3 t3 u3, .bool m3, .slice p3 q3 r3])) [qb5] := apart_one fun q hq => by have h1 := (ownsV.ltb os q hq).1; have h2 := G7.hi; omega
  have ap_Q_os : Apart (blkV (.agg #[.bool h3, .slice s3 t3 u3, .bool m3, .slice p3 q3 r3])) [qb7] := apart_one fun q hq => by have h1 := (ownsV.ltb os q hq).1; have h2 := Q7.hi; omega
  have ap_og_os : Apart (blkV (.agg #[.bool h1, .slice s1 t1 u1, .bool m1, .slice p1 q1 r1])) (blkV (.agg #[.bool h3, .slice s3 t3 u3, .bool m3, .slice p3 q3 r3])) := apart_of (fun k hk => (ownsV.ltb og7 k hk).2) (fun k hk => (ownsV.ltb os k hk).1)
  have ap_oq_os : Apart (blkV (.agg #[.bool h2, .slice s2 t2 u2, .bool m2, .slice p2 q2 r2])) (blkV (.agg #[.bool h3, .slice s3 t3 u3, .bool m3, .slice p3 q3 r3])) := apart_of (fun k hk => (ownsV.ltb oq7 k hk).2) (fun k hk => (ownsV.ltb os k hk).1)
  replace os := ownsV_mono os B7.size
  have B8 := B7.trans (bb8.mono B7.size)
  have og8 := ownsV.below og7 bb8 (Nat.le_refl _)
  have G8 := G7.below bb8 (Nat.le_refl _)
  have oq8 := ownsV.below oq7 bb8 (Nat.le_refl _)
  have Q8 := Q7.below bb8 (Nat.le_refl _)
  clear B7 og7 G7 oq7 Q7 bb8
  have os8 := os
  clear os
  clear kM
  clear og8 G8
  obtain ⟨w9, hw9⟩ : ∃ v, Hid (v = w8.alloc (.cells #[.bool h3, .slice s3 t3 u3, .bool m3, .slice p3 q3 r3] 29)) := ⟨_, rfl⟩
  have bb9 : Below w8.heap.size w8 w9 := by rw [hw9.out]; exact below1 _ _
  obtain ⟨qb9, hq9⟩ : ∃ v, Hid (v = w8.heap.size) := ⟨_, rfl⟩
  have S9 : BoxL w9 w.heap.size qb9 [.bool h3, .slice s3 t3 u3, .bool m3, .slice p3 q3 r3] := by rw [hw9.out, hq9.out]; exact (BoxL.made w8 [.bool h3, .slice s3 t3 u3, .bool m3, .slice p3 q3 r3] 29).mono B8.size
  have sn9 : w9.heap.size = qb9 + 1 := by rw [hw9.out, hq9.out]; simp
  have B9 := B8.trans (bb9.mono B8.size)
  have oq9 := ownsV.below oq8 bb9 (Nat.le_refl _)
  have Q9 := Q8.below bb9 (Nat.le_refl _)
  have os9 := ownsV.below os8 bb9 (Nat.le_refl _)
  have ap_S_oq : Apart (blkV (.agg #[.bool h2, .slice s2 t2 u2, .bool m2, .slice p2 q2 r2])) [qb9] := apart_one fun q hq => by rw [hq9.out]; have h1 := (ownsV.ltb oq8 q hq).2; omega
  have lt_Q_S : qb7 < qb9 := by rw [hq9.out]; exact Q8.hi
  have ap_S_os : Apart (blkV (.agg #[.bool h3, .slice s3 t3 u3, .bool m3, .slice p3 q3 r3])) [qb9] := apart_one fun q hq => by rw [hq9.out]; have h1 := (ownsV.ltb os8 q hq).2; omega
  clear B8 oq8 Q8 os8 bb9
  replace sn9 : Hid (w9.heap.size = qb9 + 1) := sn9
  go_wp2_with fail
  replace sn9 := sn9.out
  rw [← hw9.out]
  (try rw [← hq9.out])
  (try rw [← sn9])
  clear hw9 hq9 sn9
  obtain ⟨bz, hbz⟩ : ∃ q, w9.heap.size = q := ⟨_, rfl⟩
  have hB0 : Below w9.heap.size w9 (w9.alloc (.cells #[] 3)) := below1 _ _
  have ho0 := made_empty w9
  have hp0 : Hid (PmL 0 []) := (PmL.zero : PmL 0 [])
  go_loopw [12, 11] (fun z0 z1 wr => ∃ (k : Nat) (ds : List Int) (sd : Option Addr) (cd : Nat), k ≤ n ∧ z0 = .int .i64 (k : Int) ∧ z1 = .slice sd k cd ∧ Hid (PmL k ds) ∧ ownsI wr w9.heap.size (.slice sd k cd) ds ∧ Below w9.heap.size w9 wr) (fun z0 _ _ => n - (intOf z0).toNat)
  case atStart => exact ⟨0, [], _, _, Nat.zero_le _, rfl, rfl, hp0, ho0, hB0⟩
  case round =>
    clear hp0 ho0 hB0 hbz bz
    obtain ⟨k, ds, sd, cd, hk, rfl, rfl, hpm, hown, hbl⟩ := hrel
    by_cases hlt : k < n
    case pos =>
      have hlt2 : (k : Int) < (n : Int) := by omega
      have hBr := B9.trans (hbl.mono B9.size)
      have hk3 : (3 : Int) + (k : Int) = ((k + 3 : Nat) : Int) := by omega
      have kT := at0_b a0 len cap zs (k + 3) wr hlen (by omega) (hc.below hBr)
      rw [← hk3] at kT
      clear hk3
      go_wp2_with fail
      refine kT.mono ?_
      rintro e wq ⟨t, rfl, t0, t1, bq⟩
      clear kT
      have hv1 : IntKind.i64.wrap (2 * (t % 2)) = 2 * (t % 2) := by rw [IntKind.wrap_i64]; omega
      have hv2 : IntKind.i64.wrap (1 - 2 * (t % 2)) = 1 - 2 * (t % 2) := by rw [IntKind.wrap_i64]; omega
      have hd1 : 1 - 2 * (t % 2) = 1 ∨ 1 - 2 * (t % 2) = -1 := by omega
      obtain ⟨d, hd⟩ : ∃ d, 1 - 2 * (t % 2) = d := ⟨_, rfl⟩
      rw [hd] at hd1
      have hlo : ds.length ≤ 1099511627776 := by rw [hpm.out.1]; omega
      have hown9 := ownsI.below hown bq (Nat.le_refl _)
      have hbl9 := hbl.trans (bq.mono hbl.size)
      have hsz9 := hbl9.size
      clear hown hbl bq hBr
      go_wp2_with (at_builtin; refine wpI_app w9 wq rfl (.tmp 59) (.tmp 67) rfl w9.heap.size _ _ _ rfl hown9 hbl9 rfl hlo hsz9 ?_; intro v1 w2 o1 b1; obtain ⟨s8, c8, e8, -⟩ := o1.row; rw [(hpm.out.snoc hd1).1] at e8; subst e8)
      go_roundw
      case rel => exact ⟨k + 1, ds ++ [d], s8, c8, by omega, by go_num, rfl, hpm.out.snoc hd1, o1, b1⟩
      case measure => simp [intOf]; omega
    case neg =>
      obtain rfl : n = k := by omega
      have hlt2 : ¬ (n : Int) < (n : Int) := by omega
      have B10 := B9.trans (hbl.mono B9.size)
      have oq10 := ownsV.below oq9 hbl (Nat.le_refl _)
      have Q10 := Q9.below hbl (Nat.le_refl _)
      have os10 := ownsV.below os9 hbl (Nat.le_refl _)
      have S10 := S9.below hbl (Nat.le_refl _)
      have ap_Q_ods : Apart (blkI (.slice sd n cd)) [qb7] := apart_one fun q hq => by have h1 := (hown.ltb q hq).1; have h2 := Q9.hi; omega
      have ap_S_ods : Apart (blkI (.slice sd n cd)) [qb9] := apart_one fun q hq => by have h1 := (hown.ltb q hq).1; have h2 := S9.hi; omega
      have ods10 := ownsI_mono hown B9.size
      clear hown
      clear B9 oq9 Q9 os9 S9 hbl
      obtain ⟨T, g1, lT, g3, g4⟩ := gain_run hpm.out.2 hpm.out.1 n12
      have hl9 : ds.length ≤ 1048576 := by rw [hpm.out.1]; omega
      have kR := fun u v W (q1 : rowP W u st0) (q2 : rowI W v ds) => iSpinRun u v st0 ds W q1 st0_len.1 st0_len.2 q2 hl9
      rw [g1] at kR
      dsimp only at kR
      have kN := fun v W (q : rowP W v T) => iNormSquare v T W q lT.1 lT.2
      rw [g4] at kN
      have lN : (mkW (pr n)).2.length ≤ 1048576 := pr_len n12
      have kF := fun v W (q : rowW W v (mkW (pr n))) => iWholeShift v (mkW (pr n)) ((p : Int) - 2 * tri n) W q lN
      rw [f4] at kF
      dsimp only at kF
      have kO := fun W => iWholeOf 1 W (by omega) (by omega)
      have kS := fun u v W (q1 : rowW W u X) (q2 : rowW W v (wofR 1)) => iWholeAdd u v X (wofR 1) W q1 q2 lX wofone_len
      rw [f5] at kS
      dsimp only at kS
      clear f4 f5 g1 g4
      have h66 := (gpr_le n n12).2.1
      obtain ⟨N, hN⟩ : ∃ N : Int, ((tri n : Nat) : Int) = N := ⟨_, rfl⟩
      have N0 : 0 ≤ N ∧ N ≤ 66 := by omega
      rw [hN] at kF g3
      clear hN h66
      go_wp2_with fail
      refine (kO _).mono ?_
      rintro e w11 ⟨v, rfl, oo, bb11⟩
      obtain ⟨h4, s4, t4, u4, rfl⟩ := oo.cell
      have ap_Q_oo : Apart (blkW (.agg #[.bool h4, .slice s4 t4 u4])) [qb7] := apart_one fun q hq => by have h1 := (ownsW.ltb oo q hq).1; have h2 := Q10.hi; omega
      have ap_S_oo : Apart (blkW (.agg #[.bool h4, .slice s4 t4 u4])) [qb9] := apart_one fun q hq => by have h1 := (ownsW.ltb oo q hq).1; have h2 := S10.hi; omega
      have ap_oo_oq : Apart (blkW (.agg #[.bool h4, .slice s4 t4 u4])) (blkV (.agg #[.bool h2, .slice s2 t2 u2, .bool m2, .slice p2 q2 r2])) := Apart.symm (apart_of (fun k hk => (ownsV.ltb oq10 k hk).2) (fun k hk => (ownsW.ltb oo k hk).1))
      have ap_oo_os : Apart (blkW (.agg #[.bool h4, .slice s4 t4 u4])) (blkV (.agg #[.bool h3, .slice s3 t3 u3, .bool m3, .slice p3 q3 r3])) := Apart.symm (apart_of (fun k hk => (ownsV.ltb os10 k hk).2) (fun k hk => (ownsW.ltb oo k hk).1))
      have ap_ods_oo : Apart (blkI (.slice sd n cd)) (blkW (.agg #[.bool h4, .slice s4 t4 u4])) := apart_of (fun k hk => (ownsI.ltb ods10 k hk).2) (fun k hk => (ownsW.ltb oo k hk).1)
      replace oo := ownsW_mono oo B10.size
      have B11 := B10.trans (bb11.mono B10.size)
      have oq11 := ownsV.below oq10 bb11 (Nat.le_refl _)
      have Q11 := Q10.below bb11 (Nat.le_refl _)
      have os11 := ownsV.below os10 bb11 (Nat.le_refl _)
      have S11 := S10.below bb11 (Nat.le_refl _)
      have ods11 := ownsI.below ods10 bb11 (Nat.le_refl _)
      clear B10 oq10 Q10 os10 S10 ods10 bb11
      have oo11 := oo
      clear oo
      go_wp2_with fail
      refine (kR _ _ _ (st0_row oo11.row) ods11.row).mono ?_
      rintro e w12 ⟨v, rfl, ot, bb12⟩
      obtain ⟨h5, s5, t5, u5, m5, p5, q5, r5, eq5⟩ := ot.cell
      obtain ⟨k5, hk5⟩ : ∃ q, T.2 = q := ⟨_, rfl⟩
      rw [hk5] at eq5
      subst eq5
      replace hk5 : Hid (T.2 = k5) := hk5
      obtain rfl : k5 = N := hk5.out.symm.trans g3
      clear hk5
      have ap_Q_ot : Apart (blkP (.agg #[.bool h5, .slice s5 t5 u5, .bool m5, .slice p5 q5 r5, .int .i64 k5])) [qb7] := apart_one fun q hq => by have h1 := (ownsP.ltb ot q hq).1; have h2 := Q11.hi; omega
      have ap_S_ot : Apart (blkP (.agg #[.bool h5, .slice s5 t5 u5, .bool m5, .slice p5 q5 r5, .int .i64 k5])) [qb9] := apart_one fun q hq => by have h1 := (ownsP.ltb ot q hq).1; have h2 := S11.hi; omega
      have ap_oq_ot : Apart (blkV (.agg #[.bool h2, .slice s2 t2 u2, .bool m2, .slice p2 q2 r2])) (blkP (.agg #[.bool h5, .slice s5 t5 u5, .bool m5, .slice p5 q5 r5, .int .i64 k5])) := apart_of (fun k hk => (ownsV.ltb oq11 k hk).2) (fun k hk => (ownsP.ltb ot k hk).1)
      have ap_os_ot : Apart (blkV (.agg #[.bool h3, .slice s3 t3 u3, .bool m3, .slice p3 q3 r3])) (blkP (.agg #[.bool h5, .slice s5 t5 u5, .bool m5, .slice p5 q5 r5, .int .i64 k5])) := apart_of (fun k hk => (ownsV.ltb os11 k hk).2) (fun k hk => (ownsP.ltb ot k hk).1)
      have ap_ods_ot : Apart (blkI (.slice sd n cd)) (blkP (.agg #[.bool h5, .slice s5 t5 u5, .bool m5, .slice p5 q5 r5, .int .i64 k5])) := apart_of (fun k hk => (ownsI.ltb ods11 k hk).2) (fun k hk => (ownsP.ltb ot k hk).1)
      have ap_oo_ot : Apart (blkW (.agg #[.bool h4, .slice s4 t4 u4])) (blkP (.agg #[.bool h5, .slice s5 t5 u5, .bool m5, .slice p5 q5 r5, .int .i64 k5])) := apart_of (fun k hk => (ownsW.ltb oo11 k hk).2) (fun k hk => (ownsP.ltb ot k hk).1)
      replace ot := ownsP_mono ot B11.size
      have B12 := B11.trans (bb12.mono B11.size)
      have oq12 := ownsV.below oq11 bb12 (Nat.le_refl _)
      have Q12 := Q11.below bb12 (Nat.le_refl _)
      have os12 := ownsV.below os11 bb12 (Nat.le_refl _)
      have S12 := S11.below bb12 (Nat.le_refl _)
      have ods12 := ownsI.below ods11 bb12 (Nat.le_refl _)
      have oo12 := ownsW.below oo11 bb12 (Nat.le_refl _)
      clear B11 oq11 Q11 os11 S11 ods11 oo11 bb12
      have ot12 := ot
      clear ot
      clear kR
      clear oo12 ods12
      obtain ⟨w13, hw13⟩ : ∃ v, Hid (v = w12.alloc (.cells #[.bool h5, .slice s5 t5 u5, .bool m5, .slice p5 q5 r5, .int .i64 k5] 34)) := ⟨_, rfl⟩
      have bb13 : Below w12.heap.size w12 w13 := by rw [hw13.out]; exact below1 _ _
      obtain ⟨qb13, hq13⟩ : ∃ v, Hid (v = w12.heap.size) := ⟨_, rfl⟩
      have T13 : BoxL w13 w.heap.size qb13 [.bool h5, .slice s5 t5 u5, .bool m5, .slice p5 q5 r5, .int .i64 k5] := by rw [hw13.out, hq13.out]; exact (BoxL.made w12 [.bool h5, .slice s5 t5 u5, .bool m5, .slice p5 q5 r5, .int .i64 k5] 34).mono B12.size
      have sn13 : w13.heap.size = qb13 + 1 := by rw [hw13.out, hq13.out]; simp
      have B13 := B12.trans (bb13.mono B12.size)
      have oq13 := ownsV.below oq12 bb13 (Nat.le_refl _)
      have Q13 := Q12.below bb13 (Nat.le_refl _)
      have os13 := ownsV.below os12 bb13 (Nat.le_refl _)
      have S13 := S12.below bb13 (Nat.le_refl _)
      have ot13 := ownsP.below ot12 bb13 (Nat.le_refl _)
      have ap_T_oq : Apart (blkV (.agg #[.bool h2, .slice s2 t2 u2, .bool m2, .slice p2 q2 r2])) [qb13] := apart_one fun q hq => by rw [hq13.out]; have h1 := (ownsV.ltb oq12 q hq).2; omega
      have lt_Q_T : qb7 < qb13 := by rw [hq13.out]; exact Q12.hi
      have ap_T_os : Apart (blkV (.agg #[.bool h3, .slice s3 t3 u3, .bool m3, .slice p3 q3 r3])) [qb13] := apart_one fun q hq => by rw [hq13.out]; have h1 := (ownsV.ltb os12 q hq).2; omega
      have lt_S_T : qb9 < qb13 := by rw [hq13.out]; exact S12.hi
      have ap_T_ot : Apart (blkP (.agg #[.bool h5, .slice s5 t5 u5, .bool m5, .slice p5 q5 r5, .int .i64 k5])) [qb13] := apart_one fun q hq => by rw [hq13.out]; have h1 := (ownsP.ltb ot12 q hq).2; omega
      clear B12 oq12 Q12 os12 S12 ot12 bb13
      replace sn13 : Hid (w13.heap.size = qb13 + 1) := sn13
      go_wp2_with fail
      replace sn13 := sn13.out
      rw [← hw13.out]
      (try rw [← hq13.out])
      (try rw [← sn13])
      clear hw13 hq13 sn13
      have hv3 : IntKind.i64.wrap (2 * k5) = 2 * k5 := by rw [IntKind.wrap_i64]; omega
      have hv4 : IntKind.i64.wrap ((p : Int) - 2 * k5) = (p : Int) - 2 * k5 := by rw [IntKind.wrap_i64]; omega
      obtain ⟨w14, hw14⟩ : ∃ v, Hid (v = w13.drew) := ⟨_, rfl⟩
      have bd : Below w13.heap.size w13 w14 := by rw [hw14.out]; exact (Below.refl w13.heap.size w13).drew
      have B14 := B13.trans (bd.mono B13.size)
      have oq14 := ownsV.below oq13 bd (Nat.le_refl _)
      have Q14 := Q13.below bd (Nat.le_refl _)
      have os14 := ownsV.below os13 bd (Nat.le_refl _)
      have S14 := S13.below bd (Nat.le_refl _)
      have ot14 := ownsP.below ot13 bd (Nat.le_refl _)
      have T14 := T13.below bd (Nat.le_refl _)
      clear B13 oq13 Q13 os13 S13 ot13 T13 bd
      apply wpCutBANNBANNN (F := fun h6 s6 t6 u6 h7 s7 t7 u7 qb17 W => Below w.heap.size w W  ∧ BoxL W w.heap.size qb7 [.bool h2, .slice s2 t2 u2, .bool m2, .slice p2 q2 r2] ∧ BoxL W w.heap.size qb9 [.bool h3, .slice s3 t3 u3, .bool m3, .slice p3 q3 r3] ∧ BoxL W w.heap.size qb13 [.bool h5, .slice s5 t5 u5, .bool m5, .slice p5 q5 r5, .int .i64 k5] ∧ BoxL W w.heap.size qb17 [.bool h7, .slice s7 t7 u7] ∧ ownsV W w.heap.size (.agg #[.bool h2, .slice s2 t2 u2, .bool m2, .slice p2 q2 r2]) Q ∧ ownsV W w.heap.size (.agg #[.bool h3, .slice s3 t3 u3, .bool m3, .slice p3 q3 r3]) S ∧ ownsP W w.heap.size (.agg #[.bool h5, .slice s5 t5 u5, .bool m5, .slice p5 q5 r5, .int .i64 k5]) T ∧ ownsW W w.heap.size (.agg #[.bool h7, .slice s7 t7 u7]) X ∧ Apart (blkW (.agg #[.bool h7, .slice s7 t7 u7])) [qb7] ∧ Apart (blkW (.agg #[.bool h7, .slice s7 t7 u7])) [qb9] ∧ Apart (blkW (.agg #[.bool h7, .slice s7 t7 u7])) [qb13] ∧ Apart (blkV (.agg #[.bool h2, .slice s2 t2 u2, .bool m2, .slice p2 q2 r2])) [qb17] ∧ Apart (blkV (.agg #[.bool h3, .slice s3 t3 u3, .bool m3, .slice p3 q3 r3])) [qb17] ∧ Apart (blkP (.agg #[.bool h5, .slice s5 t5 u5, .bool m5, .slice p5 q5 r5, .int .i64 k5])) [qb17] ∧ Apart (blkW (.agg #[.bool h7, .slice s7 t7 u7])) [qb17] ∧ Apart (blkV (.agg #[.bool h2, .slice s2 t2 u2, .bool m2, .slice p2 q2 r2])) (blkW (.agg #[.bool h7, .slice s7 t7 u7])) ∧ Apart (blkV (.agg #[.bool h3, .slice s3 t3 u3, .bool m3, .slice p3 q3 r3])) (blkW (.agg #[.bool h7, .slice s7 t7 u7])) ∧ Apart (blkP (.agg #[.bool h5, .slice s5 t5 u5, .bool m5, .slice p5 q5 r5, .int .i64 k5])) (blkW (.agg #[.bool h7, .slice s7 t7 u7])) ∧ qb7 < qb17 ∧ qb9 < qb17 ∧ qb13 < qb17)
      case hA =>
        have hH : (fun W : World => W.cell? ⟨qb13, 0, none⟩ = some (.bool h5) ∧ W.cell? ⟨qb13, 1, none⟩ = some (.slice s5 t5 u5) ∧ W.cell? ⟨qb13, 2, none⟩ = some (.bool m5) ∧ W.cell? ⟨qb13, 3, none⟩ = some (.slice p5 q5 r5) ∧ W.cell? ⟨qb13, 4, none⟩ = some (.int .i64 k5)) w14 := ⟨T14.c 0 _ rfl, T14.c 1 _ rfl, T14.c 2 _ rfl, T14.c 3 _ rfl, T14.c 4 _ rfl⟩
        refine wp_region_held_drew (S := fun W => W.cell? ⟨qb13, 0, none⟩ = some (.bool h5) ∧ W.cell? ⟨qb13, 1, none⟩ = some (.slice s5 t5 u5) ∧ W.cell? ⟨qb13, 2, none⟩ = some (.bool m5) ∧ W.cell? ⟨qb13, 3, none⟩ = some (.slice p5 q5 r5) ∧ W.cell? ⟨qb13, 4, none⟩ = some (.int .i64 k5)) (by kernel_rfl) (by rw [← hw14.out]; exact hH) ?_
        intro _
        rw [← hw14.out]
        refine takeH 0 (some 83) (.agg #[.bool h5, .slice s5 t5 u5, .bool m5, .slice p5 q5 r5, .int .i64 k5]) rfl rfl (by kernel_rfl) (by kernel_rfl) (by kernel_rfl) (fun _ _ _ h => h) (Or.inl ⟨rfl, fun W hW => by obtain ⟨l0, l1, l2, l3, l4⟩ := hW; go_simp⟩) hH ?_
        simp only [Act.put, List.setIfInBounds_toArray, List.set_cons_zero, List.set_cons_succ]
        refine takeH 2 (some 85) (.int .i64 (p : Int)) rfl rfl (by kernel_rfl) (by kernel_rfl) (by kernel_rfl) (fun _ _ _ h => h) (Or.inl ⟨rfl, fun W hW => by go_simp⟩) hH ?_
        simp only [Act.put, List.setIfInBounds_toArray, List.set_cons_zero, List.set_cons_succ]
        refine takeH 3 (some 86) (.pointer (some ⟨qb13, 4, none⟩)) rfl rfl (by kernel_rfl) (by kernel_rfl) (by kernel_rfl) (fun _ _ _ h => h) (Or.inl ⟨rfl, fun W hW => by go_simp⟩) hH ?_
        simp only [Act.put, List.setIfInBounds_toArray, List.set_cons_zero, List.set_cons_succ]
        refine takeH 4 (some 87) (.int .i64 k5) rfl rfl (by kernel_rfl) (by kernel_rfl) (by kernel_rfl) (fun _ _ _ h => h) (Or.inl ⟨rfl, fun W hW => by obtain ⟨l0, l1, l2, l3, l4⟩ := hW; go_simp⟩) hH ?_
        simp only [Act.put, List.setIfInBounds_toArray, List.set_cons_zero, List.set_cons_succ]
        refine takeH 5 (some 88) (.int .i64 (2 * k5)) rfl rfl (by kernel_rfl) (by kernel_rfl) (by kernel_rfl) (fun _ _ _ h => h) (Or.inl ⟨rfl, fun W hW => by go_simp⟩) hH ?_
        simp only [Act.put, List.setIfInBounds_toArray, List.set_cons_zero, List.set_cons_succ]
        refine takeH 6 (some 89) (.int .i64 ((p : Int) - 2 * k5)) rfl rfl (by kernel_rfl) (by kernel_rfl) (by kernel_rfl) (fun _ _ _ h => h) (Or.inl ⟨rfl, fun W hW => by go_simp⟩) hH ?_
        simp only [Act.put, List.setIfInBounds_toArray, List.set_cons_zero, List.set_cons_succ]
        refine wpAnyH_ready (rs := [1, 11]) (by kernel_rfl) (by simp) ?_
        refine AllReadyH.cons rfl (fun K hK => ?_) ?_
        · go_simp
          refine (kN _ _ ot14.row).mono ?_
          rintro e w15 ⟨v, rfl, on, bb15⟩
          obtain ⟨h6, s6, t6, u6, rfl⟩ := on.cell
          have ap_Q_on : Apart (blkW (.agg #[.bool h6, .slice s6 t6 u6])) [qb7] := apart_one fun q hq => by have h1 := (ownsW.ltb on q hq).1; have h2 := Q14.hi; omega
          have ap_S_on : Apart (blkW (.agg #[.bool h6, .slice s6 t6 u6])) [qb9] := apart_one fun q hq => by have h1 := (ownsW.ltb on q hq).1; have h2 := S14.hi; omega
          have ap_T_on : Apart (blkW (.agg #[.bool h6, .slice s6 t6 u6])) [qb13] := apart_one fun q hq => by have h1 := (ownsW.ltb on q hq).1; have h2 := T14.hi; omega
          have ap_on_oq : Apart (blkW (.agg #[.bool h6, .slice s6 t6 u6])) (blkV (.agg #[.bool h2, .slice s2 t2 u2, .bool m2, .slice p2 q2 r2])) := Apart.symm (apart_of (fun k hk => (ownsV.ltb oq14 k hk).2) (fun k hk => (ownsW.ltb on k hk).1))
          have ap_on_os : Apart (blkW (.agg #[.bool h6, .slice s6 t6 u6])) (blkV (.agg #[.bool h3, .slice s3 t3 u3, .bool m3, .slice p3 q3 r3])) := Apart.symm (apart_of (fun k hk => (ownsV.ltb os14 k hk).2) (fun k hk => (ownsW.ltb on k hk).1))
          have ap_on_ot : Apart (blkW (.agg #[.bool h6, .slice s6 t6 u6])) (blkP (.agg #[.bool h5, .slice s5 t5 u5, .bool m5, .slice p5 q5 r5, .int .i64 k5])) := Apart.symm (apart_of (fun k hk => (ownsP.ltb ot14 k hk).2) (fun k hk => (ownsW.ltb on k hk).1))
          replace on := ownsW_mono on B14.size
          have B15 := B14.trans (bb15.mono B14.size)
          have oq15 := ownsV.below oq14 bb15 (Nat.le_refl _)
          have Q15 := Q14.below bb15 (Nat.le_refl _)
          have os15 := ownsV.below os14 bb15 (Nat.le_refl _)
          have S15 := S14.below bb15 (Nat.le_refl _)
          have ot15 := ownsP.below ot14 bb15 (Nat.le_refl _)
          have T15 := T14.below bb15 (Nat.le_refl _)
          clear bb15 hH
          have on15 := on
          clear on
          have hH : (fun W : World => W.cell? ⟨qb13, 0, none⟩ = some (.bool h5) ∧ W.cell? ⟨qb13, 1, none⟩ = some (.slice s5 t5 u5) ∧ W.cell? ⟨qb13, 2, none⟩ = some (.bool m5) ∧ W.cell? ⟨qb13, 3, none⟩ = some (.slice p5 q5 r5) ∧ W.cell? ⟨qb13, 4, none⟩ = some (.int .i64 k5)) w15 := ⟨T15.c 0 _ rfl, T15.c 1 _ rfl, T15.c 2 _ rfl, T15.c 3 _ rfl, T15.c 4 _ rfl⟩
          refine hK.out _ _ hH (fun _ => ?_)
          clear hK K
          refine wpAnyH_ready (rs := [7, 11]) (by kernel_rfl) (by simp) ?_
          refine AllReadyH.cons rfl (fun K hK => ?_) ?_
          · go_simp
            refine (kF _ _ on15.row).mono ?_
            rintro e w16 ⟨v, rfl, ox, bb16⟩
            obtain ⟨h7, s7, t7, u7, rfl⟩ := ox.cell
            have ap_Q_ox : Apart (blkW (.agg #[.bool h7, .slice s7 t7 u7])) [qb7] := apart_one fun q hq => by have h1 := (ownsW.ltb ox q hq).1; have h2 := Q15.hi; omega
            have ap_S_ox : Apart (blkW (.agg #[.bool h7, .slice s7 t7 u7])) [qb9] := apart_one fun q hq => by have h1 := (ownsW.ltb ox q hq).1; have h2 := S15.hi; omega
            have ap_T_ox : Apart (blkW (.agg #[.bool h7, .slice s7 t7 u7])) [qb13] := apart_one fun q hq => by have h1 := (ownsW.ltb ox q hq).1; have h2 := T15.hi; omega
            have ap_oq_ox : Apart (blkV (.agg #[.bool h2, .slice s2 t2 u2, .bool m2, .slice p2 q2 r2])) (blkW (.agg #[.bool h7, .slice s7 t7 u7])) := apart_of (fun k hk => (ownsV.ltb oq15 k hk).2) (fun k hk => (ownsW.ltb ox k hk).1)
            have ap_os_ox : Apart (blkV (.agg #[.bool h3, .slice s3 t3 u3, .bool m3, .slice p3 q3 r3])) (blkW (.agg #[.bool h7, .slice s7 t7 u7])) := apart_of (fun k hk => (ownsV.ltb os15 k hk).2) (fun k hk => (ownsW.ltb ox k hk).1)
            have ap_ot_ox : Apart (blkP (.agg #[.bool h5, .slice s5 t5 u5, .bool m5, .slice p5 q5 r5, .int .i64 k5])) (blkW (.agg #[.bool h7, .slice s7 t7 u7])) := apart_of (fun k hk => (ownsP.ltb ot15 k hk).2) (fun k hk => (ownsW.ltb ox k hk).1)
            have ap_on_ox : Apart (blkW (.agg #[.bool h6, .slice s6 t6 u6])) (blkW (.agg #[.bool h7, .slice s7 t7 u7])) := apart_of (fun k hk => (ownsW.ltb on15 k hk).2) (fun k hk => (ownsW.ltb ox k hk).1)
            replace ox := ownsW_mono ox B15.size
            have B16 := B15.trans (bb16.mono B15.size)
            have oq16 := ownsV.below oq15 bb16 (Nat.le_refl _)
            have Q16 := Q15.below bb16 (Nat.le_refl _)
            have os16 := ownsV.below os15 bb16 (Nat.le_refl _)
            have S16 := S15.below bb16 (Nat.le_refl _)
            have ot16 := ownsP.below ot15 bb16 (Nat.le_refl _)
            have T16 := T15.below bb16 (Nat.le_refl _)
            have on16 := ownsW.below on15 bb16 (Nat.le_refl _)
            clear B15 oq15 Q15 os15 S15 ot15 T15 on15 bb16 hH
            have ox16 := ox
            clear ox
            clear on16
            have hH : (fun W : World => W.cell? ⟨qb13, 0, none⟩ = some (.bool h5) ∧ W.cell? ⟨qb13, 1, none⟩ = some (.slice s5 t5 u5) ∧ W.cell? ⟨qb13, 2, none⟩ = some (.bool m5) ∧ W.cell? ⟨qb13, 3, none⟩ = some (.slice p5 q5 r5) ∧ W.cell? ⟨qb13, 4, none⟩ = some (.int .i64 k5)) w16 := ⟨T16.c 0 _ rfl, T16.c 1 _ rfl, T16.c 2 _ rfl, T16.c 3 _ rfl, T16.c 4 _ rfl⟩
            refine hK.out _ _ hH (fun _ => ?_)
            clear hK K
            refine takeH 8 (some 82) (.tuple #[.agg #[.bool h7, .slice s7 t7 u7], .bool true]) rfl rfl (by kernel_rfl) (by kernel_rfl) (by kernel_rfl) (fun _ _ _ h => h) (Or.inl ⟨rfl, fun W hW => by go_simp⟩) hH ?_
            simp only [Act.put, List.setIfInBounds_toArray, List.set_cons_zero, List.set_cons_succ]
            refine takeH 9 (some 91) (.agg #[.bool h7, .slice s7 t7 u7]) rfl rfl (by kernel_rfl) (by kernel_rfl) (by kernel_rfl) (fun _ _ _ h => h) (Or.inl ⟨rfl, fun W hW => by go_simp⟩) hH ?_
            simp only [Act.put, List.setIfInBounds_toArray, List.set_cons_zero, List.set_cons_succ]
            refine takeH 10 (some 92) (.bool true) rfl rfl (by kernel_rfl) (by kernel_rfl) (by kernel_rfl) (fun _ _ _ h => h) (Or.inl ⟨rfl, fun W hW => by go_simp⟩) hH ?_
            simp only [Act.put, List.setIfInBounds_toArray, List.set_cons_zero, List.set_cons_succ]
            refine oneH 11 rfl (by kernel_rfl) (fun K' hK => ?_)
            go_simp
            clear hH
            obtain ⟨w17, hw17⟩ : ∃ v, v = w16.alloc (.cells #[.bool false, .slice none 0 0] 27) := ⟨_, rfl⟩
            have bb17 : Below w16.heap.size w16 w17 := by rw [hw17]; exact below1 _ _
            obtain ⟨qb17, hq17⟩ : ∃ v, v = w16.heap.size := ⟨_, rfl⟩
            have X17 : BoxL w17 w.heap.size qb17 [.bool false, .slice none 0 0] := by rw [hw17, hq17]; exact (BoxL.made w16 [.bool false, .slice none 0 0] 27).mono B16.size
            have sn17 : w17.heap.size = qb17 + 1 := by rw [hw17, hq17]; simp
            rw [← hw17]
            (try rw [← hq17])
            clear hw17
            have B17 := B16.trans (bb17.mono B16.size)
            have oq17 := ownsV.below oq16 bb17 (Nat.le_refl _)
            have Q17 := Q16.below bb17 (Nat.le_refl _)
            have os17 := ownsV.below os16 bb17 (Nat.le_refl _)
            have S17 := S16.below bb17 (Nat.le_refl _)
            have ot17 := ownsP.below ot16 bb17 (Nat.le_refl _)
            have T17 := T16.below bb17 (Nat.le_refl _)
            have ox17 := ownsW.below ox16 bb17 (Nat.le_refl _)
            have ap_X_oq : Apart (blkV (.agg #[.bool h2, .slice s2 t2 u2, .bool m2, .slice p2 q2 r2])) [qb17] := apart_one fun q hq => by have h1 := (ownsV.ltb oq16 q hq).2; omega
            have lt_Q_X : qb7 < qb17 := by rw [hq17]; exact Q16.hi
            have ap_X_os : Apart (blkV (.agg #[.bool h3, .slice s3 t3 u3, .bool m3, .slice p3 q3 r3])) [qb17] := apart_one fun q hq => by have h1 := (ownsV.ltb os16 q hq).2; omega
            have lt_S_X : qb9 < qb17 := by rw [hq17]; exact S16.hi
            have ap_X_ot : Apart (blkP (.agg #[.bool h5, .slice s5 t5 u5, .bool m5, .slice p5 q5 r5, .int .i64 k5])) [qb17] := apart_one fun q hq => by have h1 := (ownsP.ltb ot16 q hq).2; omega
            have lt_T_X : qb13 < qb17 := by rw [hq17]; exact T16.hi
            have ap_X_ox : Apart (blkW (.agg #[.bool h7, .slice s7 t7 u7])) [qb17] := apart_one fun q hq => by have h1 := (ownsW.ltb ox16 q hq).2; omega
            clear B16 oq16 Q16 os16 S16 ot16 T16 ox16 bb17 hq17 sn17
            have hH : (fun W : World => W.cell? ⟨qb13, 0, none⟩ = some (.bool h5) ∧ W.cell? ⟨qb13, 1, none⟩ = some (.slice s5 t5 u5) ∧ W.cell? ⟨qb13, 2, none⟩ = some (.bool m5) ∧ W.cell? ⟨qb13, 3, none⟩ = some (.slice p5 q5 r5) ∧ W.cell? ⟨qb13, 4, none⟩ = some (.int .i64 k5)) w17 := ⟨T17.c 0 _ rfl, T17.c 1 _ rfl, T17.c 2 _ rfl, T17.c 3 _ rfl, T17.c 4 _ rfl⟩
            refine hK _ _ hH ?_
            clear hK
            have c_X_0 := X17.c 0 _ rfl
            have f_X_0 := X17.f 0 _ rfl
            have c_X_1 := X17.c 1 _ rfl
            have f_X_1 := X17.f 1 _ rfl
            refine oneH 12 rfl (by kernel_rfl) (fun K' hK => ?_)
            go_simp
            obtain ⟨w18, hw18⟩ : ∃ v, v = (w17.setCell ⟨qb17, 0, none⟩ (.bool h7)).setCell ⟨qb17, 1, none⟩ (.slice s7 t7 u7) := ⟨_, rfl⟩
            have tn18 : Tn [qb17] w17 w18 := by rw [hw18]; exact ((tnL w17 qb17 0 (.bool h7)).trans (tnL _ qb17 1 (.slice s7 t7 u7)))
            have X18 : BoxL w18 w.heap.size qb17 [.bool h7, .slice s7 t7 u7] := by rw [hw18]; exact ((X17.set 0 (.bool h7) (by simp)).set 1 (.slice s7 t7 u7) (by simp))
            have blo18 := X17.lo
            rw [← hw18]
            clear hw18
            have B18 := tn18.below B17 B17.size (fun q hq => by simp at hq; omega)
            have oq18 := ownsV.tn oq17 tn18 ap_X_oq
            have Q18 := Q17.tn tn18 (not_one (by omega))
            have os18 := ownsV.tn os17 tn18 ap_X_os
            have S18 := S17.tn tn18 (not_one (by omega))
            have ot18 := ownsP.tn ot17 tn18 ap_X_ot
            have T18 := T17.tn tn18 (not_one (by omega))
            have ox18 := ownsW.tn ox17 tn18 ap_X_ox
            clear B17 oq17 Q17 os17 S17 ot17 T17 ox17 X17 tn18 blo18
            clear c_X_0 f_X_0 c_X_1 f_X_1
            clear hH
            have hH : (fun W : World => W.cell? ⟨qb13, 0, none⟩ = some (.bool h5) ∧ W.cell? ⟨qb13, 1, none⟩ = some (.slice s5 t5 u5) ∧ W.cell? ⟨qb13, 2, none⟩ = some (.bool m5) ∧ W.cell? ⟨qb13, 3, none⟩ = some (.slice p5 q5 r5) ∧ W.cell? ⟨qb13, 4, none⟩ = some (.int .i64 k5)) w18 := ⟨T18.c 0 _ rfl, T18.c 1 _ rfl, T18.c 2 _ rfl, T18.c 3 _ rfl, T18.c 4 _ rfl⟩
            refine hK _ _ hH ?_
            clear hK
            refine takeH 13 (some 16) (.bool true) rfl rfl (by kernel_rfl) (by kernel_rfl) (by kernel_rfl) (fun _ _ _ h => h) (Or.inl ⟨rfl, fun W hW => by go_simp⟩) hH ?_
            simp only [Act.put, List.setIfInBounds_toArray, List.set_cons_zero, List.set_cons_succ]
            clear hH
            refine wpAnyH_done (by kernel_rfl) ?_ _
            exact CutBANNBANNN.mk h6 s6 t6 u6 h7 s7 t7 u7 qb17 rfl ⟨B18, Q18, S18, T18, X18, oq18, os18, ot18, ox18, ap_Q_ox, ap_S_ox, ap_T_ox, ap_X_oq, ap_X_os, ap_X_ot, ap_X_ox, ap_oq_ox, ap_os_ox, ap_ot_ox, lt_Q_X, lt_S_X, lt_T_X⟩
          refine AllReadyH.cons rfl (fun K hK => ?_) ?_
          · go_simp
            clear hH
            obtain ⟨w16, hw16⟩ : ∃ v, v = w15.alloc (.cells #[.bool false, .slice none 0 0] 27) := ⟨_, rfl⟩
            have bb16 : Below w15.heap.size w15 w16 := by rw [hw16]; exact below1 _ _
            obtain ⟨qb16, hq16⟩ : ∃ v, v = w15.heap.size := ⟨_, rfl⟩
            have X16 : BoxL w16 w.heap.size qb16 [.bool false, .slice none 0 0] := by rw [hw16, hq16]; exact (BoxL.made w15 [.bool false, .slice none 0 0] 27).mono B15.size
            have sn16 : w16.heap.size = qb16 + 1 := by rw [hw16, hq16]; simp
            rw [← hw16]
            (try rw [← hq16])
            clear hw16
            have B16 := B15.trans (bb16.mono B15.size)
            have oq16 := ownsV.below oq15 bb16 (Nat.le_refl _)
            have Q16 := Q15.below bb16 (Nat.le_refl _)
            have os16 := ownsV.below os15 bb16 (Nat.le_refl _)
            have S16 := S15.below bb16 (Nat.le_refl _)
            have ot16 := ownsP.below ot15 bb16 (Nat.le_refl _)
            have T16 := T15.below bb16 (Nat.le_refl _)
            have on16 := ownsW.below on15 bb16 (Nat.le_refl _)
            have ap_X_oq : Apart (blkV (.agg #[.bool h2, .slice s2 t2 u2, .bool m2, .slice p2 q2 r2])) [qb16] := apart_one fun q hq => by have h1 := (ownsV.ltb oq15 q hq).2; omega
            have lt_Q_X : qb7 < qb16 := by rw [hq16]; exact Q15.hi
            have ap_X_os : Apart (blkV (.agg #[.bool h3, .slice s3 t3 u3, .bool m3, .slice p3 q3 r3])) [qb16] := apart_one fun q hq => by have h1 := (ownsV.ltb os15 q hq).2; omega
            have lt_S_X : qb9 < qb16 := by rw [hq16]; exact S15.hi
            have ap_X_ot : Apart (blkP (.agg #[.bool h5, .slice s5 t5 u5, .bool m5, .slice p5 q5 r5, .int .i64 k5])) [qb16] := apart_one fun q hq => by have h1 := (ownsP.ltb ot15 q hq).2; omega
            have lt_T_X : qb13 < qb16 := by rw [hq16]; exact T15.hi
            have ap_X_on : Apart (blkW (.agg #[.bool h6, .slice s6 t6 u6])) [qb16] := apart_one fun q hq => by have h1 := (ownsW.ltb on15 q hq).2; omega
            clear B15 oq15 Q15 os15 S15 ot15 T15 on15 bb16 hq16 sn16
            have hH : (fun W : World => W.cell? ⟨qb13, 0, none⟩ = some (.bool h5) ∧ W.cell? ⟨qb13, 1, none⟩ = some (.slice s5 t5 u5) ∧ W.cell? ⟨qb13, 2, none⟩ = some (.bool m5) ∧ W.cell? ⟨qb13, 3, none⟩ = some (.slice p5 q5 r5) ∧ W.cell? ⟨qb13, 4, none⟩ = some (.int .i64 k5)) w16 := ⟨T16.c 0 _ rfl, T16.c 1 _ rfl, T16.c 2 _ rfl, T16.c 3 _ rfl, T16.c 4 _ rfl⟩
            refine hK.out _ _ hH (fun _ => ?_)
            clear hK K
            refine oneH 7 rfl (by kernel_rfl) (fun K' hK => ?_)
            go_simp
            refine (kF _ _ on16.row).mono ?_
            rintro e w17 ⟨v, rfl, ox, bb17⟩
            obtain ⟨h7, s7, t7, u7, rfl⟩ := ox.cell
            have ap_Q_ox : Apart (blkW (.agg #[.bool h7, .slice s7 t7 u7])) [qb7] := apart_one fun q hq => by have h1 := (ownsW.ltb ox q hq).1; have h2 := Q16.hi; omega
            have ap_S_ox : Apart (blkW (.agg #[.bool h7, .slice s7 t7 u7])) [qb9] := apart_one fun q hq => by have h1 := (ownsW.ltb ox q hq).1; have h2 := S16.hi; omega
            have ap_T_ox : Apart (blkW (.agg #[.bool h7, .slice s7 t7 u7])) [qb13] := apart_one fun q hq => by have h1 := (ownsW.ltb ox q hq).1; have h2 := T16.hi; omega
            have ap_X_ox : Apart (blkW (.agg #[.bool h7, .slice s7 t7 u7])) [qb16] := apart_one fun q hq => by have h1 := (ownsW.ltb ox q hq).1; have h2 := X16.hi; omega
            have ap_oq_ox : Apart (blkV (.agg #[.bool h2, .slice s2 t2 u2, .bool m2, .slice p2 q2 r2])) (blkW (.agg #[.bool h7, .slice s7 t7 u7])) := apart_of (fun k hk => (ownsV.ltb oq16 k hk).2) (fun k hk => (ownsW.ltb ox k hk).1)
            have ap_os_ox : Apart (blkV (.agg #[.bool h3, .slice s3 t3 u3, .bool m3, .slice p3 q3 r3])) (blkW (.agg #[.bool h7, .slice s7 t7 u7])) := apart_of (fun k hk => (ownsV.ltb os16 k hk).2) (fun k hk => (ownsW.ltb ox k hk).1)
            have ap_ot_ox : Apart (blkP (.agg #[.bool h5, .slice s5 t5 u5, .bool m5, .slice p5 q5 r5, .int .i64 k5])) (blkW (.agg #[.bool h7, .slice s7 t7 u7])) := apart_of (fun k hk => (ownsP.ltb ot16 k hk).2) (fun k hk => (ownsW.ltb ox k hk).1)
            have ap_on_ox : Apart (blkW (.agg #[.bool h6, .slice s6 t6 u6])) (blkW (.agg #[.bool h7, .slice s7 t7 u7])) := apart_of (fun k hk => (ownsW.ltb on16 k hk).2) (fun k hk => (ownsW.ltb ox k hk).1)
            replace ox := ownsW_mono ox B16.size
            have B17 := B16.trans (bb17.mono B16.size)
            have oq17 := ownsV.below oq16 bb17 (Nat.le_refl _)
            have Q17 := Q16.below bb17 (Nat.le_refl _)
            have os17 := ownsV.below os16 bb17 (Nat.le_refl _)
            have S17 := S16.below bb17 (Nat.le_refl _)
            have ot17 := ownsP.below ot16 bb17 (Nat.le_refl _)
            have T17 := T16.below bb17 (Nat.le_refl _)
            have on17 := ownsW.below on16 bb17 (Nat.le_refl _)
            have X17 := X16.below bb17 (Nat.le_refl _)
            clear B16 oq16 Q16 os16 S16 ot16 T16 on16 X16 bb17 hH
            have ox17 := ox
            clear ox
            clear on17
            have hH : (fun W : World => W.cell? ⟨qb13, 0, none⟩ = some (.bool h5) ∧ W.cell? ⟨qb13, 1, none⟩ = some (.slice s5 t5 u5) ∧ W.cell? ⟨qb13, 2, none⟩ = some (.bool m5) ∧ W.cell? ⟨qb13, 3, none⟩ = some (.slice p5 q5 r5) ∧ W.cell? ⟨qb13, 4, none⟩ = some (.int .i64 k5)) w17 := ⟨T17.c 0 _ rfl, T17.c 1 _ rfl, T17.c 2 _ rfl, T17.c 3 _ rfl, T17.c 4 _ rfl⟩
            refine hK _ _ hH ?_
            clear hK
            refine takeH 8 (some 82) (.tuple #[.agg #[.bool h7, .slice s7 t7 u7], .bool true]) rfl rfl (by kernel_rfl) (by kernel_rfl) (by kernel_rfl) (fun _ _ _ h => h) (Or.inl ⟨rfl, fun W hW => by go_simp⟩) hH ?_
            simp only [Act.put, List.setIfInBounds_toArray, List.set_cons_zero, List.set_cons_succ]
            refine takeH 9 (some 91) (.agg #[.bool h7, .slice s7 t7 u7]) rfl rfl (by kernel_rfl) (by kernel_rfl) (by kernel_rfl) (fun _ _ _ h => h) (Or.inl ⟨rfl, fun W hW => by go_simp⟩) hH ?_
            simp only [Act.put, List.setIfInBounds_toArray, List.set_cons_zero, List.set_cons_succ]
            refine takeH 10 (some 92) (.bool true) rfl rfl (by kernel_rfl) (by kernel_rfl) (by kernel_rfl) (fun _ _ _ h => h) (Or.inl ⟨rfl, fun W hW => by go_simp⟩) hH ?_
            simp only [Act.put, List.setIfInBounds_toArray, List.set_cons_zero, List.set_cons_succ]
            have c_X_0 := X17.c 0 _ rfl
            have f_X_0 := X17.f 0 _ rfl
            have c_X_1 := X17.c 1 _ rfl
            have f_X_1 := X17.f 1 _ rfl
            refine oneH 12 rfl (by kernel_rfl) (fun K' hK => ?_)
            go_simp
            obtain ⟨w18, hw18⟩ : ∃ v, v = (w17.setCell ⟨qb16, 0, none⟩ (.bool h7)).setCell ⟨qb16, 1, none⟩ (.slice s7 t7 u7) := ⟨_, rfl⟩
            have tn18 : Tn [qb16] w17 w18 := by rw [hw18]; exact ((tnL w17 qb16 0 (.bool h7)).trans (tnL _ qb16 1 (.slice s7 t7 u7)))
            have X18 : BoxL w18 w.heap.size qb16 [.bool h7, .slice s7 t7 u7] := by rw [hw18]; exact ((X17.set 0 (.bool h7) (by simp)).set 1 (.slice s7 t7 u7) (by simp))
            have blo18 := X17.lo
            rw [← hw18]
            clear hw18
            have B18 := tn18.below B17 B17.size (fun q hq => by simp at hq; omega)
            have oq18 := ownsV.tn oq17 tn18 ap_X_oq
            have Q18 := Q17.tn tn18 (not_one (by omega))
            have os18 := ownsV.tn os17 tn18 ap_X_os
            have S18 := S17.tn tn18 (not_one (by omega))
            have ot18 := ownsP.tn ot17 tn18 ap_X_ot
            have T18 := T17.tn tn18 (not_one (by omega))
            have ox18 := ownsW.tn ox17 tn18 ap_X_ox
            clear B17 oq17 Q17 os17 S17 ot17 T17 X17 ox17 tn18 blo18
            clear c_X_0 f_X_0 c_X_1 f_X_1
            clear hH
            have hH : (fun W : World => W.cell? ⟨qb13, 0, none⟩ = some (.bool h5) ∧ W.cell? ⟨qb13, 1, none⟩ = some (.slice s5 t5 u5) ∧ W.cell? ⟨qb13, 2, none⟩ = some (.bool m5) ∧ W.cell? ⟨qb13, 3, none⟩ = some (.slice p5 q5 r5) ∧ W.cell? ⟨qb13, 4, none⟩ = some (.int .i64 k5)) w18 := ⟨T18.c 0 _ rfl, T18.c 1 _ rfl, T18.c 2 _ rfl, T18.c 3 _ rfl, T18.c 4 _ rfl⟩
            refine hK _ _ hH ?_
            clear hK
            refine takeH 13 (some 16) (.bool true) rfl rfl (by kernel_rfl) (by kernel_rfl) (by kernel_rfl) (fun _ _ _ h => h) (Or.inl ⟨rfl, fun W hW => by go_simp⟩) hH ?_
            simp only [Act.put, List.setIfInBounds_toArray, List.set_cons_zero, List.set_cons_succ]
            clear hH
            refine wpAnyH_done (by kernel_rfl) ?_ _
            exact CutBANNBANNN.mk h6 s6 t6 u6 h7 s7 t7 u7 qb16 rfl ⟨B18, Q18, S18, T18, X18, oq18, os18, ot18, ox18, ap_Q_ox, ap_S_ox, ap_T_ox, ap_X_oq, ap_X_os, ap_X_ot, ap_X_ox, ap_oq_ox, ap_os_ox, ap_ot_ox, lt_Q_X, lt_S_X, lt_T_X⟩
          exact AllReadyH.nil
        refine AllReadyH.cons rfl (fun K hK => ?_) ?_
        · go_simp
          clear hH
          obtain ⟨w15, hw15⟩ : ∃ v, v = w14.alloc (.cells #[.bool false, .slice none 0 0] 27) := ⟨_, rfl⟩
          have bb15 : Below w14.heap.size w14 w15 := by rw [hw15]; exact below1 _ _
          obtain ⟨qb15, hq15⟩ : ∃ v, v = w14.heap.size := ⟨_, rfl⟩
          have X15 : BoxL w15 w.heap.size qb15 [.bool false, .slice none 0 0] := by rw [hw15, hq15]; exact (BoxL.made w14 [.bool false, .slice none 0 0] 27).mono B14.size
          have sn15 : w15.heap.size = qb15 + 1 := by rw [hw15, hq15]; simp
          rw [← hw15]
          (try rw [← hq15])
          clear hw15
          have B15 := B14.trans (bb15.mono B14.size)
          have oq15 := ownsV.below oq14 bb15 (Nat.le_refl _)
          have Q15 := Q14.below bb15 (Nat.le_refl _)
          have os15 := ownsV.below os14 bb15 (Nat.le_refl _)
          have S15 := S14.below bb15 (Nat.le_refl _)
          have ot15 := ownsP.below ot14 bb15 (Nat.le_refl _)
          have T15 := T14.below bb15 (Nat.le_refl _)
          have ap_X_oq : Apart (blkV (.agg #[.bool h2, .slice s2 t2 u2, .bool m2, .slice p2 q2 r2])) [qb15] := apart_one fun q hq => by have h1 := (ownsV.ltb oq14 q hq).2; omega
          have lt_Q_X : qb7 < qb15 := by rw [hq15]; exact Q14.hi
          have ap_X_os : Apart (blkV (.agg #[.bool h3, .slice s3 t3 u3, .bool m3, .slice p3 q3 r3])) [qb15] := apart_one fun q hq => by have h1 := (ownsV.ltb os14 q hq).2; omega
          have lt_S_X : qb9 < qb15 := by rw [hq15]; exact S14.hi
          have ap_X_ot : Apart (blkP (.agg #[.bool h5, .slice s5 t5 u5, .bool m5, .slice p5 q5 r5, .int .i64 k5])) [qb15] := apart_one fun q hq => by have h1 := (ownsP.ltb ot14 q hq).2; omega
          have lt_T_X : qb13 < qb15 := by rw [hq15]; exact T14.hi
          clear bb15 hq15 sn15
          have hH : (fun W : World => W.cell? ⟨qb13, 0, none⟩ = some (.bool h5) ∧ W.cell? ⟨qb13, 1, none⟩ = some (.slice s5 t5 u5) ∧ W.cell? ⟨qb13, 2, none⟩ = some (.bool m5) ∧ W.cell? ⟨qb13, 3, none⟩ = some (.slice p5 q5 r5) ∧ W.cell? ⟨qb13, 4, none⟩ = some (.int .i64 k5)) w15 := ⟨T15.c 0 _ rfl, T15.c 1 _ rfl, T15.c 2 _ rfl, T15.c 3 _ rfl, T15.c 4 _ rfl⟩
          refine hK.out _ _ hH (fun _ => ?_)
          clear hK K
          refine oneH 1 rfl (by kernel_rfl) (fun K' hK => ?_)
          go_simp
          refine (kN _ _ ot15.row).mono ?_
          rintro e w16 ⟨v, rfl, on, bb16⟩
          obtain ⟨h6, s6, t6, u6, rfl⟩ := on.cell
          have ap_Q_on : Apart (blkW (.agg #[.bool h6, .slice s6 t6 u6])) [qb7] := apart_one fun q hq => by have h1 := (ownsW.ltb on q hq).1; have h2 := Q15.hi; omega
          have ap_S_on : Apart (blkW (.agg #[.bool h6, .slice s6 t6 u6])) [qb9] := apart_one fun q hq => by have h1 := (ownsW.ltb on q hq).1; have h2 := S15.hi; omega
          have ap_T_on : Apart (blkW (.agg #[.bool h6, .slice s6 t6 u6])) [qb13] := apart_one fun q hq => by have h1 := (ownsW.ltb on q hq).1; have h2 := T15.hi; omega
          have ap_X_on : Apart (blkW (.agg #[.bool h6, .slice s6 t6 u6])) [qb15] := apart_one fun q hq => by have h1 := (ownsW.ltb on q hq).1; have h2 := X15.hi; omega
          have ap_on_oq : Apart (blkW (.agg #[.bool h6, .slice s6 t6 u6])) (blkV (.agg #[.bool h2, .slice s2 t2 u2, .bool m2, .slice p2 q2 r2])) := Apart.symm (apart_of (fun k hk => (ownsV.ltb oq15 k hk).2) (fun k hk => (ownsW.ltb on k hk).1))
          have ap_on_os : Apart (blkW (.agg #[.bool h6, .slice s6 t6 u6])) (blkV (.agg #[.bool h3, .slice s3 t3 u3, .bool m3, .slice p3 q3 r3])) := Apart.symm (apart_of (fun k hk => (ownsV.ltb os15 k hk).2) (fun k hk => (ownsW.ltb on k hk).1))
          have ap_on_ot : Apart (blkW (.agg #[.bool h6, .slice s6 t6 u6])) (blkP (.agg #[.bool h5, .slice s5 t5 u5, .bool m5, .slice p5 q5 r5, .int .i64 k5])) := Apart.symm (apart_of (fun k hk => (ownsP.ltb ot15 k hk).2) (fun k hk => (ownsW.ltb on k hk).1))
          replace on := ownsW_mono on B15.size
          have B16 := B15.trans (bb16.mono B15.size)
          have oq16 := ownsV.below oq15 bb16 (Nat.le_refl _)
          have Q16 := Q15.below bb16 (Nat.le_refl _)
          have os16 := ownsV.below os15 bb16 (Nat.le_refl _)
          have S16 := S15.below bb16 (Nat.le_refl _)
          have ot16 := ownsP.below ot15 bb16 (Nat.le_refl _)
          have T16 := T15.below bb16 (Nat.le_refl _)
          have X16 := X15.below bb16 (Nat.le_refl _)
          clear B15 oq15 Q15 os15 S15 ot15 T15 X15 bb16 hH
          have on16 := on
          clear on
          have hH : (fun W : World => W.cell? ⟨qb13, 0, none⟩ = some (.bool h5) ∧ W.cell? ⟨qb13, 1, none⟩ = some (.slice s5 t5 u5) ∧ W.cell? ⟨qb13, 2, none⟩ = some (.bool m5) ∧ W.cell? ⟨qb13, 3, none⟩ = some (.slice p5 q5 r5) ∧ W.cell? ⟨qb13, 4, none⟩ = some (.int .i64 k5)) w16 := ⟨T16.c 0 _ rfl, T16.c 1 _ rfl, T16.c 2 _ rfl, T16.c 3 _ rfl, T16.c 4 _ rfl⟩
          refine hK _ _ hH ?_
          clear hK
          refine oneH 7 rfl (by kernel_rfl) (fun K' hK => ?_)
          go_simp
          refine (kF _ _ on16.row).mono ?_
          rintro e w17 ⟨v, rfl, ox, bb17⟩
          obtain ⟨h7, s7, t7, u7, rfl⟩ := ox.cell
          have ap_Q_ox : Apart (blkW (.agg #[.bool h7, .slice s7 t7 u7])) [qb7] := apart_one fun q hq => by have h1 := (ownsW.ltb ox q hq).1; have h2 := Q16.hi; omega
          have ap_S_ox : Apart (blkW (.agg #[.bool h7, .slice s7 t7 u7])) [qb9] := apart_one fun q hq => by have h1 := (ownsW.ltb ox q hq).1; have h2 := S16.hi; omega
          have ap_T_ox : Apart (blkW (.agg #[.bool h7, .slice s7 t7 u7])) [qb13] := apart_one fun q hq => by have h1 := (ownsW.ltb ox q hq).1; have h2 := T16.hi; omega
          have ap_X_ox : Apart (blkW (.agg #[.bool h7, .slice s7 t7 u7])) [qb15] := apart_one fun q hq => by have h1 := (ownsW.ltb ox q hq).1; have h2 := X16.hi; omega
          have ap_oq_ox : Apart (blkV (.agg #[.bool h2, .slice s2 t2 u2, .bool m2, .slice p2 q2 r2])) (blkW (.agg #[.bool h7, .slice s7 t7 u7])) := apart_of (fun k hk => (ownsV.ltb oq16 k hk).2) (fun k hk => (ownsW.ltb ox k hk).1)
          have ap_os_ox : Apart (blkV (.agg #[.bool h3, .slice s3 t3 u3, .bool m3, .slice p3 q3 r3])) (blkW (.agg #[.bool h7, .slice s7 t7 u7])) := apart_of (fun k hk => (ownsV.ltb os16 k hk).2) (fun k hk => (ownsW.ltb ox k hk).1)
          have ap_ot_ox : Apart (blkP (.agg #[.bool h5, .slice s5 t5 u5, .bool m5, .slice p5 q5 r5, .int .i64 k5])) (blkW (.agg #[.bool h7, .slice s7 t7 u7])) := apart_of (fun k hk => (ownsP.ltb ot16 k hk).2) (fun k hk => (ownsW.ltb ox k hk).1)
          have ap_on_ox : Apart (blkW (.agg #[.bool h6, .slice s6 t6 u6])) (blkW (.agg #[.bool h7, .slice s7 t7 u7])) := apart_of (fun k hk => (ownsW.ltb on16 k hk).2) (fun k hk => (ownsW.ltb ox k hk).1)
          replace ox := ownsW_mono ox B16.size
          have B17 := B16.trans (bb17.mono B16.size)
          have oq17 := ownsV.below oq16 bb17 (Nat.le_refl _)
          have Q17 := Q16.below bb17 (Nat.le_refl _)
          have os17 := ownsV.below os16 bb17 (Nat.le_refl _)
          have S17 := S16.below bb17 (Nat.le_refl _)
          have ot17 := ownsP.below ot16 bb17 (Nat.le_refl _)
          have T17 := T16.below bb17 (Nat.le_refl _)
          have X17 := X16.below bb17 (Nat.le_refl _)
          have on17 := ownsW.below on16 bb17 (Nat.le_refl _)
          clear B16 oq16 Q16 os16 S16 ot16 T16 X16 on16 bb17 hH
          have ox17 := ox
          clear ox
          clear on17
          have hH : (fun W : World => W.cell? ⟨qb13, 0, none⟩ = some (.bool h5) ∧ W.cell? ⟨qb13, 1, none⟩ = some (.slice s5 t5 u5) ∧ W.cell? ⟨qb13, 2, none⟩ = some (.bool m5) ∧ W.cell? ⟨qb13, 3, none⟩ = some (.slice p5 q5 r5) ∧ W.cell? ⟨qb13, 4, none⟩ = some (.int .i64 k5)) w17 := ⟨T17.c 0 _ rfl, T17.c 1 _ rfl, T17.c 2 _ rfl, T17.c 3 _ rfl, T17.c 4 _ rfl⟩
          refine hK _ _ hH ?_
          clear hK
          refine takeH 8 (some 82) (.tuple #[.agg #[.bool h7, .slice s7 t7 u7], .bool true]) rfl rfl (by kernel_rfl) (by kernel_rfl) (by kernel_rfl) (fun _ _ _ h => h) (Or.inl ⟨rfl, fun W hW => by go_simp⟩) hH ?_
          simp only [Act.put, List.setIfInBounds_toArray, List.set_cons_zero, List.set_cons_succ]
          refine takeH 9 (some 91) (.agg #[.bool h7, .slice s7 t7 u7]) rfl rfl (by kernel_rfl) (by kernel_rfl) (by kernel_rfl) (fun _ _ _ h => h) (Or.inl ⟨rfl, fun W hW => by go_simp⟩) hH ?_
          simp only [Act.put, List.setIfInBounds_toArray, List.set_cons_zero, List.set_cons_succ]
          refine takeH 10 (some 92) (.bool true) rfl rfl (by kernel_rfl) (by kernel_rfl) (by kernel_rfl) (fun _ _ _ h => h) (Or.inl ⟨rfl, fun W hW => by go_simp⟩) hH ?_
          simp only [Act.put, List.setIfInBounds_toArray, List.set_cons_zero, List.set_cons_succ]
          have c_X_0 := X17.c 0 _ rfl
          have f_X_0 := X17.f 0 _ rfl
          have c_X_1 := X17.c 1 _ rfl
          have f_X_1 := X17.f 1 _ rfl
          refine oneH 12 rfl (by kernel_rfl) (fun K' hK => ?_)
          go_simp
          obtain ⟨w18, hw18⟩ : ∃ v, v = (w17.setCell ⟨qb15, 0, none⟩ (.bool h7)).setCell ⟨qb15, 1, none⟩ (.slice s7 t7 u7) := ⟨_, rfl⟩
          have tn18 : Tn [qb15] w17 w18 := by rw [hw18]; exact ((tnL w17 qb15 0 (.bool h7)).trans (tnL _ qb15 1 (.slice s7 t7 u7)))
          have X18 : BoxL w18 w.heap.size qb15 [.bool h7, .slice s7 t7 u7] := by rw [hw18]; exact ((X17.set 0 (.bool h7) (by simp)).set 1 (.slice s7 t7 u7) (by simp))
          have blo18 := X17.lo
          rw [← hw18]
          clear hw18
          have B18 := tn18.below B17 B17.size (fun q hq => by simp at hq; omega)
          have oq18 := ownsV.tn oq17 tn18 ap_X_oq
          have Q18 := Q17.tn tn18 (not_one (by omega))
          have os18 := ownsV.tn os17 tn18 ap_X_os
          have S18 := S17.tn tn18 (not_one (by omega))
          have ot18 := ownsP.tn ot17 tn18 ap_X_ot
          have T18 := T17.tn tn18 (not_one (by omega))
          have ox18 := ownsW.tn ox17 tn18 ap_X_ox
          clear B17 oq17 Q17 os17 S17 ot17 T17 X17 ox17 tn18 blo18
          clear c_X_0 f_X_0 c_X_1 f_X_1
          clear hH
          have hH : (fun W : World => W.cell? ⟨qb13, 0, none⟩ = some (.bool h5) ∧ W.cell? ⟨qb13, 1, none⟩ = some (.slice s5 t5 u5) ∧ W.cell? ⟨qb13, 2, none⟩ = some (.bool m5) ∧ W.cell? ⟨qb13, 3, none⟩ = some (.slice p5 q5 r5) ∧ W.cell? ⟨qb13, 4, none⟩ = some (.int .i64 k5)) w18 := ⟨T18.c 0 _ rfl, T18.c 1 _ rfl, T18.c 2 _ rfl, T18.c 3 _ rfl, T18.c 4 _ rfl⟩
          refine hK _ _ hH ?_
          clear hK
          refine takeH 13 (some 16) (.bool true) rfl rfl (by kernel_rfl) (by kernel_rfl) (by kernel_rfl) (fun _ _ _ h => h) (Or.inl ⟨rfl, fun W hW => by go_simp⟩) hH ?_
          simp only [Act.put, List.setIfInBounds_toArray, List.set_cons_zero, List.set_cons_succ]
          clear hH
          refine wpAnyH_done (by kernel_rfl) ?_ _
          exact CutBANNBANNN.mk h6 s6 t6 u6 h7 s7 t7 u7 qb15 rfl ⟨B18, Q18, S18, T18, X18, oq18, os18, ot18, ox18, ap_Q_ox, ap_S_ox, ap_T_ox, ap_X_oq, ap_X_os, ap_X_ot, ap_X_ox, ap_oq_ox, ap_os_ox, ap_ot_ox, lt_Q_X, lt_S_X, lt_T_X⟩
        exact AllReadyH.nil
      case hB =>
        rintro h6 s6 t6 u6 h7 s7 t7 u7 qb17 w19 ⟨B19, Q19, S19, T19, X19, oq19, os19, ot19, ox19, ap_Q_ox, ap_S_ox, ap_T_ox, ap_X_oq, ap_X_os, ap_X_ot, ap_X_ox, ap_oq_ox, ap_os_ox, ap_ot_ox, lt_Q_X, lt_S_X, lt_T_X⟩
        clear kN kF
        clear ot19 T19
        go_wp2_with fail
        obtain ⟨w20, hw20⟩ : ∃ v, Hid (v = w19.drew) := ⟨_, rfl⟩
        have bd : Below w19.heap.size w19 w20 := by rw [hw20.out]; exact (Below.refl w19.heap.size w19).drew
        have B20 := B19.trans (bd.mono B19.size)
        have oq20 := ownsV.below oq19 bd (Nat.le_refl _)
        have Q20 := Q19.below bd (Nat.le_refl _)
        have os20 := ownsV.below os19 bd (Nat.le_refl _)
        have S20 := S19.below bd (Nat.le_refl _)
        have ox20 := ownsW.below ox19 bd (Nat.le_refl _)
        have X20 := X19.below bd (Nat.le_refl _)
        clear B19 oq19 Q19 os19 S19 ox19 X19 bd
        apply wpCutBANNBANNN (F := fun h8 s8 t8 u8 h9 s9 t9 u9 qb23 W => Below w.heap.size w W  ∧ BoxL W w.heap.size qb7 [.bool h2, .slice s2 t2 u2, .bool m2, .slice p2 q2 r2] ∧ BoxL W w.heap.size qb9 [.bool h3, .slice s3 t3 u3, .bool m3, .slice p3 q3 r3] ∧ BoxL W w.heap.size qb17 [.bool h7, .slice s7 t7 u7] ∧ BoxL W w.heap.size qb23 [.bool h9, .slice s9 t9 u9] ∧ ownsV W w.heap.size (.agg #[.bool h2, .slice s2 t2 u2, .bool m2, .slice p2 q2 r2]) Q ∧ ownsV W w.heap.size (.agg #[.bool h3, .slice s3 t3 u3, .bool m3, .slice p3 q3 r3]) S ∧ ownsW W w.heap.size (.agg #[.bool h7, .slice s7 t7 u7]) X ∧ ownsW W w.heap.size (.agg #[.bool h9, .slice s9 t9 u9]) Y ∧ Apart (blkW (.agg #[.bool h9, .slice s9 t9 u9])) [qb7] ∧ Apart (blkW (.agg #[.bool h9, .slice s9 t9 u9])) [qb9] ∧ Apart (blkW (.agg #[.bool h9, .slice s9 t9 u9])) [qb17] ∧ Apart (blkV (.agg #[.bool h2, .slice s2 t2 u2, .bool m2, .slice p2 q2 r2])) [qb23] ∧ Apart (blkV (.agg #[.bool h3, .slice s3 t3 u3, .bool m3, .slice p3 q3 r3])) [qb23] ∧ Apart (blkW (.agg #[.bool h7, .slice s7 t7 u7])) [qb23] ∧ Apart (blkW (.agg #[.bool h9, .slice s9 t9 u9])) [qb23] ∧ Apart (blkV (.agg #[.bool h2, .slice s2 t2 u2, .bool m2, .slice p2 q2 r2])) (blkW (.agg #[.bool h9, .slice s9 t9 u9])) ∧ Apart (blkV (.agg #[.bool h3, .slice s3 t3 u3, .bool m3, .slice p3 q3 r3])) (blkW (.agg #[.bool h9, .slice s9 t9 u9])) ∧ Apart (blkW (.agg #[.bool h7, .slice s7 t7 u7])) (blkW (.agg #[.bool h9, .slice s9 t9 u9])) ∧ qb7 < qb23 ∧ qb9 < qb23 ∧ qb17 < qb23)
        case hA =>
          have hH : (fun W : World => W.cell? ⟨qb17, 0, none⟩ = some (.bool h7) ∧ W.cell? ⟨qb17, 1, none⟩ = some (.slice s7 t7 u7)) w20 := ⟨X20.c 0 _ rfl, X20.c 1 _ rfl⟩
          refine wp_region_held_drew (S := fun W => W.cell? ⟨qb17, 0, none⟩ = some (.bool h7) ∧ W.cell? ⟨qb17, 1, none⟩ = some (.slice s7 t7 u7)) (by kernel_rfl) (by rw [← hw20.out]; exact hH) ?_
          intro _
          rw [← hw20.out]
          refine takeH 0 (some 94) (.agg #[.bool h7, .slice s7 t7 u7]) rfl rfl (by kernel_rfl) (by kernel_rfl) (by kernel_rfl) (fun _ _ _ h => h) (Or.inl ⟨rfl, fun W hW => by obtain ⟨l0, l1⟩ := hW; go_simp⟩) hH ?_
          simp only [Act.put, List.setIfInBounds_toArray, List.set_cons_zero, List.set_cons_succ]
          refine wpAnyH_ready (rs := [1, 6]) (by kernel_rfl) (by simp) ?_
          refine AllReadyH.cons rfl (fun K hK => ?_) ?_
          · go_simp
            refine (kO _).mono ?_
            rintro e w21 ⟨v, rfl, oo, bb21⟩
            obtain ⟨h8, s8, t8, u8, rfl⟩ := oo.cell
            have ap_Q_oo : Apart (blkW (.agg #[.bool h8, .slice s8 t8 u8])) [qb7] := apart_one fun q hq => by have h1 := (ownsW.ltb oo q hq).1; have h2 := Q20.hi; omega
            have ap_S_oo : Apart (blkW (.agg #[.bool h8, .slice s8 t8 u8])) [qb9] := apart_one fun q hq => by have h1 := (ownsW.ltb oo q hq).1; have h2 := S20.hi; omega
            have ap_X_oo : Apart (blkW (.agg #[.bool h8, .slice s8 t8 u8])) [qb17] := apart_one fun q hq => by have h1 := (ownsW.ltb oo q hq).1; have h2 := X20.hi; omega
            have ap_oo_oq : Apart (blkW (.agg #[.bool h8, .slice s8 t8 u8])) (blkV (.agg #[.bool h2, .slice s2 t2 u2, .bool m2, .slice p2 q2 r2])) := Apart.symm (apart_of (fun k hk => (ownsV.ltb oq20 k hk).2) (fun k hk => (ownsW.ltb oo k hk).1))
            have ap_oo_os : Apart (blkW (.agg #[.bool h8, .slice s8 t8 u8])) (blkV (.agg #[.bool h3, .slice s3 t3 u3, .bool m3, .slice p3 q3 r3])) := Apart.symm (apart_of (fun k hk => (ownsV.ltb os20 k hk).2) (fun k hk => (ownsW.ltb oo k hk).1))
            have ap_oo_ox : Apart (blkW (.agg #[.bool h8, .slice s8 t8 u8])) (blkW (.agg #[.bool h7, .slice s7 t7 u7])) := Apart.symm (apart_of (fun k hk => (ownsW.ltb ox20 k hk).2) (fun k hk => (ownsW.ltb oo k hk).1))
            replace oo := ownsW_mono oo B20.size
            have B21 := B20.trans (bb21.mono B20.size)
            have oq21 := ownsV.below oq20 bb21 (Nat.le_refl _)
            have Q21 := Q20.below bb21 (Nat.le_refl _)
            have os21 := ownsV.below os20 bb21 (Nat.le_refl _)
            have S21 := S20.below bb21 (Nat.le_refl _)
            have ox21 := ownsW.below ox20 bb21 (Nat.le_refl _)
            have X21 := X20.below bb21 (Nat.le_refl _)
            clear bb21 hH
            have oo21 := oo
            clear oo
            have hH : (fun W : World => W.cell? ⟨qb17, 0, none⟩ = some (.bool h7) ∧ W.cell? ⟨qb17, 1, none⟩ = some (.slice s7 t7 u7)) w21 := ⟨X21.c 0 _ rfl, X21.c 1 _ rfl⟩
            refine hK.out _ _ hH (fun _ => ?_)
            clear hK K
            refine wpAnyH_ready (rs := [2, 6]) (by kernel_rfl) (by simp) ?_
            refine AllReadyH.cons rfl (fun K hK => ?_) ?_
            · go_simp
              refine (kS _ _ _ ox21.row oo21.row).mono ?_
              rintro e w22 ⟨v, rfl, oy, bb22⟩
              obtain ⟨h9, s9, t9, u9, rfl⟩ := oy.cell
              have ap_Q_oy : Apart (blkW (.agg #[.bool h9, .slice s9 t9 u9])) [qb7] := apart_one fun q hq => by have h1 := (ownsW.ltb oy q hq).1; have h2 := Q21.hi; omega
              have ap_S_oy : Apart (blkW (.agg #[.bool h9, .slice s9 t9 u9])) [qb9] := apart_one fun q hq => by have h1 := (ownsW.ltb oy q hq).1; have h2 := S21.hi; omega
              have ap_X_oy : Apart (blkW (.agg #[.bool h9, .slice s9 t9 u9])) [qb17] := apart_one fun q hq => by have h1 := (ownsW.ltb oy q hq).1; have h2 := X21.hi; omega
              have ap_oq_oy : Apart (blkV (.agg #[.bool h2, .slice s2 t2 u2, .bool m2, .slice p2 q2 r2])) (blkW (.agg #[.bool h9, .slice s9 t9 u9])) := apart_of (fun k hk => (ownsV.ltb oq21 k hk).2) (fun k hk => (ownsW.ltb oy k hk).1)
              have ap_os_oy : Apart (blkV (.agg #[.bool h3, .slice s3 t3 u3, .bool m3, .slice p3 q3 r3])) (blkW (.agg #[.bool h9, .slice s9 t9 u9])) := apart_of (fun k hk => (ownsV.ltb os21 k hk).2) (fun k hk => (ownsW.ltb oy k hk).1)
              have ap_ox_oy : Apart (blkW (.agg #[.bool h7, .slice s7 t7 u7])) (blkW (.agg #[.bool h9, .slice s9 t9 u9])) := apart_of (fun k hk => (ownsW.ltb ox21 k hk).2) (fun k hk => (ownsW.ltb oy k hk).1)
              have ap_oo_oy : Apart (blkW (.agg #[.bool h8, .slice s8 t8 u8])) (blkW (.agg #[.bool h9, .slice s9 t9 u9])) := apart_of (fun k hk => (ownsW.ltb oo21 k hk).2) (fun k hk => (ownsW.ltb oy k hk).1)
              replace oy := ownsW_mono oy B21.size
              have B22 := B21.trans (bb22.mono B21.size)
              have oq22 := ownsV.below oq21 bb22 (Nat.le_refl _)
              have Q22 := Q21.below bb22 (Nat.le_refl _)
              have os22 := ownsV.below os21 bb22 (Nat.le_refl _)
              have S22 := S21.below bb22 (Nat.le_refl _)
              have ox22 := ownsW.below ox21 bb22 (Nat.le_refl _)
              have X22 := X21.below bb22 (Nat.le_refl _)
              have oo22 := ownsW.below oo21 bb22 (Nat.le_refl _)
              clear B21 oq21 Q21 os21 S21 ox21 X21 oo21 bb22 hH
              have oy22 := oy
              clear oy
              clear oo22
              have hH : (fun W : World => W.cell? ⟨qb17, 0, none⟩ = some (.bool h7) ∧ W.cell? ⟨qb17, 1, none⟩ = some (.slice s7 t7 u7)) w22 := ⟨X22.c 0 _ rfl, X22.c 1 _ rfl⟩
              refine hK.out _ _ hH (fun _ => ?_)
              clear hK K
              refine takeH 3 (some 93) (.tuple #[.agg #[.bool h9, .slice s9 t9 u9], .bool f]) rfl rfl (by kernel_rfl) (by kernel_rfl) (by kernel_rfl) (fun _ _ _ h => h) (Or.inl ⟨rfl, fun W hW => by go_simp⟩) hH ?_
              simp only [Act.put, List.setIfInBounds_toArray, List.set_cons_zero, List.set_cons_succ]
              refine takeH 4 (some 97) (.agg #[.bool h9, .slice s9 t9 u9]) rfl rfl (by kernel_rfl) (by kernel_rfl) (by kernel_rfl) (fun _ _ _ h => h) (Or.inl ⟨rfl, fun W hW => by go_simp⟩) hH ?_
              simp only [Act.put, List.setIfInBounds_toArray, List.set_cons_zero, List.set_cons_succ]
              refine takeH 5 (some 98) (.bool f) rfl rfl (by kernel_rfl) (by kernel_rfl) (by kernel_rfl) (fun _ _ _ h => h) (Or.inl ⟨rfl, fun W hW => by go_simp⟩) hH ?_
              simp only [Act.put, List.setIfInBounds_toArray, List.set_cons_zero, List.set_cons_succ]
              refine oneH 6 rfl (by kernel_rfl) (fun K' hK => ?_)
              go_simp
              clear hH
              obtain ⟨w23, hw23⟩ : ∃ v, v = w22.alloc (.cells #[.bool false, .slice none 0 0] 27) := ⟨_, rfl⟩
              have bb23 : Below w22.heap.size w22 w23 := by rw [hw23]; exact below1 _ _
              obtain ⟨qb23, hq23⟩ : ∃ v, v = w22.heap.size := ⟨_, rfl⟩
              have Y23 : BoxL w23 w.heap.size qb23 [.bool false, .slice none 0 0] := by rw [hw23, hq23]; exact (BoxL.made w22 [.bool false, .slice none 0 0] 27).mono B22.size
              have sn23 : w23.heap.size = qb23 + 1 := by rw [hw23, hq23]; simp
              rw [← hw23]
              (try rw [← hq23])
              clear hw23
              have B23 := B22.trans (bb23.mono B22.size)
              have oq23 := ownsV.below oq22 bb23 (Nat.le_refl _)
              have Q23 := Q22.below bb23 (Nat.le_refl _)
              have os23 := ownsV.below os22 bb23 (Nat.le_refl _)
              have S23 := S22.below bb23 (Nat.le_refl _)
              have ox23 := ownsW.below ox22 bb23 (Nat.le_refl _)
              have X23 := X22.below bb23 (Nat.le_refl _)
              have oy23 := ownsW.below oy22 bb23 (Nat.le_refl _)
              have ap_Y_oq : Apart (blkV (.agg #[.bool h2, .slice s2 t2 u2, .bool m2, .slice p2 q2 r2])) [qb23] := apart_one fun q hq => by have h1 := (ownsV.ltb oq22 q hq).2; omega
              have lt_Q_Y : qb7 < qb23 := by rw [hq23]; exact Q22.hi
              have ap_Y_os : Apart (blkV (.agg #[.bool h3, .slice s3 t3 u3, .bool m3, .slice p3 q3 r3])) [qb23] := apart_one fun q hq => by have h1 := (ownsV.ltb os22 q hq).2; omega
              have lt_S_Y : qb9 < qb23 := by rw [hq23]; exact S22.hi
              have ap_Y_ox : Apart (blkW (.agg #[.bool h7, .slice s7 t7 u7])) [qb23] := apart_one fun q hq => by have h1 := (ownsW.ltb ox22 q hq).2; omega
              have lt_X_Y : qb17 < qb23 := by rw [hq23]; exact X22.hi
              have ap_Y_oy : Apart (blkW (.agg #[.bool h9, .slice s9 t9 u9])) [qb23] := apart_one fun q hq => by have h1 := (ownsW.ltb oy22 q hq).2; omega
              clear B22 oq22 Q22 os22 S22 ox22 X22 oy22 bb23 hq23 sn23
              have hH : (fun W : World => W.cell? ⟨qb17, 0, none⟩ = some (.bool h7) ∧ W.cell? ⟨qb17, 1, none⟩ = some (.slice s7 t7 u7)) w23 := ⟨X23.c 0 _ rfl, X23.c 1 _ rfl⟩
              refine hK _ _ hH ?_
              clear hK
              have c_Y_0 := Y23.c 0 _ rfl
              have f_Y_0 := Y23.f 0 _ rfl
              have c_Y_1 := Y23.c 1 _ rfl
              have f_Y_1 := Y23.f 1 _ rfl
              refine oneH 7 rfl (by kernel_rfl) (fun K' hK => ?_)
              go_simp
              obtain ⟨w24, hw24⟩ : ∃ v, v = (w23.setCell ⟨qb23, 0, none⟩ (.bool h9)).setCell ⟨qb23, 1, none⟩ (.slice s9 t9 u9) := ⟨_, rfl⟩
              have tn24 : Tn [qb23] w23 w24 := by rw [hw24]; exact ((tnL w23 qb23 0 (.bool h9)).trans (tnL _ qb23 1 (.slice s9 t9 u9)))
              have Y24 : BoxL w24 w.heap.size qb23 [.bool h9, .slice s9 t9 u9] := by rw [hw24]; exact ((Y23.set 0 (.bool h9) (by simp)).set 1 (.slice s9 t9 u9) (by simp))
              have blo24 := Y23.lo
              rw [← hw24]
              clear hw24
              have B24 := tn24.below B23 B23.size (fun q hq => by simp at hq; omega)
              have oq24 := ownsV.tn oq23 tn24 ap_Y_oq
              have Q24 := Q23.tn tn24 (not_one (by omega))
              have os24 := ownsV.tn os23 tn24 ap_Y_os
              have S24 := S23.tn tn24 (not_one (by omega))
              have ox24 := ownsW.tn ox23 tn24 ap_Y_ox
              have X24 := X23.tn tn24 (not_one (by omega))
              have oy24 := ownsW.tn oy23 tn24 ap_Y_oy
              clear B23 oq23 Q23 os23 S23 ox23 X23 oy23 Y23 tn24 blo24
              clear c_Y_0 f_Y_0 c_Y_1 f_Y_1
              clear hH
              have hH : (fun W : World => W.cell? ⟨qb17, 0, none⟩ = some (.bool h7) ∧ W.cell? ⟨qb17, 1, none⟩ = some (.slice s7 t7 u7)) w24 := ⟨X24.c 0 _ rfl, X24.c 1 _ rfl⟩
              refine hK _ _ hH ?_
              clear hK
              refine takeH 8 (some 18) (.bool f) rfl rfl (by kernel_rfl) (by kernel_rfl) (by kernel_rfl) (fun _ _ _ h => h) (Or.inl ⟨rfl, fun W hW => by go_simp⟩) hH ?_
              simp only [Act.put, List.setIfInBounds_toArray, List.set_cons_zero, List.set_cons_succ]
              clear hH
              refine wpAnyH_done (by kernel_rfl) ?_ _
              exact CutBANNBANNN.mk h8 s8 t8 u8 h9 s9 t9 u9 qb23 rfl ⟨B24, Q24, S24, X24, Y24, oq24, os24, ox24, oy24, ap_Q_oy, ap_S_oy, ap_X_oy, ap_Y_oq, ap_Y_os, ap_Y_ox, ap_Y_oy, ap_oq_oy, ap_os_oy, ap_ox_oy, lt_Q_Y, lt_S_Y, lt_X_Y⟩
            refine AllReadyH.cons rfl (fun K hK => ?_) ?_
            · go_simp
              clear hH
              obtain ⟨w22, hw22⟩ : ∃ v, v = w21.alloc (.cells #[.bool false, .slice none 0 0] 27) := ⟨_, rfl⟩
              have bb22 : Below w21.heap.size w21 w22 := by rw [hw22]; exact below1 _ _
              obtain ⟨qb22, hq22⟩ : ∃ v, v = w21.heap.size := ⟨_, rfl⟩
              have Y22 : BoxL w22 w.heap.size qb22 [.bool false, .slice none 0 0] := by rw [hw22, hq22]; exact (BoxL.made w21 [.bool false, .slice none 0 0] 27).mono B21.size
              have sn22 : w22.heap.size = qb22 + 1 := by rw [hw22, hq22]; simp
              rw [← hw22]
              (try rw [← hq22])
              clear hw22
              have B22 := B21.trans (bb22.mono B21.size)
              have oq22 := ownsV.below oq21 bb22 (Nat.le_refl _)
              have Q22 := Q21.below bb22 (Nat.le_refl _)
              have os22 := ownsV.below os21 bb22 (Nat.le_refl _)
              have S22 := S21.below bb22 (Nat.le_refl _)
              have ox22 := ownsW.below ox21 bb22 (Nat.le_refl _)
              have X22 := X21.below bb22 (Nat.le_refl _)
              have oo22 := ownsW.below oo21 bb22 (Nat.le_refl _)
              have ap_Y_oq : Apart (blkV (.agg #[.bool h2, .slice s2 t2 u2, .bool m2, .slice p2 q2 r2])) [qb22] := apart_one fun q hq => by have h1 := (ownsV.ltb oq21 q hq).2; omega
              have lt_Q_Y : qb7 < qb22 := by rw [hq22]; exact Q21.hi
              have ap_Y_os : Apart (blkV (.agg #[.bool h3, .slice s3 t3 u3, .bool m3, .slice p3 q3 r3])) [qb22] := apart_one fun q hq => by have h1 := (ownsV.ltb os21 q hq).2; omega
              have lt_S_Y : qb9 < qb22 := by rw [hq22]; exact S21.hi
              have ap_Y_ox : Apart (blkW (.agg #[.bool h7, .slice s7 t7 u7])) [qb22] := apart_one fun q hq => by have h1 := (ownsW.ltb ox21 q hq).2; omega
              have lt_X_Y : qb17 < qb22 := by rw [hq22]; exact X21.hi
              have ap_Y_oo : Apart (blkW (.agg #[.bool h8, .slice s8 t8 u8])) [qb22] := apart_one fun q hq => by have h1 := (ownsW.ltb oo21 q hq).2; omega
              clear B21 oq21 Q21 os21 S21 ox21 X21 oo21 bb22 hq22 sn22
              have hH : (fun W : World => W.cell? ⟨qb17, 0, none⟩ = some (.bool h7) ∧ W.cell? ⟨qb17, 1, none⟩ = some (.slice s7 t7 u7)) w22 := ⟨X22.c 0 _ rfl, X22.c 1 _ rfl⟩
              refine hK.out _ _ hH (fun _ => ?_)
              clear hK K
              refine oneH 2 rfl (by kernel_rfl) (fun K' hK => ?_)
              go_simp
              refine (kS _ _ _ ox22.row oo22.row).mono ?_
              rintro e w23 ⟨v, rfl, oy, bb23⟩
              obtain ⟨h9, s9, t9, u9, rfl⟩ := oy.cell
              have ap_Q_oy : Apart (blkW (.agg #[.bool h9, .slice s9 t9 u9])) [qb7] := apart_one fun q hq => by have h1 := (ownsW.ltb oy q hq).1; have h2 := Q22.hi; omega
              have ap_S_oy : Apart (blkW (.agg #[.bool h9, .slice s9 t9 u9])) [qb9] := apart_one fun q hq => by have h1 := (ownsW.ltb oy q hq).1; have h2 := S22.hi; omega
              have ap_X_oy : Apart (blkW (.agg #[.bool h9, .slice s9 t9 u9])) [qb17] := apart_one fun q hq => by have h1 := (ownsW.ltb oy q hq).1; have h2 := X22.hi; omega
              have ap_Y_oy : Apart (blkW (.agg #[.bool h9, .slice s9 t9 u9])) [qb22] := apart_one fun q hq => by have h1 := (ownsW.ltb oy q hq).1; have h2 := Y22.hi; omega
              have ap_oq_oy : Apart (blkV (.agg #[.bool h2, .slice s2 t2 u2, .bool m2, .slice p2 q2 r2])) (blkW (.agg #[.bool h9, .slice s9 t9 u9])) := apart_of (fun k hk => (ownsV.ltb oq22 k hk).2) (fun k hk => (ownsW.ltb oy k hk).1)
              have ap_os_oy : Apart (blkV (.agg #[.bool h3, .slice s3 t3 u3, .bool m3, .slice p3 q3 r3])) (blkW (.agg #[.bool h9, .slice s9 t9 u9])) := apart_of (fun k hk => (ownsV.ltb os22 k hk).2) (fun k hk => (ownsW.ltb oy k hk).1)
              have ap_ox_oy : Apart (blkW (.agg #[.bool h7, .slice s7 t7 u7])) (blkW (.agg #[.bool h9, .slice s9 t9 u9])) := apart_of (fun k hk => (ownsW.ltb ox22 k hk).2) (fun k hk => (ownsW.ltb oy k hk).1)
              have ap_oo_oy : Apart (blkW (.agg #[.bool h8, .slice s8 t8 u8])) (blkW (.agg #[.bool h9, .slice s9 t9 u9])) := apart_of (fun k hk => (ownsW.ltb oo22 k hk).2) (fun k hk => (ownsW.ltb oy k hk).1)
              replace oy := ownsW_mono oy B22.size
              have B23 := B22.trans (bb23.mono B22.size)
              have oq23 := ownsV.below oq22 bb23 (Nat.le_refl _)
              have Q23 := Q22.below bb23 (Nat.le_refl _)
              have os23 := ownsV.below os22 bb23 (Nat.le_refl _)
              have S23 := S22.below bb23 (Nat.le_refl _)
              have ox23 := ownsW.below ox22 bb23 (Nat.le_refl _)
              have X23 := X22.below bb23 (Nat.le_refl _)
              have oo23 := ownsW.below oo22 bb23 (Nat.le_refl _)
              have Y23 := Y22.below bb23 (Nat.le_refl _)
              clear B22 oq22 Q22 os22 S22 ox22 X22 oo22 Y22 bb23 hH
              have oy23 := oy
              clear oy
              clear oo23
              have hH : (fun W : World => W.cell? ⟨qb17, 0, none⟩ = some (.bool h7) ∧ W.cell? ⟨qb17, 1, none⟩ = some (.slice s7 t7 u7)) w23 := ⟨X23.c 0 _ rfl, X23.c 1 _ rfl⟩
              refine hK _ _ hH ?_
              clear hK
              refine takeH 3 (some 93) (.tuple #[.agg #[.bool h9, .slice s9 t9 u9], .bool f]) rfl rfl (by kernel_rfl) (by kernel_rfl) (by kernel_rfl) (fun _ _ _ h => h) (Or.inl ⟨rfl, fun W hW => by go_simp⟩) hH ?_
              simp only [Act.put, List.setIfInBounds_toArray, List.set_cons_zero, List.set_cons_succ]
              refine takeH 4 (some 97) (.agg #[.bool h9, .slice s9 t9 u9]) rfl rfl (by kernel_rfl) (by kernel_rfl) (by kernel_rfl) (fun _ _ _ h => h) (Or.inl ⟨rfl, fun W hW => by go_simp⟩) hH ?_
              simp only [Act.put, List.setIfInBounds_toArray, List.set_cons_zero, List.set_cons_succ]
              refine takeH 5 (some 98) (.bool f) rfl rfl (by kernel_rfl) (by kernel_rfl) (by kernel_rfl) (fun _ _ _ h => h) (Or.inl ⟨rfl, fun W hW => by go_simp⟩) hH ?_
              simp only [Act.put, List.setIfInBounds_toArray, List.set_cons_zero, List.set_cons_succ]
              have c_Y_0 := Y23.c 0 _ rfl
              have f_Y_0 := Y23.f 0 _ rfl
              have c_Y_1 := Y23.c 1 _ rfl
              have f_Y_1 := Y23.f 1 _ rfl
              refine oneH 7 rfl (by kernel_rfl) (fun K' hK => ?_)
              go_simp
              obtain ⟨w24, hw24⟩ : ∃ v, v = (w23.setCell ⟨qb22, 0, none⟩ (.bool h9)).setCell ⟨qb22, 1, none⟩ (.slice s9 t9 u9) := ⟨_, rfl⟩
              have tn24 : Tn [qb22] w23 w24 := by rw [hw24]; exact ((tnL w23 qb22 0 (.bool h9)).trans (tnL _ qb22 1 (.slice s9 t9 u9)))
              have Y24 : BoxL w24 w.heap.size qb22 [.bool h9, .slice s9 t9 u9] := by rw [hw24]; exact ((Y23.set 0 (.bool h9) (by simp)).set 1 (.slice s9 t9 u9) (by simp))
              have blo24 := Y23.lo
              rw [← hw24]
              clear hw24
              have B24 := tn24.below B23 B23.size (fun q hq => by simp at hq; omega)
              have oq24 := ownsV.tn oq23 tn24 ap_Y_oq
              have Q24 := Q23.tn tn24 (not_one (by omega))
              have os24 := ownsV.tn os23 tn24 ap_Y_os
              have S24 := S23.tn tn24 (not_one (by omega))
              have ox24 := ownsW.tn ox23 tn24 ap_Y_ox
              have X24 := X23.tn tn24 (not_one (by omega))
              have oy24 := ownsW.tn oy23 tn24 ap_Y_oy
              clear B23 oq23 Q23 os23 S23 ox23 X23 Y23 oy23 tn24 blo24
              clear c_Y_0 f_Y_0 c_Y_1 f_Y_1
              clear hH
              have hH : (fun W : World => W.cell? ⟨qb17, 0, none⟩ = some (.bool h7) ∧ W.cell? ⟨qb17, 1, none⟩ = some (.slice s7 t7 u7)) w24 := ⟨X24.c 0 _ rfl, X24.c 1 _ rfl⟩
              refine hK _ _ hH ?_
              clear hK
              refine takeH 8 (some 18) (.bool f) rfl rfl (by kernel_rfl) (by kernel_rfl) (by kernel_rfl) (fun _ _ _ h => h) (Or.inl ⟨rfl, fun W hW => by go_simp⟩) hH ?_
              simp only [Act.put, List.setIfInBounds_toArray, List.set_cons_zero, List.set_cons_succ]
              clear hH
              refine wpAnyH_done (by kernel_rfl) ?_ _
              exact CutBANNBANNN.mk h8 s8 t8 u8 h9 s9 t9 u9 qb22 rfl ⟨B24, Q24, S24, X24, Y24, oq24, os24, ox24, oy24, ap_Q_oy, ap_S_oy, ap_X_oy, ap_Y_oq, ap_Y_os, ap_Y_ox, ap_Y_oy, ap_oq_oy, ap_os_oy, ap_ox_oy, lt_Q_Y, lt_S_Y, lt_X_Y⟩
            exact AllReadyH.nil
          refine AllReadyH.cons rfl (fun K hK => ?_) ?_
          · go_simp
            clear hH
            obtain ⟨w21, hw21⟩ : ∃ v, v = w20.alloc (.cells #[.bool false, .slice none 0 0] 27) := ⟨_, rfl⟩
            have bb21 : Below w20.heap.size w20 w21 := by rw [hw21]; exact below1 _ _
            obtain ⟨qb21, hq21⟩ : ∃ v, v = w20.heap.size := ⟨_, rfl⟩
            have Y21 : BoxL w21 w.heap.size qb21 [.bool false, .slice none 0 0] := by rw [hw21, hq21]; exact (BoxL.made w20 [.bool false, .slice none 0 0] 27).mono B20.size
            have sn21 : w21.heap.size = qb21 + 1 := by rw [hw21, hq21]; simp
            rw [← hw21]
            (try rw [← hq21])
            clear hw21
            have B21 := B20.trans (bb21.mono B20.size)
            have oq21 := ownsV.below oq20 bb21 (Nat.le_refl _)
            have Q21 := Q20.below bb21 (Nat.le_refl _)
            have os21 := ownsV.below os20 bb21 (Nat.le_refl _)
            have S21 := S20.below bb21 (Nat.le_refl _)
            have ox21 := ownsW.below ox20 bb21 (Nat.le_refl _)
            have X21 := X20.below bb21 (Nat.le_refl _)
            have ap_Y_oq : Apart (blkV (.agg #[.bool h2, .slice s2 t2 u2, .bool m2, .slice p2 q2 r2])) [qb21] := apart_one fun q hq => by have h1 := (ownsV.ltb oq20 q hq).2; omega
            have lt_Q_Y : qb7 < qb21 := by rw [hq21]; exact Q20.hi
            have ap_Y_os : Apart (blkV (.agg #[.bool h3, .slice s3 t3 u3, .bool m3, .slice p3 q3 r3])) [qb21] := apart_one fun q hq => by have h1 := (ownsV.ltb os20 q hq).2; omega
            have lt_S_Y : qb9 < qb21 := by rw [hq21]; exact S20.hi
            have ap_Y_ox : Apart (blkW (.agg #[.bool h7, .slice s7 t7 u7])) [qb21] := apart_one fun q hq => by have h1 := (ownsW.ltb ox20 q hq).2; omega
            have lt_X_Y : qb17 < qb21 := by rw [hq21]; exact X20.hi
            clear bb21 hq21 sn21
            have hH : (fun W : World => W.cell? ⟨qb17, 0, none⟩ = some (.bool h7) ∧ W.cell? ⟨qb17, 1, none⟩ = some (.slice s7 t7 u7)) w21 := ⟨X21.c 0 _ rfl, X21.c 1 _ rfl⟩
            refine hK.out _ _ hH (fun _ => ?_)
            clear hK K
            refine oneH 1 rfl (by kernel_rfl) (fun K' hK => ?_)
            go_simp
            refine (kO _).mono ?_
            rintro e w22 ⟨v, rfl, oo, bb22⟩
            obtain ⟨h8, s8, t8, u8, rfl⟩ := oo.cell
            have ap_Q_oo : Apart (blkW (.agg #[.bool h8, .slice s8 t8 u8])) [qb7] := apart_one fun q hq => by have h1 := (ownsW.ltb oo q hq).1; have h2 := Q21.hi; omega
            have ap_S_oo : Apart (blkW (.agg #[.bool h8, .slice s8 t8 u8])) [qb9] := apart_one fun q hq => by have h1 := (ownsW.ltb oo q hq).1; have h2 := S21.hi; omega
            have ap_X_oo : Apart (blkW (.agg #[.bool h8, .slice s8 t8 u8])) [qb17] := apart_one fun q hq => by have h1 := (ownsW.ltb oo q hq).1; have h2 := X21.hi; omega
            have ap_Y_oo : Apart (blkW (.agg #[.bool h8, .slice s8 t8 u8])) [qb21] := apart_one fun q hq => by have h1 := (ownsW.ltb oo q hq).1; have h2 := Y21.hi; omega
            have ap_oo_oq : Apart (blkW (.agg #[.bool h8, .slice s8 t8 u8])) (blkV (.agg #[.bool h2, .slice s2 t2 u2, .bool m2, .slice p2 q2 r2])) := Apart.symm (apart_of (fun k hk => (ownsV.ltb oq21 k hk).2) (fun k hk => (ownsW.ltb oo k hk).1))
            have ap_oo_os : Apart (blkW (.agg #[.bool h8, .slice s8 t8 u8])) (blkV (.agg #[.bool h3, .slice s3 t3 u3, .bool m3, .slice p3 q3 r3])) := Apart.symm (apart_of (fun k hk => (ownsV.ltb os21 k hk).2) (fun k hk => (ownsW.ltb oo k hk).1))
            have ap_oo_ox : Apart (blkW (.agg #[.bool h8, .slice s8 t8 u8])) (blkW (.agg #[.bool h7, .slice s7 t7 u7])) := Apart.symm (apart_of (fun k hk => (ownsW.ltb ox21 k hk).2) (fun k hk => (ownsW.ltb oo k hk).1))
            replace oo := ownsW_mono oo B21.size
            have B22 := B21.trans (bb22.mono B21.size)
            have oq22 := ownsV.below oq21 bb22 (Nat.le_refl _)
            have Q22 := Q21.below bb22 (Nat.le_refl _)
            have os22 := ownsV.below os21 bb22 (Nat.le_refl _)
            have S22 := S21.below bb22 (Nat.le_refl _)
            have ox22 := ownsW.below ox21 bb22 (Nat.le_refl _)
            have X22 := X21.below bb22 (Nat.le_refl _)
            have Y22 := Y21.below bb22 (Nat.le_refl _)
            clear B21 oq21 Q21 os21 S21 ox21 X21 Y21 bb22 hH
            have oo22 := oo
            clear oo
            have hH : (fun W : World => W.cell? ⟨qb17, 0, none⟩ = some (.bool h7) ∧ W.cell? ⟨qb17, 1, none⟩ = some (.slice s7 t7 u7)) w22 := ⟨X22.c 0 _ rfl, X22.c 1 _ rfl⟩
            refine hK _ _ hH ?_
            clear hK
            refine oneH 2 rfl (by kernel_rfl) (fun K' hK => ?_)
            go_simp
            refine (kS _ _ _ ox22.row oo22.row).mono ?_
            rintro e w23 ⟨v, rfl, oy, bb23⟩
            obtain ⟨h9, s9, t9, u9, rfl⟩ := oy.cell
            have ap_Q_oy : Apart (blkW (.agg #[.bool h9, .slice s9 t9 u9])) [qb7] := apart_one fun q hq => by have h1 := (ownsW.ltb oy q hq).1; have h2 := Q22.hi; omega
            have ap_S_oy : Apart (blkW (.agg #[.bool h9, .slice s9 t9 u9])) [qb9] := apart_one fun q hq => by have h1 := (ownsW.ltb oy q hq).1; have h2 := S22.hi; omega
            have ap_X_oy : Apart (blkW (.agg #[.bool h9, .slice s9 t9 u9])) [qb17] := apart_one fun q hq => by have h1 := (ownsW.ltb oy q hq).1; have h2 := X22.hi; omega
            have ap_Y_oy : Apart (blkW (.agg #[.bool h9, .slice s9 t9 u9])) [qb21] := apart_one fun q hq => by have h1 := (ownsW.ltb oy q hq).1; have h2 := Y22.hi; omega
            have ap_oq_oy : Apart (blkV (.agg #[.bool h2, .slice s2 t2 u2, .bool m2, .slice p2 q2 r2])) (blkW (.agg #[.bool h9, .slice s9 t9 u9])) := apart_of (fun k hk => (ownsV.ltb oq22 k hk).2) (fun k hk => (ownsW.ltb oy k hk).1)
            have ap_os_oy : Apart (blkV (.agg #[.bool h3, .slice s3 t3 u3, .bool m3, .slice p3 q3 r3])) (blkW (.agg #[.bool h9, .slice s9 t9 u9])) := apart_of (fun k hk => (ownsV.ltb os22 k hk).2) (fun k hk => (ownsW.ltb oy k hk).1)
            have ap_ox_oy : Apart (blkW (.agg #[.bool h7, .slice s7 t7 u7])) (blkW (.agg #[.bool h9, .slice s9 t9 u9])) := apart_of (fun k hk => (ownsW.ltb ox22 k hk).2) (fun k hk => (ownsW.ltb oy k hk).1)
            have ap_oo_oy : Apart (blkW (.agg #[.bool h8, .slice s8 t8 u8])) (blkW (.agg #[.bool h9, .slice s9 t9 u9])) := apart_of (fun k hk => (ownsW.ltb oo22 k hk).2) (fun k hk => (ownsW.ltb oy k hk).1)
            replace oy := ownsW_mono oy B22.size
            have B23 := B22.trans (bb23.mono B22.size)
            have oq23 := ownsV.below oq22 bb23 (Nat.le_refl _)
            have Q23 := Q22.below bb23 (Nat.le_refl _)
            have os23 := ownsV.below os22 bb23 (Nat.le_refl _)
            have S23 := S22.below bb23 (Nat.le_refl _)
            have ox23 := ownsW.below ox22 bb23 (Nat.le_refl _)
            have X23 := X22.below bb23 (Nat.le_refl _)
            have Y23 := Y22.below bb23 (Nat.le_refl _)
            have oo23 := ownsW.below oo22 bb23 (Nat.le_refl _)
            clear B22 oq22 Q22 os22 S22 ox22 X22 Y22 oo22 bb23 hH
            have oy23 := oy
            clear oy
            clear oo23
            have hH : (fun W : World => W.cell? ⟨qb17, 0, none⟩ = some (.bool h7) ∧ W.cell? ⟨qb17, 1, none⟩ = some (.slice s7 t7 u7)) w23 := ⟨X23.c 0 _ rfl, X23.c 1 _ rfl⟩
            refine hK _ _ hH ?_
            clear hK
            refine takeH 3 (some 93) (.tuple #[.agg #[.bool h9, .slice s9 t9 u9], .bool f]) rfl rfl (by kernel_rfl) (by kernel_rfl) (by kernel_rfl) (fun _ _ _ h => h) (Or.inl ⟨rfl, fun W hW => by go_simp⟩) hH ?_
            simp only [Act.put, List.setIfInBounds_toArray, List.set_cons_zero, List.set_cons_succ]
            refine takeH 4 (some 97) (.agg #[.bool h9, .slice s9 t9 u9]) rfl rfl (by kernel_rfl) (by kernel_rfl) (by kernel_rfl) (fun _ _ _ h => h) (Or.inl ⟨rfl, fun W hW => by go_simp⟩) hH ?_
            simp only [Act.put, List.setIfInBounds_toArray, List.set_cons_zero, List.set_cons_succ]
            refine takeH 5 (some 98) (.bool f) rfl rfl (by kernel_rfl) (by kernel_rfl) (by kernel_rfl) (fun _ _ _ h => h) (Or.inl ⟨rfl, fun W hW => by go_simp⟩) hH ?_
            simp only [Act.put, List.setIfInBounds_toArray, List.set_cons_zero, List.set_cons_succ]
            have c_Y_0 := Y23.c 0 _ rfl
            have f_Y_0 := Y23.f 0 _ rfl
            have c_Y_1 := Y23.c 1 _ rfl
            have f_Y_1 := Y23.f 1 _ rfl
            refine oneH 7 rfl (by kernel_rfl) (fun K' hK => ?_)
            go_simp
            obtain ⟨w24, hw24⟩ : ∃ v, v = (w23.setCell ⟨qb21, 0, none⟩ (.bool h9)).setCell ⟨qb21, 1, none⟩ (.slice s9 t9 u9) := ⟨_, rfl⟩
            have tn24 : Tn [qb21] w23 w24 := by rw [hw24]; exact ((tnL w23 qb21 0 (.bool h9)).trans (tnL _ qb21 1 (.slice s9 t9 u9)))
            have Y24 : BoxL w24 w.heap.size qb21 [.bool h9, .slice s9 t9 u9] := by rw [hw24]; exact ((Y23.set 0 (.bool h9) (by simp)).set 1 (.slice s9 t9 u9) (by simp))
            have blo24 := Y23.lo
            rw [← hw24]
            clear hw24
            have B24 := tn24.below B23 B23.size (fun q hq => by simp at hq; omega)
            have oq24 := ownsV.tn oq23 tn24 ap_Y_oq
            have Q24 := Q23.tn tn24 (not_one (by omega))
            have os24 := ownsV.tn os23 tn24 ap_Y_os
            have S24 := S23.tn tn24 (not_one (by omega))
            have ox24 := ownsW.tn ox23 tn24 ap_Y_ox
            have X24 := X23.tn tn24 (not_one (by omega))
            have oy24 := ownsW.tn oy23 tn24 ap_Y_oy
            clear B23 oq23 Q23 os23 S23 ox23 X23 Y23 oy23 tn24 blo24
            clear c_Y_0 f_Y_0 c_Y_1 f_Y_1
            clear hH
            have hH : (fun W : World => W.cell? ⟨qb17, 0, none⟩ = some (.bool h7) ∧ W.cell? ⟨qb17, 1, none⟩ = some (.slice s7 t7 u7)) w24 := ⟨X24.c 0 _ rfl, X24.c 1 _ rfl⟩
            refine hK _ _ hH ?_
            clear hK
            refine takeH 8 (some 18) (.bool f) rfl rfl (by kernel_rfl) (by kernel_rfl) (by kernel_rfl) (fun _ _ _ h => h) (Or.inl ⟨rfl, fun W hW => by go_simp⟩) hH ?_
            simp only [Act.put, List.setIfInBounds_toArray, List.set_cons_zero, List.set_cons_succ]
            clear hH
            refine wpAnyH_done (by kernel_rfl) ?_ _
            exact CutBANNBANNN.mk h8 s8 t8 u8 h9 s9 t9 u9 qb21 rfl ⟨B24, Q24, S24, X24, Y24, oq24, os24, ox24, oy24, ap_Q_oy, ap_S_oy, ap_X_oy, ap_Y_oq, ap_Y_os, ap_Y_ox, ap_Y_oy, ap_oq_oy, ap_os_oy, ap_ox_oy, lt_Q_Y, lt_S_Y, lt_X_Y⟩
          exact AllReadyH.nil
        case hB =>
          rintro h8 s8 t8 u8 h9 s9 t9 u9 qb23 w25 ⟨B25, Q25, S25, X25, Y25, oq25, os25, ox25, oy25, ap_Q_oy, ap_S_oy, ap_X_oy, ap_Y_oq, ap_Y_os, ap_Y_ox, ap_Y_oy, ap_oq_oy, ap_os_oy, ap_ox_oy, lt_Q_Y, lt_S_Y, lt_X_Y⟩
          clear kO kS
          have c_Q_0 := Q25.c 0 _ rfl
          have c_Q_1 := Q25.c 1 _ rfl
          have c_Q_2 := Q25.c 2 _ rfl
          have c_Q_3 := Q25.c 3 _ rfl
          have c_X_0 := X25.c 0 _ rfl
          have c_X_1 := X25.c 1 _ rfl
          have c_Y_0 := Y25.c 0 _ rfl
          have c_Y_1 := Y25.c 1 _ rfl
          go_wp2_with fail
          refine (kA _ _ _ oq25.row (rowV_of ox25.row oy25.row)).mono ?_
          rintro e w26 ⟨rfl, bb26⟩
          clear c_Q_0 c_Q_1 c_Q_2 c_Q_3 c_X_0 c_X_1 c_Y_0 c_Y_1
          have B26 := B25.trans (bb26.mono B25.size)
          have oq26 := ownsV.below oq25 bb26 (Nat.le_refl _)
          have Q26 := Q25.below bb26 (Nat.le_refl _)
          have os26 := ownsV.below os25 bb26 (Nat.le_refl _)
          have S26 := S25.below bb26 (Nat.le_refl _)
          have ox26 := ownsW.below ox25 bb26 (Nat.le_refl _)
          have X26 := X25.below bb26 (Nat.le_refl _)
          have oy26 := ownsW.below oy25 bb26 (Nat.le_refl _)
          have Y26 := Y25.below bb26 (Nat.le_refl _)
          clear B25 oq25 Q25 os25 S25 ox25 X25 oy25 Y25 bb26
          clear kA
          have c_S_0 := S26.c 0 _ rfl
          have c_S_1 := S26.c 1 _ rfl
          have c_S_2 := S26.c 2 _ rfl
          have c_S_3 := S26.c 3 _ rfl
          have c_Q_0 := Q26.c 0 _ rfl
          have c_Q_1 := Q26.c 1 _ rfl
          have c_Q_2 := Q26.c 2 _ rfl
          have c_Q_3 := Q26.c 3 _ rfl
          go_wp2_with fail
          refine (kB _ _ _ os26.row oq26.row).mono ?_
          rintro e w27 ⟨rfl, bb27⟩
          clear c_S_0 c_S_1 c_S_2 c_S_3 c_Q_0 c_Q_1 c_Q_2 c_Q_3
          have B27 := B26.trans (bb27.mono B26.size)
          have oq27 := ownsV.below oq26 bb27 (Nat.le_refl _)
          have Q27 := Q26.below bb27 (Nat.le_refl _)
          have os27 := ownsV.below os26 bb27 (Nat.le_refl _)
          have S27 := S26.below bb27 (Nat.le_refl _)
          have ox27 := ownsW.below ox26 bb27 (Nat.le_refl _)
          have X27 := X26.below bb27 (Nat.le_refl _)
          have oy27 := ownsW.below oy26 bb27 (Nat.le_refl _)
          have Y27 := Y26.below bb27 (Nat.le_refl _)
          clear B26 oq26 Q26 os26 S26 ox26 X26 oy26 Y26 bb27
          clear kB
          go_wp2
          go_ret
          first | exact ⟨rfl, B27⟩

theorem walkGain (a0 : Option Addr) (len0 cap0 : Nat) (z0 : List Int) (w : World) (h : IsRow .u8 w a0 len0 cap0 z0) :
    Calls Try.prog 3 #[.slice a0 len0 cap0] w fun e w' => e = .returned (.bool true) ∧ Below w.heap.size w w' := by
  by_cases hl : len0 ≤ 1048576
  · exact gain_in a0 len0 cap0 z0 w hl (code_of h)
  · have k := fun W => big_yes a0 len0 cap0 W hl
    go_enter Try.func3, Try.ntmps3
    go_wp2_with fail
    refine (k _).mono ?_
    rintro e w ⟨rfl, rfl⟩
    go_wp2
    go_ret
    exact ⟨rfl, Below.refl _ _⟩

end Go.Proofs.Ytlpfjpbnedankaa
