/- FnSpun: the walk. -/
import Derived.Test.YtlpfjpbnedankaaLawSpM
import Derived.Test.YtlpfjpbnedankaaDrP
import Derived.Test.YtlpfjpbnedankaaAt0
import Derived.Test.YtlpfjpbnedankaaSSpStep
import Derived.Test.YtlpfjpbnedankaaISpStep
import Derived.Test.YtlpfjpbnedankaaIWholeShift
import Derived.Test.YtlpfjpbnedankaaIWholeAdd
import Derived.Test.YtlpfjpbnedankaaFB
namespace Go.Proofs.Ytlpfjpbnedankaa
open Go.RowKit
set_option linter.unusedSimpArgs false
set_option linter.unusedVariables false

theorem mk1000 {a : Wh} (h : a.2.length ≤ 98) : a.2.length ≤ 1048576 := by omega
theorem wshiftR_len (a : Wh) (k : Int) : (wshiftR a k).1.2.length ≤ 1048576 := by
  unfold wshiftR
  split
  · exact fitW_len _
  · simp
theorem lenP_of {a r : Ph} {i d : Int} {o : Bool} (h : stepR a i d = (r, o)) (h0 : a.1.1.2.length ≤ 98) (h1 : a.1.2.2.length ≤ 98) : r.1.1.2.length ≤ 1048576 ∧ r.1.2.2.length ≤ 1048576 := by
  have := stepR_len a i d (by omega) (by omega)
  rw [h] at this
  exact this
theorem lenW {w : World} {base n c : Nat} {g : Bool} {ad : Option Addr} {a : Wh} (h : ownsW w base (.agg #[.bool g, .slice ad n c]) a) : a.2.length = n := by
  obtain ⟨ad2, c2, e, -⟩ := (h.row.lim).2
  injection e with e1 e2
  exact e2.symm
set_option maxRecDepth 20000 in
set_option maxHeartbeats 12800000 in
theorem spun_in (a0 : Option Addr) (len cap : Nat) (zs : List Int) (w : World) (hlen : len ≤ 1048576) (hc : CodeIs w a0 len cap zs) :
    Calls Try.prog 4 #[.slice a0 len cap] w fun e w' => e = .returned (.bool true) ∧ Below w.heap.size w w' := by
  have B0_0 : Below w.heap.size w w := Below.refl _ _
  have B0 := B0_0
  clear B0_0 
  go_enter Try.func4, Try.ntmps4
  go_wp2_with fail
  refine (big_b a0 len cap _ hlen).mono ?_
  rintro e w1 ⟨rfl, bb1⟩
  have B1 := B0.trans (bb1.mono B0.size)
  clear B0 bb1
  go_wp2_with fail
  refine (drSpinStep a0 len cap zs _ hlen (hc.below B1)).mono ?_
  rintro e w2 ⟨v, s, i, d, rfl, os, l1, l2, bb2⟩
  obtain ⟨h1, s1, t1, u1, m1, p1, q1, r1, eq1⟩ := os.cell
  obtain ⟨k1, hk1⟩ : ∃ q, s.2 = q := ⟨_, rfl⟩
  rw [hk1] at eq1
  subst eq1
  replace hk1 : Hid (s.2 = k1) := hk1
  replace os := ownsP_mono os B1.size
  have B2 := B1.trans (bb2.mono B1.size)
  clear B1 bb2
  have os2 := os
  clear os
  have l1b : s.1.1.2.length ≤ 1048576 := by omega
  have l2b : s.1.2.2.length ≤ 1048576 := by omega
  obtain ⟨⟨r, ok⟩, hr⟩ : ∃ q, stepR s i d = q := ⟨_, rfl⟩
  have lr := lenP_of hr l1 l2
  have kI := fun v W (q : rowP W v s) => iSpinStep v s i d W q l1b l2b
  have kS := fun v W (q : rowP W v s) => sSpinStep v s i d W q l1b l2b
  rw [hr] at kI kS
  dsimp only at kI kS
  obtain ⟨w3, hw3⟩ : ∃ v, Hid (v = w2.alloc (.cells #[.bool h1, .slice s1 t1 u1, .bool m1, .slice p1 q1 r1, .int .i64 k1] 34)) := ⟨_, rfl⟩
  have bb3 : Below w2.heap.size w2 w3 := by rw [hw3.out]; exact below1 _ _
  obtain ⟨qb3, hq3⟩ : ∃ v, Hid (v = w2.heap.size) := ⟨_, rfl⟩
  have S3 : BoxL w3 w.heap.size qb3 [.bool h1, .slice s1 t1 u1, .bool m1, .slice p1 q1 r1, .int .i64 k1] := by rw [hw3.out, hq3.out]; exact (BoxL.made w2 [.bool h1, .slice s1 t1 u1, .bool m1, .slice p1 q1 r1, .int .i64 k1] 34).mono B2.size
  have sn3 : w3.heap.size = qb3 + 1 := by rw [hw3.out, hq3.out]; simp
  have B3 := B2.trans (bb3.mono B2.size)
  have os3 := ownsP.below os2 bb3 (Nat.le_refl _)
  have ap_S_os : Apart (blkP (.agg #[.bool h1, .slice s1 t1 u1, .bool m1, .slice p1 q1 r1, .int .i64 k1])) [qb3] := apart_one fun q hq => by rw [hq3.out]; have h1 := (ownsP.ltb os2 q hq).2; omega
  clear B2 os2 bb3
  replace sn3 : Hid (w3.heap.size = qb3 + 1) := sn3
  go_wp2_with fail
  replace sn3 := sn3.out
  rw [← hw3.out]
  (try rw [← hq3.out])
  (try rw [← sn3])
  clear hw3 hq3 sn3
  refine (kI _ _ os3.row).mono ?_
  rintro e w4 ⟨v, rfl, oa, bb4⟩
  obtain ⟨h2, s2, t2, u2, m2, p2, q2, r2, eq2⟩ := oa.cell
  obtain ⟨k2, hk2⟩ : ∃ q, r.2 = q := ⟨_, rfl⟩
  rw [hk2] at eq2
  subst eq2
  replace hk2 : Hid (r.2 = k2) := hk2
  have ap_S_oa : Apart (blkP (.agg #[.bool h2, .slice s2 t2 u2, .bool m2, .slice p2 q2 r2, .int .i64 k2])) [qb3] := apart_one fun q hq => by have h1 := (ownsP.ltb oa q hq).1; have h2 := S3.hi; omega
  have ap_oa_os : Apart (blkP (.agg #[.bool h2, .slice s2 t2 u2, .bool m2, .slice p2 q2 r2, .int .i64 k2])) (blkP (.agg #[.bool h1, .slice s1 t1 u1, .bool m1, .slice p1 q1 r1, .int .i64 k1])) := Apart.symm (apart_of (fun k hk => (ownsP.ltb os3 k hk).2) (fun k hk => (ownsP.ltb oa k hk).1))
  replace oa := ownsP_mono oa B3.size
  have B4 := B3.trans (bb4.mono B3.size)
  have os4 := ownsP.below os3 bb4 (Nat.le_refl _)
  have S4 := S3.below bb4 (Nat.le_refl _)
  clear B3 os3 S3 bb4
  have oa4 := oa
  clear oa
  obtain ⟨w5, hw5⟩ : ∃ v, Hid (v = w4.alloc (.cells #[.bool h2, .slice s2 t2 u2, .bool m2, .slice p2 q2 r2, .int .i64 k2] 34)) := ⟨_, rfl⟩
  have bb5 : Below w4.heap.size w4 w5 := by rw [hw5.out]; exact below1 _ _
  obtain ⟨qb5, hq5⟩ : ∃ v, Hid (v = w4.heap.size) := ⟨_, rfl⟩
  have A5 : BoxL w5 w.heap.size qb5 [.bool h2, .slice s2 t2 u2, .bool m2, .slice p2 q2 r2, .int .i64 k2] := by rw [hw5.out, hq5.out]; exact (BoxL.made w4 [.bool h2, .slice s2 t2 u2, .bool m2, .slice p2 q2 r2, .int .i64 k2] 34).mono B4.size
  have sn5 : w5.heap.size = qb5 + 1 := by rw [hw5.out, hq5.out]; simp
  have B5 := B4.trans (bb5.mono B4.size)
  have os5 := ownsP.below os4 bb5 (Nat.le_refl _)
  have S5 := S4.below bb5 (Nat.le_refl _)
  have oa5 := ownsP.below oa4 bb5 (Nat.le_refl _)
  have ap_A_os : Apart (blkP (.agg #[.bool h1, .slice s1 t1 u1, .bool m1, .slice p1 q1 r1, .int .i64 k1])) [qb5] := apart_one fun q hq => by rw [hq5.out]; have h1 := (ownsP.ltb os4 q hq).2; omega
  have lt_S_A : qb3 < qb5 := by rw [hq5.out]; exact S4.hi
  have ap_A_oa : Apart (blkP (.agg #[.bool h2, .slice s2 t2 u2, .bool m2, .slice p2 q2 r2, .int .i64 k2])) [qb5] := apart_one fun q hq => by rw [hq5.out]; have h1 := (ownsP.ltb oa4 q hq).2; omega
  clear B4 os4 S4 oa4 bb5
  have c_S_0 := S5.c 0 _ rfl
  have c_S_1 := S5.c 1 _ rfl
  have c_S_2 := S5.c 2 _ rfl
  have c_S_3 := S5.c 3 _ rfl
  have c_S_4 := S5.c 4 _ rfl
  rw [hw5.out] at c_S_0
  rw [hw5.out] at c_S_1
  rw [hw5.out] at c_S_2
  rw [hw5.out] at c_S_3
  rw [hw5.out] at c_S_4
  replace sn5 : Hid (w5.heap.size = qb5 + 1) := sn5
  go_wp2_with fail
  replace sn5 := sn5.out
  rw [← hw5.out]
  (try rw [← hq5.out])
  (try rw [← sn5])
  clear c_S_0 c_S_1 c_S_2 c_S_3 c_S_4
  clear hw5 hq5 sn5
  refine (kS _ _ os5.row).mono ?_
  rintro e w6 ⟨v, rfl, ob, bb6⟩
  obtain ⟨h3, s3, t3, u3, m3, p3, q3, r3, eq3⟩ := ob.cell
  obtain ⟨k3, hk3⟩ : ∃ q, r.2 = q := ⟨_, rfl⟩
  rw [hk3] at eq3
  subst eq3
  replace hk3 : Hid (r.2 = k3) := hk3
  have ap_S_ob : Apart (blkP (.agg #[.bool h3, .slice s3 t3 u3, .bool m3, .slice p3 q3 r3, .int .i64 k3])) [qb3] := apart_one fun q hq => by have h1 := (ownsP.ltb ob q hq).1; have h2 := S5.hi; omega
  have ap_A_ob : Apart (blkP (.agg #[.bool h3, .slice s3 t3 u3, .bool m3, .slice p3 q3 r3, .int .i64 k3])) [qb5] := apart_one fun q hq => by have h1 := (ownsP.ltb ob q hq).1; have h2 := A5.hi; omega
  have ap_ob_os : Apart (blkP (.agg #[.bool h3, .slice s3 t3 u3, .bool m3, .slice p3 q3 r3, .int .i64 k3])) (blkP (.agg #[.bool h1, .slice s1 t1 u1, .bool m1, .slice p1 q1 r1, .int .i64 k1])) := Apart.symm (apart_of (fun k hk => (ownsP.ltb os5 k hk).2) (fun k hk => (ownsP.ltb ob k hk).1))
  have ap_oa_ob : Apart (blkP (.agg #[.bool h2, .slice s2 t2 u2, .bool m2, .slice p2 q2 r2, .int .i64 k2])) (blkP (.agg #[.bool h3, .slice s3 t3 u3, .bool m3, .slice p3 q3 r3, .int .i64 k3])) := apart_of (fun k hk => (ownsP.ltb oa5 k hk).2) (fun k hk => (ownsP.ltb ob k hk).1)
  replace ob := ownsP_mono ob B5.size
  have B6 := B5.trans (bb6.mono B5.size)
  have os6 := ownsP.below os5 bb6 (Nat.le_refl _)
  have S6 := S5.below bb6 (Nat.le_refl _)
  have oa6 := ownsP.below oa5 bb6 (Nat.le_refl _)
  have A6 := A5.below bb6 (Nat.le_refl _)
  clear B5 os5 S5 oa5 A5 bb6
  have ob6 := ob
  clear ob
  clear kI kS
  cases ok
  · have hn := step_no hr
    subst hn
    have e21 : Hid (k2 = k1) := by have e1 := hk1.out; have e2 := hk2.out; show _ = _; omega
    have e11 : decide (r.1.1 = r.1.1) = true := decide_eq_true rfl
    have e12 : decide (r.1.2 = r.1.2) = true := decide_eq_true rfl
    have kX := fun u v W (q1 : rowW W u r.1.1) (q2 : rowW W v r.1.1) => sameWh u v _ _ W q1 q2 l1b
    have kY := fun u v W (q1 : rowW W u r.1.2) (q2 : rowW W v r.1.2) => sameWh u v _ _ W q1 q2 l2b
    rw [e11] at kX
    rw [e12] at kY
    clear e11 e12 hr
    obtain ⟨w7, hw7⟩ : ∃ v, Hid (v = w6.alloc (.cells #[.bool h3, .slice s3 t3 u3, .bool m3, .slice p3 q3 r3, .int .i64 k3] 34)) := ⟨_, rfl⟩
    have bb7 : Below w6.heap.size w6 w7 := by rw [hw7.out]; exact below1 _ _
    obtain ⟨qb7, hq7⟩ : ∃ v, Hid (v = w6.heap.size) := ⟨_, rfl⟩
    have T7 : BoxL w7 w.heap.size qb7 [.bool h3, .slice s3 t3 u3, .bool m3, .slice p3 q3 r3, .int .i64 k3] := by rw [hw7.out, hq7.out]; exact (BoxL.made w6 [.bool h3, .slice s3 t3 u3, .bool m3, .slice p3 q3 r3, .int .i64 k3] 34).mono B6.size
    have sn7 : w7.heap.size = qb7 + 1 := by rw [hw7.out, hq7.out]; simp
    have B7 := B6.trans (bb7.mono B6.size)
    have os7 := ownsP.below os6 bb7 (Nat.le_refl _)
    have S7 := S6.below bb7 (Nat.le_refl _)
    have oa7 := ownsP.below oa6 bb7 (Nat.le_refl _)
    have A7 := A6.below bb7 (Nat.le_refl _)
    have ob7 := ownsP.below ob6 bb7 (Nat.le_refl _)
    have ap_T_os : Apart (blkP (.agg #[.bool h1, .slice s1 t1 u1, .bool m1, .slice p1 q1 r1, .int .i64 k1])) [qb7] := apart_one fun q hq => by rw [hq7.out]; have h1 := (ownsP.ltb os6 q hq).2; omega
    have lt_S_T : qb3 < qb7 := by rw [hq7.out]; exact S6.hi
    have ap_T_oa : Apart (blkP (.agg #[.bool h2, .slice s2 t2 u2, .bool m2, .slice p2 q2 r2, .int .i64 k2])) [qb7] := apart_one fun q hq => by rw [hq7.out]; have h1 := (ownsP.ltb oa6 q hq).2; omega
    have lt_A_T : qb5 < qb7 := by rw [hq7.out]; exact A6.hi
    have ap_T_ob : Apart (blkP (.agg #[.bool h3, .slice s3 t3 u3, .bool m3, .slice p3 q3 r3, .int .i64 k3])) [qb7] := apart_one fun q hq => by rw [hq7.out]; have h1 := (ownsP.ltb ob6 q hq).2; omega
    clear B6 os6 S6 oa6 A6 ob6 bb7
    have c_S_0 := S7.c 0 _ rfl
    have c_S_1 := S7.c 1 _ rfl
    have c_S_2 := S7.c 2 _ rfl
    have c_S_3 := S7.c 3 _ rfl
    have c_S_4 := S7.c 4 _ rfl
    have c_A_0 := A7.c 0 _ rfl
    have c_A_1 := A7.c 1 _ rfl
    have c_A_2 := A7.c 2 _ rfl
    have c_A_3 := A7.c 3 _ rfl
    have c_A_4 := A7.c 4 _ rfl
    rw [hw7.out] at c_S_0
    rw [hw7.out] at c_S_1
    rw [hw7.out] at c_S_2
    rw [hw7.out] at c_S_3
    rw [hw7.out] at c_S_4
    rw [hw7.out] at c_A_0
    rw [hw7.out] at c_A_1
    rw [hw7.out] at c_A_2
    rw [hw7.out] at c_A_3
    rw [hw7.out] at c_A_4
    replace sn7 : Hid (w7.heap.size = qb7 + 1) := sn7
    go_wp2_with fail
    replace sn7 := sn7.out
    rw [← hw7.out]
    (try rw [← hq7.out])
    (try rw [← sn7])
    clear c_S_0 c_S_1 c_S_2 c_S_3 c_S_4 c_A_0 c_A_1 c_A_2 c_A_3 c_A_4
    clear hw7 hq7 sn7
    refine (kX _ _ _ oa7.row.x os7.row.x).mono ?_
    rintro e w8 ⟨rfl, bb8⟩
    have B8 := B7.trans (bb8.mono B7.size)
    have os8 := ownsP.below os7 bb8 (Nat.le_refl _)
    have S8 := S7.below bb8 (Nat.le_refl _)
    have oa8 := ownsP.below oa7 bb8 (Nat.le_refl _)
    have A8 := A7.below bb8 (Nat.le_refl _)
    have ob8 := ownsP.below ob7 bb8 (Nat.le_refl _)
    have T8 := T7.below bb8 (Nat.le_refl _)
    clear B7 os7 S7 oa7 A7 ob7 T7 bb8
    have c_S_0 := S8.c 0 _ rfl
    have c_S_1 := S8.c 1 _ rfl
    have c_S_2 := S8.c 2 _ rfl
    have c_S_3 := S8.c 3 _ rfl
    have c_S_4 := S8.c 4 _ rfl
    have c_A_0 := A8.c 0 _ rfl
    have c_A_1 := A8.c 1 _ rfl
    have c_A_2 := A8.c 2 _ rfl
    have c_A_3 := A8.c 3 _ rfl
    have c_A_4 := A8.c 4 _ rfl
    go_wp2_with fail
    refine (kY _ _ _ oa8.row.y os8.row.y).mono ?_
    rintro e w9 ⟨rfl, bb9⟩
    clear c_S_0 c_S_1 c_S_2 c_S_3 c_S_4 c_A_0 c_A_1 c_A_2 c_A_3 c_A_4
    have B9 := B8.trans (bb9.mono B8.size)
    have os9 := ownsP.below os8 bb9 (Nat.le_refl _)
    have S9 := S8.below bb9 (Nat.le_refl _)
    have oa9 := ownsP.below oa8 bb9 (Nat.le_refl _)
    have A9 := A8.below bb9 (Nat.le_refl _)
    have ob9 := ownsP.below ob8 bb9 (Nat.le_refl _)
    have T9 := T8.below bb9 (Nat.le_refl _)
    clear B8 os8 S8 oa8 A8 ob8 T8 bb9
    have ek : (k2 == k1) = true := by simp [e21.out]
    have c_S_0 := S9.c 0 _ rfl
    have c_S_1 := S9.c 1 _ rfl
    have c_S_2 := S9.c 2 _ rfl
    have c_S_3 := S9.c 3 _ rfl
    have c_S_4 := S9.c 4 _ rfl
    have c_A_0 := A9.c 0 _ rfl
    have c_A_1 := A9.c 1 _ rfl
    have c_A_2 := A9.c 2 _ rfl
    have c_A_3 := A9.c 3 _ rfl
    have c_A_4 := A9.c 4 _ rfl
    go_wp2
    go_ret
    first | exact ⟨rfl, B9⟩ | exact ⟨rfl, B9.trans ((below1 _ _).mono B9.size)⟩
  · obtain ⟨k, rfl, hs⟩ := step_yes hr
    have hk30 := hs.hk
    have hd := hs.hd
    have kN := fun v W (q : rowP W v s) => iNormSquare v s W q l1b l2b
    have kM := fun v W (q : rowP W v r) => iNormSquare v r W q lr.1 lr.2
    obtain ⟨X, hX⟩ : ∃ q, normR s = q := ⟨_, rfl⟩
    obtain ⟨Y, hY⟩ : ∃ q, normR r = q := ⟨_, rfl⟩
    have lX := normR_len s
    have lY := normR_len r
    have hsum := fun (four sum : Wh) (f1 : Bool) h1 h2 h3 => spun_sum hs (four := four) (sum := sum) (f1 := f1) h1 h2 h3
    have hsg := spun_sign hs
    rw [hX] at kN lX hsum hsg
    rw [hY] at kM lY hsum
    obtain ⟨⟨f4, b4⟩, hw4x⟩ : ∃ q, wshiftR X (2 * (k : Int)) = q := ⟨_, rfl⟩
    obtain ⟨⟨f5, b5⟩, hw5x⟩ : ∃ q, waddR f4 X = q := ⟨_, rfl⟩
    have l4 : f4.2.length ≤ 1048576 := by have := wshiftR_len X (2 * (k : Int)); rw [hw4x] at this; exact this
    have l5 : f5.2.length ≤ 1048576 := by have := waddR_len f4 X; rw [hw5x] at this; exact this
    have kF := fun v W (q : rowW W v X) => iWholeShift v X (2 * (k : Int)) W q lX
    have kG := fun u v W (q1 : rowW W u f4) (q2 : rowW W v X) => iWholeAdd u v f4 X W q1 q2 l4 lX
    rw [hw4x] at kF
    rw [hw5x] at kG
    dsimp only at kF kG
    have hw2 : IntKind.i64.wrap (2 * (k : Int)) = 2 * (k : Int) := by rw [IntKind.wrap_i64]; omega
    obtain ⟨w7, hw7⟩ : ∃ v, Hid (v = w6.alloc (.cells #[.bool h3, .slice s3 t3 u3, .bool m3, .slice p3 q3 r3, .int .i64 k3] 34)) := ⟨_, rfl⟩
    have bb7 : Below w6.heap.size w6 w7 := by rw [hw7.out]; exact below1 _ _
    obtain ⟨qb7, hq7⟩ : ∃ v, Hid (v = w6.heap.size) := ⟨_, rfl⟩
    have T7 : BoxL w7 w.heap.size qb7 [.bool h3, .slice s3 t3 u3, .bool m3, .slice p3 q3 r3, .int .i64 k3] := by rw [hw7.out, hq7.out]; exact (BoxL.made w6 [.bool h3, .slice s3 t3 u3, .bool m3, .slice p3 q3 r3, .int .i64 k3] 34).mono B6.size
    have sn7 : w7.heap.size = qb7 + 1 := by rw [hw7.out, hq7.out]; simp
    have B7 := B6.trans (bb7.mono B6.size)
    have os7 := ownsP.below os6 bb7 (Nat.le_refl _)
    have S7 := S6.below bb7 (Nat.le_refl _)
    have oa7 := ownsP.below oa6 bb7 (Nat.le_refl _)
    have A7 := A6.below bb7 (Nat.le_refl _)
    have ob7 := ownsP.below ob6 bb7 (Nat.le_refl _)
    have ap_T_os : Apart (blkP (.agg #[.bool h1, .slice s1 t1 u1, .bool m1, .slice p1 q1 r1, .int .i64 k1])) [qb7] := apart_one fun q hq => by rw [hq7.out]; have h1 := (ownsP.ltb os6 q hq).2; omega
    have lt_S_T : qb3 < qb7 := by rw [hq7.out]; exact S6.hi
    have ap_T_oa : Apart (blkP (.agg #[.bool h2, .slice s2 t2 u2, .bool m2, .slice p2 q2 r2, .int .i64 k2])) [qb7] := apart_one fun q hq => by rw [hq7.out]; have h1 := (ownsP.ltb oa6 q hq).2; omega
    have lt_A_T : qb5 < qb7 := by rw [hq7.out]; exact A6.hi
    have ap_T_ob : Apart (blkP (.agg #[.bool h3, .slice s3 t3 u3, .bool m3, .slice p3 q3 r3, .int .i64 k3])) [qb7] := apart_one fun q hq => by rw [hq7.out]; have h1 := (ownsP.ltb ob6 q hq).2; omega
    clear B6 os6 S6 oa6 A6 ob6 bb7
    have c_S_0 := S7.c 0 _ rfl
    have c_S_1 := S7.c 1 _ rfl
    have c_S_2 := S7.c 2 _ rfl
    have c_S_3 := S7.c 3 _ rfl
    have c_S_4 := S7.c 4 _ rfl
    rw [hw7.out] at c_S_0
    rw [hw7.out] at c_S_1
    rw [hw7.out] at c_S_2
    rw [hw7.out] at c_S_3
    rw [hw7.out] at c_S_4
    replace sn7 : Hid (w7.heap.size = qb7 + 1) := sn7
    go_wp2_with fail
    replace sn7 := sn7.out
    rw [← hw7.out]
    (try rw [← hq7.out])
    (try rw [← sn7])
    clear c_S_0 c_S_1 c_S_2 c_S_3 c_S_4
    clear hw7 hq7 sn7
    clear ob7 T7
    refine (kN _ _ os7.row).mono ?_
    rintro e w8 ⟨v, rfl, ox, bb8⟩
    obtain ⟨h4, s4, t4, u4, rfl⟩ := ox.cell
    have ap_S_ox : Apart (blkW (.agg #[.bool h4, .slice s4 t4 u4])) [qb3] := apart_one fun q hq => by have h1 := (ownsW.ltb ox q hq).1; have h2 := S7.hi; omega
    have ap_A_ox : Apart (blkW (.agg #[.bool h4, .slice s4 t4 u4])) [qb5] := apart_one fun q hq => by have h1 := (ownsW.ltb ox q hq).1; have h2 := A7.hi; omega
    have ap_os_ox : Apart (blkP (.agg #[.bool h1, .slice s1 t1 u1, .bool m1, .slice p1 q1 r1, .int .i64 k1])) (blkW (.agg #[.bool h4, .slice s4 t4 u4])) := apart_of (fun k hk => (ownsP.ltb os7 k hk).2) (fun k hk => (ownsW.ltb ox k hk).1)
    have ap_oa_ox : Apart (blkP (.agg #[.bool h2, .slice s2 t2 u2, .bool m2, .slice p2 q2 r2, .int .i64 k2])) (blkW (.agg #[.bool h4, .slice s4 t4 u4])) := apart_of (fun k hk => (ownsP.ltb oa7 k hk).2) (fun k hk => (ownsW.ltb ox k hk).1)
    replace ox := ownsW_mono ox B7.size
    have B8 := B7.trans (bb8.mono B7.size)
    have os8 := ownsP.below os7 bb8 (Nat.le_refl _)
    have S8 := S7.below bb8 (Nat.le_refl _)
    have oa8 := ownsP.below oa7 bb8 (Nat.le_refl _)
    have A8 := A7.below bb8 (Nat.le_refl _)
    clear B7 os7 S7 oa7 A7 bb8
    have ox8 := ox
    clear ox
    clear kN
    obtain ⟨w9, hw9⟩ : ∃ v, Hid (v = w8.alloc (.cells #[.bool h4, .slice s4 t4 u4] 27)) := ⟨_, rfl⟩
    have bb9 : Below w8.heap.size w8 w9 := by rw [hw9.out]; exact below1 _ _
    obtain ⟨qb9, hq9⟩ : ∃ v, Hid (v = w8.heap.size) := ⟨_, rfl⟩
    have X9 : BoxL w9 w.heap.size qb9 [.bool h4, .slice s4 t4 u4] := by rw [hw9.out, hq9.out]; exact (BoxL.made w8 [.bool h4, .slice s4 t4 u4] 27).mono B8.size
    have sn9 : w9.heap.size = qb9 + 1 := by rw [hw9.out, hq9.out]; simp
    have B9 := B8.trans (bb9.mono B8.size)
    have os9 := ownsP.below os8 bb9 (Nat.le_refl _)
    have S9 := S8.below bb9 (Nat.le_refl _)
    have oa9 := ownsP.below oa8 bb9 (Nat.le_refl _)
    have A9 := A8.below bb9 (Nat.le_refl _)
    have ox9 := ownsW.below ox8 bb9 (Nat.le_refl _)
    have ap_X_os : Apart (blkP (.agg #[.bool h1, .slice s1 t1 u1, .bool m1, .slice p1 q1 r1, .int .i64 k1])) [qb9] := apart_one fun q hq => by rw [hq9.out]; have h1 := (ownsP.ltb os8 q hq).2; omega
    have lt_S_X : qb3 < qb9 := by rw [hq9.out]; exact S8.hi
    have ap_X_oa : Apart (blkP (.agg #[.bool h2, .slice s2 t2 u2, .bool m2, .slice p2 q2 r2, .int .i64 k2])) [qb9] := apart_one fun q hq => by rw [hq9.out]; have h1 := (ownsP.ltb oa8 q hq).2; omega
    have lt_A_X : qb5 < qb9 := by rw [hq9.out]; exact A8.hi
    have ap_X_ox : Apart (blkW (.agg #[.bool h4, .slice s4 t4 u4])) [qb9] := apart_one fun q hq => by rw [hq9.out]; have h1 := (ownsW.ltb ox8 q hq).2; omega
    clear B8 os8 S8 oa8 A8 ox8 bb9
    have c_A_0 := A9.c 0 _ rfl
    have c_A_1 := A9.c 1 _ rfl
    have c_A_2 := A9.c 2 _ rfl
    have c_A_3 := A9.c 3 _ rfl
    have c_A_4 := A9.c 4 _ rfl
    rw [hw9.out] at c_A_0
    rw [hw9.out] at c_A_1
    rw [hw9.out] at c_A_2
    rw [hw9.out] at c_A_3
    rw [hw9.out] at c_A_4
    replace sn9 : Hid (w9.heap.size = qb9 + 1) := sn9
    go_wp2_with fail
    replace sn9 := sn9.out
    rw [← hw9.out]
    (try rw [← hq9.out])
    (try rw [← sn9])
    clear c_A_0 c_A_1 c_A_2 c_A_3 c_A_4
    clear hw9 hq9 sn9
    refine (kM _ _ oa9.row).mono ?_
    rintro e w10 ⟨v, rfl, oy, bb10⟩
    obtain ⟨h5, s5, t5, u5, rfl⟩ := oy.cell
    have ap_S_oy : Apart (blkW (.agg #[.bool h5, .slice s5 t5 u5])) [qb3] := apart_one fun q hq => by have h1 := (ownsW.ltb oy q hq).1; have h2 := S9.hi; omega
    have ap_A_oy : Apart (blkW (.agg #[.bool h5, .slice s5 t5 u5])) [qb5] := apart_one fun q hq => by have h1 := (ownsW.ltb oy q hq).1; have h2 := A9.hi; omega
    have ap_X_oy : Apart (blkW (.agg #[.bool h5, .slice s5 t5 u5])) [qb9] := apart_one fun q hq => by have h1 := (ownsW.ltb oy q hq).1; have h2 := X9.hi; omega
    have ap_os_oy : Apart (blkP (.agg #[.bool h1, .slice s1 t1 u1, .bool m1, .slice p1 q1 r1, .int .i64 k1])) (blkW (.agg #[.bool h5, .slice s5 t5 u5])) := apart_of (fun k hk => (ownsP.ltb os9 k hk).2) (fun k hk => (ownsW.ltb oy k hk).1)
    have ap_oa_oy : Apart (blkP (.agg #[.bool h2, .slice s2 t2 u2, .bool m2, .slice p2 q2 r2, .int .i64 k2])) (blkW (.agg #[.bool h5, .slice s5 t5 u5])) := apart_of (fun k hk => (ownsP.ltb oa9 k hk).2) (fun k hk => (ownsW.ltb oy k hk).1)
    have ap_ox_oy : Apart (blkW (.agg #[.bool h4, .slice s4 t4 u4])) (blkW (.agg #[.bool h5, .slice s5 t5 u5])) := apart_of (fun k hk => (ownsW.ltb ox9 k hk).2) (fun k hk => (ownsW.ltb oy k hk).1)
    replace oy := ownsW_mono oy B9.size
    have B10 := B9.trans (bb10.mono B9.size)
    have os10 := ownsP.below os9 bb10 (Nat.le_refl _)
    have S10 := S9.below bb10 (Nat.le_refl _)
    have oa10 := ownsP.below oa9 bb10 (Nat.le_refl _)
    have A10 := A9.below bb10 (Nat.le_refl _)
    have ox10 := ownsW.below ox9 bb10 (Nat.le_refl _)
    have X10 := X9.below bb10 (Nat.le_refl _)
    clear B9 os9 S9 oa9 A9 ox9 X9 bb10
    have oy10 := oy
    clear oy
    clear kM
    obtain ⟨w11, hw11⟩ : ∃ v, Hid (v = w10.alloc (.cells #[.bool h5, .slice s5 t5 u5] 27)) := ⟨_, rfl⟩
    have bb11 : Below w10.heap.size w10 w11 := by rw [hw11.out]; exact below1 _ _
    obtain ⟨qb11, hq11⟩ : ∃ v, Hid (v = w10.heap.size) := ⟨_, rfl⟩
    have Y11 : BoxL w11 w.heap.size qb11 [.bool h5, .slice s5 t5 u5] := by rw [hw11.out, hq11.out]; exact (BoxL.made w10 [.bool h5, .slice s5 t5 u5] 27).mono B10.size
    have sn11 : w11.heap.size = qb11 + 1 := by rw [hw11.out, hq11.out]; simp
    have B11 := B10.trans (bb11.mono B10.size)
    have os11 := ownsP.below os10 bb11 (Nat.le_refl _)
    have S11 := S10.below bb11 (Nat.le_refl _)
    have oa11 := ownsP.below oa10 bb11 (Nat.le_refl _)
    have A11 := A10.below bb11 (Nat.le_refl _)
    have ox11 := ownsW.below ox10 bb11 (Nat.le_refl _)
    have X11 := X10.below bb11 (Nat.le_refl _)
    have oy11 := ownsW.below oy10 bb11 (Nat.le_refl _)
    have ap_Y_os : Apart (blkP (.agg #[.bool h1, .slice s1 t1 u1, .bool m1, .slice p1 q1 r1, .int .i64 k1])) [qb11] := apart_one fun q hq => by rw [hq11.out]; have h1 := (ownsP.ltb os10 q hq).2; omega
    have lt_S_Y : qb3 < qb11 := by rw [hq11.out]; exact S10.hi
    have ap_Y_oa : Apart (blkP (.agg #[.bool h2, .slice s2 t2 u2, .bool m2, .slice p2 q2 r2, .int .i64 k2])) [qb11] := apart_one fun q hq => by rw [hq11.out]; have h1 := (ownsP.ltb oa10 q hq).2; omega
    have lt_A_Y : qb5 < qb11 := by rw [hq11.out]; exact A10.hi
    have ap_Y_ox : Apart (blkW (.agg #[.bool h4, .slice s4 t4 u4])) [qb11] := apart_one fun q hq => by rw [hq11.out]; have h1 := (ownsW.ltb ox10 q hq).2; omega
    have lt_X_Y : qb9 < qb11 := by rw [hq11.out]; exact X10.hi
    have ap_Y_oy : Apart (blkW (.agg #[.bool h5, .slice s5 t5 u5])) [qb11] := apart_one fun q hq => by rw [hq11.out]; have h1 := (ownsW.ltb oy10 q hq).2; omega
    clear B10 os10 S10 oa10 A10 ox10 X10 oy10 bb11
    have c_X_0 := X11.c 0 _ rfl
    have c_X_1 := X11.c 1 _ rfl
    rw [hw11.out] at c_X_0
    rw [hw11.out] at c_X_1
    replace sn11 : Hid (w11.heap.size = qb11 + 1) := sn11
    go_wp2_with fail
    replace sn11 := sn11.out
    rw [← hw11.out]
    (try rw [← hq11.out])
    (try rw [← sn11])
    clear c_X_0 c_X_1
    clear hw11 hq11 sn11
    refine (kF _ _ ox11.row).mono ?_
    rintro e w12 ⟨v, rfl, of, bb12⟩
    obtain ⟨h6, s6, t6, u6, rfl⟩ := of.cell
    have ap_S_of : Apart (blkW (.agg #[.bool h6, .slice s6 t6 u6])) [qb3] := apart_one fun q hq => by have h1 := (ownsW.ltb of q hq).1; have h2 := S11.hi; omega
    have ap_A_of : Apart (blkW (.agg #[.bool h6, .slice s6 t6 u6])) [qb5] := apart_one fun q hq => by have h1 := (ownsW.ltb of q hq).1; have h2 := A11.hi; omega
    have ap_X_of : Apart (blkW (.agg #[.bool h6, .slice s6 t6 u6])) [qb9] := apart_one fun q hq => by have h1 := (ownsW.ltb of q hq).1; have h2 := X11.hi; omega
    have ap_Y_of : Apart (blkW (.agg #[.bool h6, .slice s6 t6 u6])) [qb11] := apart_one fun q hq => by have h1 := (ownsW.ltb of q hq).1; have h2 := Y11.hi; omega
    have ap_of_os : Apart (blkW (.agg #[.bool h6, .slice s6 t6 u6])) (blkP (.agg #[.bool h1, .slice s1 t1 u1, .bool m1, .slice p1 q1 r1, .int .i64 k1])) := Apart.symm (apart_of (fun k hk => (ownsP.ltb os11 k hk).2) (fun k hk => (ownsW.ltb of k hk).1))
    have ap_oa_of : Apart (blkP (.agg #[.bool h2, .slice s2 t2 u2, .bool m2, .slice p2 q2 r2, .int .i64 k2])) (blkW (.agg #[.bool h6, .slice s6 t6 u6])) := apart_of (fun k hk => (ownsP.ltb oa11 k hk).2) (fun k hk => (ownsW.ltb of k hk).1)
    have ap_of_ox : Apart (blkW (.agg #[.bool h6, .slice s6 t6 u6])) (blkW (.agg #[.bool h4, .slice s4 t4 u4])) := Apart.symm (apart_of (fun k hk => (ownsW.ltb ox11 k hk).2) (fun k hk => (ownsW.ltb of k hk).1))
    have ap_of_oy : Apart (blkW (.agg #[.bool h6, .slice s6 t6 u6])) (blkW (.agg #[.bool h5, .slice s5 t5 u5])) := Apart.symm (apart_of (fun k hk => (ownsW.ltb oy11 k hk).2) (fun k hk => (ownsW.ltb of k hk).1))
    replace of := ownsW_mono of B11.size
    have B12 := B11.trans (bb12.mono B11.size)
    have os12 := ownsP.below os11 bb12 (Nat.le_refl _)
    have S12 := S11.below bb12 (Nat.le_refl _)
    have oa12 := ownsP.below oa11 bb12 (Nat.le_refl _)
    have A12 := A11.below bb12 (Nat.le_refl _)
    have ox12 := ownsW.below ox11 bb12 (Nat.le_refl _)
    have X12 := X11.below bb12 (Nat.le_refl _)
    have oy12 := ownsW.below oy11 bb12 (Nat.le_refl _)
    have Y12 := Y11.below bb12 (Nat.le_refl _)
    clear B11 os11 S11 oa11 A11 ox11 X11 oy11 Y11 bb12
    have of12 := of
    clear of
    clear kF
    obtain ⟨w13, hw13⟩ : ∃ v, Hid (v = w12.alloc (.cells #[.bool h6, .slice s6 t6 u6] 27)) := ⟨_, rfl⟩
    have bb13 : Below w12.heap.size w12 w13 := by rw [hw13.out]; exact below1 _ _
    obtain ⟨qb13, hq13⟩ : ∃ v, Hid (v = w12.heap.size) := ⟨_, rfl⟩
    have F13 : BoxL w13 w.heap.size qb13 [.bool h6, .slice s6 t6 u6] := by rw [hw13.out, hq13.out]; exact (BoxL.made w12 [.bool h6, .slice s6 t6 u6] 27).mono B12.size
    have sn13 : w13.heap.size = qb13 + 1 := by rw [hw13.out, hq13.out]; simp
    have B13 := B12.trans (bb13.mono B12.size)
    have os13 := ownsP.below os12 bb13 (Nat.le_refl _)
    have S13 := S12.below bb13 (Nat.le_refl _)
    have oa13 := ownsP.below oa12 bb13 (Nat.le_refl _)
    have A13 := A12.below bb13 (Nat.le_refl _)
    have ox13 := ownsW.below ox12 bb13 (Nat.le_refl _)
    have X13 := X12.below bb13 (Nat.le_refl _)
    have oy13 := ownsW.below oy12 bb13 (Nat.le_refl _)
    have Y13 := Y12.below bb13 (Nat.le_refl _)
    have of13 := ownsW.below of12 bb13 (Nat.le_refl _)
    have ap_F_os : Apart (blkP (.agg #[.bool h1, .slice s1 t1 u1, .bool m1, .slice p1 q1 r1, .int .i64 k1])) [qb13] := apart_one fun q hq => by rw [hq13.out]; have h1 := (ownsP.ltb os12 q hq).2; omega
    have lt_S_F : qb3 < qb13 := by rw [hq13.out]; exact S12.hi
    have ap_F_oa : Apart (blkP (.agg #[.bool h2, .slice s2 t2 u2, .bool m2, .slice p2 q2 r2, .int .i64 k2])) [qb13] := apart_one fun q hq => by rw [hq13.out]; have h1 := (ownsP.ltb oa12 q hq).2; omega
    have lt_A_F : qb5 < qb13 := by rw [hq13.out]; exact A12.hi
    have ap_F_ox : Apart (blkW (.agg #[.bool h4, .slice s4 t4 u4])) [qb13] := apart_one fun q hq => by rw [hq13.out]; have h1 := (ownsW.ltb ox12 q hq).2; omega
    have lt_X_F : qb9 < qb13 := by rw [hq13.out]; exact X12.hi
    have ap_F_oy : Apart (blkW (.agg #[.bool h5, .slice s5 t5 u5])) [qb13] := apart_one fun q hq => by rw [hq13.out]; have h1 := (ownsW.ltb oy12 q hq).2; omega
    have lt_Y_F : qb11 < qb13 := by rw [hq13.out]; exact Y12.hi
    have ap_F_of : Apart (blkW (.agg #[.bool h6, .slice s6 t6 u6])) [qb13] := apart_one fun q hq => by rw [hq13.out]; have h1 := (ownsW.ltb of12 q hq).2; omega
    clear B12 os12 S12 oa12 A12 ox12 X12 oy12 Y12 of12 bb13
    have c_X_0 := X13.c 0 _ rfl
    have c_X_1 := X13.c 1 _ rfl
    rw [hw13.out] at c_X_0
    rw [hw13.out] at c_X_1
    replace sn13 : Hid (w13.heap.size = qb13 + 1) := sn13
    go_wp2_with fail
    replace sn13 := sn13.out
    rw [← hw13.out]
    (try rw [← hq13.out])
    (try rw [← sn13])
    clear c_X_0 c_X_1
    clear hw13 hq13 sn13
    refine (kG _ _ _ of13.row ox13.row).mono ?_
    rintro e w14 ⟨v, rfl, og, bb14⟩
    obtain ⟨h7, s7, t7, u7, rfl⟩ := og.cell
    have ap_S_og : Apart (blkW (.agg #[.bool h7, .slice s7 t7 u7])) [qb3] := apart_one fun q hq => by have h1 := (ownsW.ltb og q hq).1; have h2 := S13.hi; omega
    have ap_A_og : Apart (blkW (.agg #[.bool h7, .slice s7 t7 u7])) [qb5] := apart_one fun q hq => by have h1 := (ownsW.ltb og q hq).1; have h2 := A13.hi; omega
    have ap_X_og : Apart (blkW (.agg #[.bool h7, .slice s7 t7 u7])) [qb9] := apart_one fun q hq => by have h1 := (ownsW.ltb og q hq).1; have h2 := X13.hi; omega
    have ap_Y_og : Apart (blkW (.agg #[.bool h7, .slice s7 t7 u7])) [qb11] := apart_one fun q hq => by have h1 := (ownsW.ltb og q hq).1; have h2 := Y13.hi; omega
    have ap_F_og : Apart (blkW (.agg #[.bool h7, .slice s7 t7 u7])) [qb13] := apart_one fun q hq => by have h1 := (ownsW.ltb og q hq).1; have h2 := F13.hi; omega
    have ap_og_os : Apart (blkW (.agg #[.bool h7, .slice s7 t7 u7])) (blkP (.agg #[.bool h1, .slice s1 t1 u1, .bool m1, .slice p1 q1 r1, .int .i64 k1])) := Apart.symm (apart_of (fun k hk => (ownsP.ltb os13 k hk).2) (fun k hk => (ownsW.ltb og k hk).1))
    have ap_oa_og : Apart (blkP (.agg #[.bool h2, .slice s2 t2 u2, .bool m2, .slice p2 q2 r2, .int .i64 k2])) (blkW (.agg #[.bool h7, .slice s7 t7 u7])) := apart_of (fun k hk => (ownsP.ltb oa13 k hk).2) (fun k hk => (ownsW.ltb og k hk).1)
    have ap_og_ox : Apart (blkW (.agg #[.bool h7, .slice s7 t7 u7])) (blkW (.agg #[.bool h4, .slice s4 t4 u4])) := Apart.symm (apart_of (fun k hk => (ownsW.ltb ox13 k hk).2) (fun k hk => (ownsW.ltb og k hk).1))
    have ap_og_oy : Apart (blkW (.agg #[.bool h7, .slice s7 t7 u7])) (blkW (.agg #[.bool h5, .slice s5 t5 u5])) := Apart.symm (apart_of (fun k hk => (ownsW.ltb oy13 k hk).2) (fun k hk => (ownsW.ltb og k hk).1))
    have ap_of_og : Apart (blkW (.agg #[.bool h6, .slice s6 t6 u6])) (blkW (.agg #[.bool h7, .slice s7 t7 u7])) := apart_of (fun k hk => (ownsW.ltb of13 k hk).2) (fun k hk => (ownsW.ltb og k hk).1)
    replace og := ownsW_mono og B13.size
    have B14 := B13.trans (bb14.mono B13.size)
    have os14 := ownsP.below os13 bb14 (Nat.le_refl _)
    have S14 := S13.below bb14 (Nat.le_refl _)
    have oa14 := ownsP.below oa13 bb14 (Nat.le_refl _)
    have A14 := A13.below bb14 (Nat.le_refl _)
    have ox14 := ownsW.below ox13 bb14 (Nat.le_refl _)
    have X14 := X13.below bb14 (Nat.le_refl _)
    have oy14 := ownsW.below oy13 bb14 (Nat.le_refl _)
    have Y14 := Y13.below bb14 (Nat.le_refl _)
    have of14 := ownsW.below of13 bb14 (Nat.le_refl _)
    have F14 := F13.below bb14 (Nat.le_refl _)
    clear B13 os13 S13 oa13 A13 ox13 X13 oy13 Y13 of13 F13 bb14
    have og14 := og
    clear og
    clear kG
    clear of14 F14
    have hnx : Hid (X.2.length = t4) := lenW ox14
    obtain ⟨⟨rb, ob2⟩, hb⟩ : ∃ q, stepR r k (-d) = q := ⟨_, rfl⟩
    have kI := fun v W (q : rowP W v r) => iSpinStep v r k (-d) W q lr.1 lr.2
    rw [hb] at kI
    dsimp only at kI
    have hz : (0 : Int) - d = -d := by omega
    have hwn : IntKind.i64.wrap (-d) = -d := by rw [IntKind.wrap_i64]; omega
    cases b5
    · skip
      obtain ⟨w15, hw15⟩ : ∃ v, Hid (v = w14.alloc (.cells #[.bool h7, .slice s7 t7 u7] 27)) := ⟨_, rfl⟩
      have bb15 : Below w14.heap.size w14 w15 := by rw [hw15.out]; exact below1 _ _
      obtain ⟨qb15, hq15⟩ : ∃ v, Hid (v = w14.heap.size) := ⟨_, rfl⟩
      have G15 : BoxL w15 w.heap.size qb15 [.bool h7, .slice s7 t7 u7] := by rw [hw15.out, hq15.out]; exact (BoxL.made w14 [.bool h7, .slice s7 t7 u7] 27).mono B14.size
      have sn15 : w15.heap.size = qb15 + 1 := by rw [hw15.out, hq15.out]; simp
      have B15 := B14.trans (bb15.mono B14.size)
      have os15 := ownsP.below os14 bb15 (Nat.le_refl _)
      have S15 := S14.below bb15 (Nat.le_refl _)
      have oa15 := ownsP.below oa14 bb15 (Nat.le_refl _)
      have A15 := A14.below bb15 (Nat.le_refl _)
      have ox15 := ownsW.below ox14 bb15 (Nat.le_refl _)
      have X15 := X14.below bb15 (Nat.le_refl _)
      have oy15 := ownsW.below oy14 bb15 (Nat.le_refl _)
      have Y15 := Y14.below bb15 (Nat.le_refl _)
      have og15 := ownsW.below og14 bb15 (Nat.le_refl _)
      have ap_G_os : Apart (blkP (.agg #[.bool h1, .slice s1 t1 u1, .bool m1, .slice p1 q1 r1, .int .i64 k1])) [qb15] := apart_one fun q hq => by rw [hq15.out]; have h1 := (ownsP.ltb os14 q hq).2; omega
      have lt_S_G : qb3 < qb15 := by rw [hq15.out]; exact S14.hi
      have ap_G_oa : Apart (blkP (.agg #[.bool h2, .slice s2 t2 u2, .bool m2, .slice p2 q2 r2, .int .i64 k2])) [qb15] := apart_one fun q hq => by rw [hq15.out]; have h1 := (ownsP.ltb oa14 q hq).2; omega
      have lt_A_G : qb5 < qb15 := by rw [hq15.out]; exact A14.hi
      have ap_G_ox : Apart (blkW (.agg #[.bool h4, .slice s4 t4 u4])) [qb15] := apart_one fun q hq => by rw [hq15.out]; have h1 := (ownsW.ltb ox14 q hq).2; omega
      have lt_X_G : qb9 < qb15 := by rw [hq15.out]; exact X14.hi
      have ap_G_oy : Apart (blkW (.agg #[.bool h5, .slice s5 t5 u5])) [qb15] := apart_one fun q hq => by rw [hq15.out]; have h1 := (ownsW.ltb oy14 q hq).2; omega
      have lt_Y_G : qb11 < qb15 := by rw [hq15.out]; exact Y14.hi
      have ap_G_og : Apart (blkW (.agg #[.bool h7, .slice s7 t7 u7])) [qb15] := apart_one fun q hq => by rw [hq15.out]; have h1 := (ownsW.ltb og14 q hq).2; omega
      clear B14 os14 S14 oa14 A14 ox14 X14 oy14 Y14 og14 bb15
      have c_A_0 := A15.c 0 _ rfl
      have c_A_1 := A15.c 1 _ rfl
      have c_A_2 := A15.c 2 _ rfl
      have c_A_3 := A15.c 3 _ rfl
      have c_A_4 := A15.c 4 _ rfl
      rw [hw15.out] at c_A_0
      rw [hw15.out] at c_A_1
      rw [hw15.out] at c_A_2
      rw [hw15.out] at c_A_3
      rw [hw15.out] at c_A_4
      replace sn15 : Hid (w15.heap.size = qb15 + 1) := sn15
      go_wp2_with fail
      replace sn15 := sn15.out
      rw [← hw15.out]
      (try rw [← hq15.out])
      (try rw [← sn15])
      clear c_A_0 c_A_1 c_A_2 c_A_3 c_A_4
      clear hw15 hq15 sn15
      clear G15 og15 oy15 Y15
      refine (kI _ _ oa15.row).mono ?_
      rintro e w16 ⟨v, rfl, oc, bb16⟩
      obtain ⟨h8, s8, t8, u8, m8, p8, q8, r8, eq8⟩ := oc.cell
      obtain ⟨k8, hk8⟩ : ∃ q, rb.2 = q := ⟨_, rfl⟩
      rw [hk8] at eq8
      subst eq8
      replace hk8 : Hid (rb.2 = k8) := hk8
      have ap_S_oc : Apart (blkP (.agg #[.bool h8, .slice s8 t8 u8, .bool m8, .slice p8 q8 r8, .int .i64 k8])) [qb3] := apart_one fun q hq => by have h1 := (ownsP.ltb oc q hq).1; have h2 := S15.hi; omega
      have ap_A_oc : Apart (blkP (.agg #[.bool h8, .slice s8 t8 u8, .bool m8, .slice p8 q8 r8, .int .i64 k8])) [qb5] := apart_one fun q hq => by have h1 := (ownsP.ltb oc q hq).1; have h2 := A15.hi; omega
      have ap_X_oc : Apart (blkP (.agg #[.bool h8, .slice s8 t8 u8, .bool m8, .slice p8 q8 r8, .int .i64 k8])) [qb9] := apart_one fun q hq => by have h1 := (ownsP.ltb oc q hq).1; have h2 := X15.hi; omega
      have ap_oc_os : Apart (blkP (.agg #[.bool h8, .slice s8 t8 u8, .bool m8, .slice p8 q8 r8, .int .i64 k8])) (blkP (.agg #[.bool h1, .slice s1 t1 u1, .bool m1, .slice p1 q1 r1, .int .i64 k1])) := Apart.symm (apart_of (fun k hk => (ownsP.ltb os15 k hk).2) (fun k hk => (ownsP.ltb oc k hk).1))
      have ap_oa_oc : Apart (blkP (.agg #[.bool h2, .slice s2 t2 u2, .bool m2, .slice p2 q2 r2, .int .i64 k2])) (blkP (.agg #[.bool h8, .slice s8 t8 u8, .bool m8, .slice p8 q8 r8, .int .i64 k8])) := apart_of (fun k hk => (ownsP.ltb oa15 k hk).2) (fun k hk => (ownsP.ltb oc k hk).1)
      have ap_oc_ox : Apart (blkP (.agg #[.bool h8, .slice s8 t8 u8, .bool m8, .slice p8 q8 r8, .int .i64 k8])) (blkW (.agg #[.bool h4, .slice s4 t4 u4])) := Apart.symm (apart_of (fun k hk => (ownsW.ltb ox15 k hk).2) (fun k hk => (ownsP.ltb oc k hk).1))
      replace oc := ownsP_mono oc B15.size
      have B16 := B15.trans (bb16.mono B15.size)
      have os16 := ownsP.below os15 bb16 (Nat.le_refl _)
      have S16 := S15.below bb16 (Nat.le_refl _)
      have oa16 := ownsP.below oa15 bb16 (Nat.le_refl _)
      have A16 := A15.below bb16 (Nat.le_refl _)
      have ox16 := ownsW.below ox15 bb16 (Nat.le_refl _)
      have X16 := X15.below bb16 (Nat.le_refl _)
      clear B15 os15 S15 oa15 A15 ox15 X15 bb16
      have oc16 := oc
      clear oc
      clear kI
      cases ob2
      · have d8 := True.intro
        go_wp2
        go_ret
        first | exact ⟨rfl, B16⟩ | exact ⟨rfl, B16.trans ((below1 _ _).mono B16.size)⟩
      · obtain ⟨k9, e9, hs2⟩ := step_yes hb
        obtain rfl : k = k9 := by omega
        clear e9
        obtain ⟨⟨f6, b6⟩, hw6x⟩ : ∃ q, wshiftR s.1.1 (2 * (k : Int)) = q := ⟨_, rfl⟩
        obtain ⟨⟨f7, b7⟩, hw7x⟩ : ∃ q, waddR f6 s.1.1 = q := ⟨_, rfl⟩
        have hx := spun_x hs hs2 hw6x hw7x
        have l6 : f6.2.length ≤ 1048576 := by have := wshiftR_len s.1.1 (2 * (k : Int)); rw [hw6x] at this; exact this
        have l7 : f7.2.length ≤ 1048576 := by have := waddR_len f6 s.1.1; rw [hw7x] at this; exact this
        have kF := fun v W (q : rowW W v s.1.1) => iWholeShift v s.1.1 (2 * (k : Int)) W q l1b
        have kG := fun u v W (q1 : rowW W u f6) (q2 : rowW W v s.1.1) => iWholeAdd u v f6 s.1.1 W q1 q2 l6 l1b
        rw [hw6x] at kF
        rw [hw7x] at kG
        dsimp only at kF kG
        have kC := fun u v W (q1 : rowP W u s) (q2 : rowP W v r) => iCross u v s r W q1 q2 l1b l2b lr.1 lr.2
        have kQ := fun u v W (q1 : rowW W u f7) (q2 : rowW W v rb.1.1) => sameWh u v f7 rb.1.1 W q1 q2 l7
        have e7 : decide (f7 = rb.1.1) = true := decide_eq_true hx
        rw [e7] at kQ
        obtain ⟨⟨gc, lc⟩, hcr⟩ : ∃ q, crossR s r = q := ⟨_, rfl⟩
        rw [hcr] at kC hsg
        dsimp only at hsg
        clear hw6x hw7x hx e7 hcr hs hs2 hb hr
        obtain ⟨w17, hw17⟩ : ∃ v, Hid (v = w16.alloc (.cells #[.bool h8, .slice s8 t8 u8, .bool m8, .slice p8 q8 r8, .int .i64 k8] 34)) := ⟨_, rfl⟩
        have bb17 : Below w16.heap.size w16 w17 := by rw [hw17.out]; exact below1 _ _
        obtain ⟨qb17, hq17⟩ : ∃ v, Hid (v = w16.heap.size) := ⟨_, rfl⟩
        have C17 : BoxL w17 w.heap.size qb17 [.bool h8, .slice s8 t8 u8, .bool m8, .slice p8 q8 r8, .int .i64 k8] := by rw [hw17.out, hq17.out]; exact (BoxL.made w16 [.bool h8, .slice s8 t8 u8, .bool m8, .slice p8 q8 r8, .int .i64 k8] 34).mono B16.size
        have sn17 : w17.heap.size = qb17 + 1 := by rw [hw17.out, hq17.out]; simp
        have B17 := B16.trans (bb17.mono B16.size)
        have os17 := ownsP.below os16 bb17 (Nat.le_refl _)
        have S17 := S16.below bb17 (Nat.le_refl _)
        have oa17 := ownsP.below oa16 bb17 (Nat.le_refl _)
        have A17 := A16.below bb17 (Nat.le_refl _)
        have ox17 := ownsW.below ox16 bb17 (Nat.le_refl _)
        have X17 := X16.below bb17 (Nat.le_refl _)
        have oc17 := ownsP.below oc16 bb17 (Nat.le_refl _)
        have ap_C_os : Apart (blkP (.agg #[.bool h1, .slice s1 t1 u1, .bool m1, .slice p1 q1 r1, .int .i64 k1])) [qb17] := apart_one fun q hq => by rw [hq17.out]; have h1 := (ownsP.ltb os16 q hq).2; omega
        have lt_S_C : qb3 < qb17 := by rw [hq17.out]; exact S16.hi
        have ap_C_oa : Apart (blkP (.agg #[.bool h2, .slice s2 t2 u2, .bool m2, .slice p2 q2 r2, .int .i64 k2])) [qb17] := apart_one fun q hq => by rw [hq17.out]; have h1 := (ownsP.ltb oa16 q hq).2; omega
        have lt_A_C : qb5 < qb17 := by rw [hq17.out]; exact A16.hi
        have ap_C_ox : Apart (blkW (.agg #[.bool h4, .slice s4 t4 u4])) [qb17] := apart_one fun q hq => by rw [hq17.out]; have h1 := (ownsW.ltb ox16 q hq).2; omega
        have lt_X_C : qb9 < qb17 := by rw [hq17.out]; exact X16.hi
        have ap_C_oc : Apart (blkP (.agg #[.bool h8, .slice s8 t8 u8, .bool m8, .slice p8 q8 r8, .int .i64 k8])) [qb17] := apart_one fun q hq => by rw [hq17.out]; have h1 := (ownsP.ltb oc16 q hq).2; omega
        clear B16 os16 S16 oa16 A16 ox16 X16 oc16 bb17
        have c_S_0 := S17.c 0 _ rfl
        have c_S_1 := S17.c 1 _ rfl
        have c_S_2 := S17.c 2 _ rfl
        have c_S_3 := S17.c 3 _ rfl
        have c_S_4 := S17.c 4 _ rfl
        rw [hw17.out] at c_S_0
        rw [hw17.out] at c_S_1
        rw [hw17.out] at c_S_2
        rw [hw17.out] at c_S_3
        rw [hw17.out] at c_S_4
        replace sn17 : Hid (w17.heap.size = qb17 + 1) := sn17
        go_wp2_with fail
        replace sn17 := sn17.out
        rw [← hw17.out]
        (try rw [← hq17.out])
        (try rw [← sn17])
        clear c_S_0 c_S_1 c_S_2 c_S_3 c_S_4
        clear hw17 hq17 sn17
        refine (kF _ _ os17.row.x).mono ?_
        rintro e w18 ⟨v, rfl, ou, bb18⟩
        obtain ⟨h9, s9, t9, u9, rfl⟩ := ou.cell
        have ap_S_ou : Apart (blkW (.agg #[.bool h9, .slice s9 t9 u9])) [qb3] := apart_one fun q hq => by have h1 := (ownsW.ltb ou q hq).1; have h2 := S17.hi; omega
        have ap_A_ou : Apart (blkW (.agg #[.bool h9, .slice s9 t9 u9])) [qb5] := apart_one fun q hq => by have h1 := (ownsW.ltb ou q hq).1; have h2 := A17.hi; omega
        have ap_X_ou : Apart (blkW (.agg #[.bool h9, .slice s9 t9 u9])) [qb9] := apart_one fun q hq => by have h1 := (ownsW.ltb ou q hq).1; have h2 := X17.hi; omega
        have ap_C_ou : Apart (blkW (.agg #[.bool h9, .slice s9 t9 u9])) [qb17] := apart_one fun q hq => by have h1 := (ownsW.ltb ou q hq).1; have h2 := C17.hi; omega
        have ap_os_ou : Apart (blkP (.agg #[.bool h1, .slice s1 t1 u1, .bool m1, .slice p1 q1 r1, .int .i64 k1])) (blkW (.agg #[.bool h9, .slice s9 t9 u9])) := apart_of (fun k hk => (ownsP.ltb os17 k hk).2) (fun k hk => (ownsW.ltb ou k hk).1)
        have ap_oa_ou : Apart (blkP (.agg #[.bool h2, .slice s2 t2 u2, .bool m2, .slice p2 q2 r2, .int .i64 k2])) (blkW (.agg #[.bool h9, .slice s9 t9 u9])) := apart_of (fun k hk => (ownsP.ltb oa17 k hk).2) (fun k hk => (ownsW.ltb ou k hk).1)
        have ap_ou_ox : Apart (blkW (.agg #[.bool h9, .slice s9 t9 u9])) (blkW (.agg #[.bool h4, .slice s4 t4 u4])) := Apart.symm (apart_of (fun k hk => (ownsW.ltb ox17 k hk).2) (fun k hk => (ownsW.ltb ou k hk).1))
        have ap_oc_ou : Apart (blkP (.agg #[.bool h8, .slice s8 t8 u8, .bool m8, .slice p8 q8 r8, .int .i64 k8])) (blkW (.agg #[.bool h9, .slice s9 t9 u9])) := apart_of (fun k hk => (ownsP.ltb oc17 k hk).2) (fun k hk => (ownsW.ltb ou k hk).1)
        replace ou := ownsW_mono ou B17.size
        have B18 := B17.trans (bb18.mono B17.size)
        have os18 := ownsP.below os17 bb18 (Nat.le_refl _)
        have S18 := S17.below bb18 (Nat.le_refl _)
        have oa18 := ownsP.below oa17 bb18 (Nat.le_refl _)
        have A18 := A17.below bb18 (Nat.le_refl _)
        have ox18 := ownsW.below ox17 bb18 (Nat.le_refl _)
        have X18 := X17.below bb18 (Nat.le_refl _)
        have oc18 := ownsP.below oc17 bb18 (Nat.le_refl _)
        have C18 := C17.below bb18 (Nat.le_refl _)
        clear B17 os17 S17 oa17 A17 ox17 X17 oc17 C17 bb18
        have ou18 := ou
        clear ou
        clear kF
        obtain ⟨w19, hw19⟩ : ∃ v, Hid (v = w18.alloc (.cells #[.bool h9, .slice s9 t9 u9] 27)) := ⟨_, rfl⟩
        have bb19 : Below w18.heap.size w18 w19 := by rw [hw19.out]; exact below1 _ _
        obtain ⟨qb19, hq19⟩ : ∃ v, Hid (v = w18.heap.size) := ⟨_, rfl⟩
        have U19 : BoxL w19 w.heap.size qb19 [.bool h9, .slice s9 t9 u9] := by rw [hw19.out, hq19.out]; exact (BoxL.made w18 [.bool h9, .slice s9 t9 u9] 27).mono B18.size
        have sn19 : w19.heap.size = qb19 + 1 := by rw [hw19.out, hq19.out]; simp
        have B19 := B18.trans (bb19.mono B18.size)
        have os19 := ownsP.below os18 bb19 (Nat.le_refl _)
        have S19 := S18.below bb19 (Nat.le_refl _)
        have oa19 := ownsP.below oa18 bb19 (Nat.le_refl _)
        have A19 := A18.below bb19 (Nat.le_refl _)
        have ox19 := ownsW.below ox18 bb19 (Nat.le_refl _)
        have X19 := X18.below bb19 (Nat.le_refl _)
        have oc19 := ownsP.below oc18 bb19 (Nat.le_refl _)
        have C19 := C18.below bb19 (Nat.le_refl _)
        have ou19 := ownsW.below ou18 bb19 (Nat.le_refl _)
        have ap_U_os : Apart (blkP (.agg #[.bool h1, .slice s1 t1 u1, .bool m1, .slice p1 q1 r1, .int .i64 k1])) [qb19] := apart_one fun q hq => by rw [hq19.out]; have h1 := (ownsP.ltb os18 q hq).2; omega
        have lt_S_U : qb3 < qb19 := by rw [hq19.out]; exact S18.hi
        have ap_U_oa : Apart (blkP (.agg #[.bool h2, .slice s2 t2 u2, .bool m2, .slice p2 q2 r2, .int .i64 k2])) [qb19] := apart_one fun q hq => by rw [hq19.out]; have h1 := (ownsP.ltb oa18 q hq).2; omega
        have lt_A_U : qb5 < qb19 := by rw [hq19.out]; exact A18.hi
        have ap_U_ox : Apart (blkW (.agg #[.bool h4, .slice s4 t4 u4])) [qb19] := apart_one fun q hq => by rw [hq19.out]; have h1 := (ownsW.ltb ox18 q hq).2; omega
        have lt_X_U : qb9 < qb19 := by rw [hq19.out]; exact X18.hi
        have ap_U_oc : Apart (blkP (.agg #[.bool h8, .slice s8 t8 u8, .bool m8, .slice p8 q8 r8, .int .i64 k8])) [qb19] := apart_one fun q hq => by rw [hq19.out]; have h1 := (ownsP.ltb oc18 q hq).2; omega
        have lt_C_U : qb17 < qb19 := by rw [hq19.out]; exact C18.hi
        have ap_U_ou : Apart (blkW (.agg #[.bool h9, .slice s9 t9 u9])) [qb19] := apart_one fun q hq => by rw [hq19.out]; have h1 := (ownsW.ltb ou18 q hq).2; omega
        clear B18 os18 S18 oa18 A18 ox18 X18 oc18 C18 ou18 bb19
        have c_S_0 := S19.c 0 _ rfl
        have c_S_1 := S19.c 1 _ rfl
        have c_S_2 := S19.c 2 _ rfl
        have c_S_3 := S19.c 3 _ rfl
        have c_S_4 := S19.c 4 _ rfl
        rw [hw19.out] at c_S_0
        rw [hw19.out] at c_S_1
        rw [hw19.out] at c_S_2
        rw [hw19.out] at c_S_3
        rw [hw19.out] at c_S_4
        replace sn19 : Hid (w19.heap.size = qb19 + 1) := sn19
        go_wp2_with fail
        replace sn19 := sn19.out
        rw [← hw19.out]
        (try rw [← hq19.out])
        (try rw [← sn19])
        clear c_S_0 c_S_1 c_S_2 c_S_3 c_S_4
        clear hw19 hq19 sn19
        refine (kG _ _ _ ou19.row os19.row.x).mono ?_
        rintro e w20 ⟨v, rfl, ov, bb20⟩
        obtain ⟨h10, s10, t10, u10, rfl⟩ := ov.cell
        have ap_S_ov : Apart (blkW (.agg #[.bool h10, .slice s10 t10 u10])) [qb3] := apart_one fun q hq => by have h1 := (ownsW.ltb ov q hq).1; have h2 := S19.hi; omega
        have ap_A_ov : Apart (blkW (.agg #[.bool h10, .slice s10 t10 u10])) [qb5] := apart_one fun q hq => by have h1 := (ownsW.ltb ov q hq).1; have h2 := A19.hi; omega
        have ap_X_ov : Apart (blkW (.agg #[.bool h10, .slice s10 t10 u10])) [qb9] := apart_one fun q hq => by have h1 := (ownsW.ltb ov q hq).1; have h2 := X19.hi; omega
        have ap_C_ov : Apart (blkW (.agg #[.bool h10, .slice s10 t10 u10])) [qb17] := apart_one fun q hq => by have h1 := (ownsW.ltb ov q hq).1; have h2 := C19.hi; omega
        have ap_U_ov : Apart (blkW (.agg #[.bool h10, .slice s10 t10 u10])) [qb19] := apart_one fun q hq => by have h1 := (ownsW.ltb ov q hq).1; have h2 := U19.hi; omega
        have ap_os_ov : Apart (blkP (.agg #[.bool h1, .slice s1 t1 u1, .bool m1, .slice p1 q1 r1, .int .i64 k1])) (blkW (.agg #[.bool h10, .slice s10 t10 u10])) := apart_of (fun k hk => (ownsP.ltb os19 k hk).2) (fun k hk => (ownsW.ltb ov k hk).1)
        have ap_oa_ov : Apart (blkP (.agg #[.bool h2, .slice s2 t2 u2, .bool m2, .slice p2 q2 r2, .int .i64 k2])) (blkW (.agg #[.bool h10, .slice s10 t10 u10])) := apart_of (fun k hk => (ownsP.ltb oa19 k hk).2) (fun k hk => (ownsW.ltb ov k hk).1)
        have ap_ov_ox : Apart (blkW (.agg #[.bool h10, .slice s10 t10 u10])) (blkW (.agg #[.bool h4, .slice s4 t4 u4])) := Apart.symm (apart_of (fun k hk => (ownsW.ltb ox19 k hk).2) (fun k hk => (ownsW.ltb ov k hk).1))
        have ap_oc_ov : Apart (blkP (.agg #[.bool h8, .slice s8 t8 u8, .bool m8, .slice p8 q8 r8, .int .i64 k8])) (blkW (.agg #[.bool h10, .slice s10 t10 u10])) := apart_of (fun k hk => (ownsP.ltb oc19 k hk).2) (fun k hk => (ownsW.ltb ov k hk).1)
        have ap_ou_ov : Apart (blkW (.agg #[.bool h9, .slice s9 t9 u9])) (blkW (.agg #[.bool h10, .slice s10 t10 u10])) := apart_of (fun k hk => (ownsW.ltb ou19 k hk).2) (fun k hk => (ownsW.ltb ov k hk).1)
        replace ov := ownsW_mono ov B19.size
        have B20 := B19.trans (bb20.mono B19.size)
        have os20 := ownsP.below os19 bb20 (Nat.le_refl _)
        have S20 := S19.below bb20 (Nat.le_refl _)
        have oa20 := ownsP.below oa19 bb20 (Nat.le_refl _)
        have A20 := A19.below bb20 (Nat.le_refl _)
        have ox20 := ownsW.below ox19 bb20 (Nat.le_refl _)
        have X20 := X19.below bb20 (Nat.le_refl _)
        have oc20 := ownsP.below oc19 bb20 (Nat.le_refl _)
        have C20 := C19.below bb20 (Nat.le_refl _)
        have ou20 := ownsW.below ou19 bb20 (Nat.le_refl _)
        have U20 := U19.below bb20 (Nat.le_refl _)
        clear B19 os19 S19 oa19 A19 ox19 X19 oc19 C19 ou19 U19 bb20
        have ov20 := ov
        clear ov
        clear kG
        clear ou20 U20
        obtain ⟨w21, hw21⟩ : ∃ v, Hid (v = w20.alloc (.cells #[.bool h10, .slice s10 t10 u10] 27)) := ⟨_, rfl⟩
        have bb21 : Below w20.heap.size w20 w21 := by rw [hw21.out]; exact below1 _ _
        obtain ⟨qb21, hq21⟩ : ∃ v, Hid (v = w20.heap.size) := ⟨_, rfl⟩
        have V21 : BoxL w21 w.heap.size qb21 [.bool h10, .slice s10 t10 u10] := by rw [hw21.out, hq21.out]; exact (BoxL.made w20 [.bool h10, .slice s10 t10 u10] 27).mono B20.size
        have sn21 : w21.heap.size = qb21 + 1 := by rw [hw21.out, hq21.out]; simp
        have B21 := B20.trans (bb21.mono B20.size)
        have os21 := ownsP.below os20 bb21 (Nat.le_refl _)
        have S21 := S20.below bb21 (Nat.le_refl _)
        have oa21 := ownsP.below oa20 bb21 (Nat.le_refl _)
        have A21 := A20.below bb21 (Nat.le_refl _)
        have ox21 := ownsW.below ox20 bb21 (Nat.le_refl _)
        have X21 := X20.below bb21 (Nat.le_refl _)
        have oc21 := ownsP.below oc20 bb21 (Nat.le_refl _)
        have C21 := C20.below bb21 (Nat.le_refl _)
        have ov21 := ownsW.below ov20 bb21 (Nat.le_refl _)
        have ap_V_os : Apart (blkP (.agg #[.bool h1, .slice s1 t1 u1, .bool m1, .slice p1 q1 r1, .int .i64 k1])) [qb21] := apart_one fun q hq => by rw [hq21.out]; have h1 := (ownsP.ltb os20 q hq).2; omega
        have lt_S_V : qb3 < qb21 := by rw [hq21.out]; exact S20.hi
        have ap_V_oa : Apart (blkP (.agg #[.bool h2, .slice s2 t2 u2, .bool m2, .slice p2 q2 r2, .int .i64 k2])) [qb21] := apart_one fun q hq => by rw [hq21.out]; have h1 := (ownsP.ltb oa20 q hq).2; omega
        have lt_A_V : qb5 < qb21 := by rw [hq21.out]; exact A20.hi
        have ap_V_ox : Apart (blkW (.agg #[.bool h4, .slice s4 t4 u4])) [qb21] := apart_one fun q hq => by rw [hq21.out]; have h1 := (ownsW.ltb ox20 q hq).2; omega
        have lt_X_V : qb9 < qb21 := by rw [hq21.out]; exact X20.hi
        have ap_V_oc : Apart (blkP (.agg #[.bool h8, .slice s8 t8 u8, .bool m8, .slice p8 q8 r8, .int .i64 k8])) [qb21] := apart_one fun q hq => by rw [hq21.out]; have h1 := (ownsP.ltb oc20 q hq).2; omega
        have lt_C_V : qb17 < qb21 := by rw [hq21.out]; exact C20.hi
        have ap_V_ov : Apart (blkW (.agg #[.bool h10, .slice s10 t10 u10])) [qb21] := apart_one fun q hq => by rw [hq21.out]; have h1 := (ownsW.ltb ov20 q hq).2; omega
        clear B20 os20 S20 oa20 A20 ox20 X20 oc20 C20 ov20 bb21
        have c_S_0 := S21.c 0 _ rfl
        have c_S_1 := S21.c 1 _ rfl
        have c_S_2 := S21.c 2 _ rfl
        have c_S_3 := S21.c 3 _ rfl
        have c_S_4 := S21.c 4 _ rfl
        have c_A_0 := A21.c 0 _ rfl
        have c_A_1 := A21.c 1 _ rfl
        have c_A_2 := A21.c 2 _ rfl
        have c_A_3 := A21.c 3 _ rfl
        have c_A_4 := A21.c 4 _ rfl
        rw [hw21.out] at c_S_0
        rw [hw21.out] at c_S_1
        rw [hw21.out] at c_S_2
        rw [hw21.out] at c_S_3
        rw [hw21.out] at c_S_4
        rw [hw21.out] at c_A_0
        rw [hw21.out] at c_A_1
        rw [hw21.out] at c_A_2
        rw [hw21.out] at c_A_3
        rw [hw21.out] at c_A_4
        replace sn21 : Hid (w21.heap.size = qb21 + 1) := sn21
        go_wp2_with fail
        replace sn21 := sn21.out
        rw [← hw21.out]
        (try rw [← hq21.out])
        (try rw [← sn21])
        clear c_S_0 c_S_1 c_S_2 c_S_3 c_S_4 c_A_0 c_A_1 c_A_2 c_A_3 c_A_4
        clear hw21 hq21 sn21
        refine (kC _ _ _ os21.row oa21.row).mono ?_
        rintro e w22 ⟨v, rfl, oz, bb22⟩
        obtain ⟨h11, s11, t11, u11, e11, e12⟩ := oz.row.cell
        have e13 : h11 = gc := e12
        rw [e13] at e11
        subst e11
        clear e12 e13
        have ap_S_oz : Apart (blkW (.agg #[.bool gc, .slice s11 t11 u11])) [qb3] := apart_one fun q hq => by have h1 := (ownsW.ltb oz q hq).1; have h2 := S21.hi; omega
        have ap_A_oz : Apart (blkW (.agg #[.bool gc, .slice s11 t11 u11])) [qb5] := apart_one fun q hq => by have h1 := (ownsW.ltb oz q hq).1; have h2 := A21.hi; omega
        have ap_X_oz : Apart (blkW (.agg #[.bool gc, .slice s11 t11 u11])) [qb9] := apart_one fun q hq => by have h1 := (ownsW.ltb oz q hq).1; have h2 := X21.hi; omega
        have ap_C_oz : Apart (blkW (.agg #[.bool gc, .slice s11 t11 u11])) [qb17] := apart_one fun q hq => by have h1 := (ownsW.ltb oz q hq).1; have h2 := C21.hi; omega
        have ap_V_oz : Apart (blkW (.agg #[.bool gc, .slice s11 t11 u11])) [qb21] := apart_one fun q hq => by have h1 := (ownsW.ltb oz q hq).1; have h2 := V21.hi; omega
        have ap_os_oz : Apart (blkP (.agg #[.bool h1, .slice s1 t1 u1, .bool m1, .slice p1 q1 r1, .int .i64 k1])) (blkW (.agg #[.bool gc, .slice s11 t11 u11])) := apart_of (fun k hk => (ownsP.ltb os21 k hk).2) (fun k hk => (ownsW.ltb oz k hk).1)
        have ap_oa_oz : Apart (blkP (.agg #[.bool h2, .slice s2 t2 u2, .bool m2, .slice p2 q2 r2, .int .i64 k2])) (blkW (.agg #[.bool gc, .slice s11 t11 u11])) := apart_of (fun k hk => (ownsP.ltb oa21 k hk).2) (fun k hk => (ownsW.ltb oz k hk).1)
        have ap_ox_oz : Apart (blkW (.agg #[.bool h4, .slice s4 t4 u4])) (blkW (.agg #[.bool gc, .slice s11 t11 u11])) := apart_of (fun k hk => (ownsW.ltb ox21 k hk).2) (fun k hk => (ownsW.ltb oz k hk).1)
        have ap_oc_oz : Apart (blkP (.agg #[.bool h8, .slice s8 t8 u8, .bool m8, .slice p8 q8 r8, .int .i64 k8])) (blkW (.agg #[.bool gc, .slice s11 t11 u11])) := apart_of (fun k hk => (ownsP.ltb oc21 k hk).2) (fun k hk => (ownsW.ltb oz k hk).1)
        have ap_ov_oz : Apart (blkW (.agg #[.bool h10, .slice s10 t10 u10])) (blkW (.agg #[.bool gc, .slice s11 t11 u11])) := apart_of (fun k hk => (ownsW.ltb ov21 k hk).2) (fun k hk => (ownsW.ltb oz k hk).1)
        replace oz := ownsW_mono oz B21.size
        have B22 := B21.trans (bb22.mono B21.size)
        have os22 := ownsP.below os21 bb22 (Nat.le_refl _)
        have S22 := S21.below bb22 (Nat.le_refl _)
        have oa22 := ownsP.below oa21 bb22 (Nat.le_refl _)
        have A22 := A21.below bb22 (Nat.le_refl _)
        have ox22 := ownsW.below ox21 bb22 (Nat.le_refl _)
        have X22 := X21.below bb22 (Nat.le_refl _)
        have oc22 := ownsP.below oc21 bb22 (Nat.le_refl _)
        have C22 := C21.below bb22 (Nat.le_refl _)
        have ov22 := ownsW.below ov21 bb22 (Nat.le_refl _)
        have V22 := V21.below bb22 (Nat.le_refl _)
        clear B21 os21 S21 oa21 A21 ox21 X21 oc21 C21 ov21 V21 bb22
        have oz22 := oz
        clear oz
        clear kC
        clear os22 oa22 S22 A22
        obtain ⟨w23, hw23⟩ : ∃ v, Hid (v = w22.alloc (.cells #[.bool gc, .slice s11 t11 u11] 27)) := ⟨_, rfl⟩
        have bb23 : Below w22.heap.size w22 w23 := by rw [hw23.out]; exact below1 _ _
        obtain ⟨qb23, hq23⟩ : ∃ v, Hid (v = w22.heap.size) := ⟨_, rfl⟩
        have Z23 : BoxL w23 w.heap.size qb23 [.bool gc, .slice s11 t11 u11] := by rw [hw23.out, hq23.out]; exact (BoxL.made w22 [.bool gc, .slice s11 t11 u11] 27).mono B22.size
        have sn23 : w23.heap.size = qb23 + 1 := by rw [hw23.out, hq23.out]; simp
        have B23 := B22.trans (bb23.mono B22.size)
        have ox23 := ownsW.below ox22 bb23 (Nat.le_refl _)
        have X23 := X22.below bb23 (Nat.le_refl _)
        have oc23 := ownsP.below oc22 bb23 (Nat.le_refl _)
        have C23 := C22.below bb23 (Nat.le_refl _)
        have ov23 := ownsW.below ov22 bb23 (Nat.le_refl _)
        have V23 := V22.below bb23 (Nat.le_refl _)
        have oz23 := ownsW.below oz22 bb23 (Nat.le_refl _)
        have ap_Z_ox : Apart (blkW (.agg #[.bool h4, .slice s4 t4 u4])) [qb23] := apart_one fun q hq => by rw [hq23.out]; have h1 := (ownsW.ltb ox22 q hq).2; omega
        have lt_X_Z : qb9 < qb23 := by rw [hq23.out]; exact X22.hi
        have ap_Z_oc : Apart (blkP (.agg #[.bool h8, .slice s8 t8 u8, .bool m8, .slice p8 q8 r8, .int .i64 k8])) [qb23] := apart_one fun q hq => by rw [hq23.out]; have h1 := (ownsP.ltb oc22 q hq).2; omega
        have lt_C_Z : qb17 < qb23 := by rw [hq23.out]; exact C22.hi
        have ap_Z_ov : Apart (blkW (.agg #[.bool h10, .slice s10 t10 u10])) [qb23] := apart_one fun q hq => by rw [hq23.out]; have h1 := (ownsW.ltb ov22 q hq).2; omega
        have lt_V_Z : qb21 < qb23 := by rw [hq23.out]; exact V22.hi
        have ap_Z_oz : Apart (blkW (.agg #[.bool gc, .slice s11 t11 u11])) [qb23] := apart_one fun q hq => by rw [hq23.out]; have h1 := (ownsW.ltb oz22 q hq).2; omega
        clear B22 ox22 X22 oc22 C22 ov22 V22 oz22 bb23
        have c_V_0 := V23.c 0 _ rfl
        have c_V_1 := V23.c 1 _ rfl
        have c_C_0 := C23.c 0 _ rfl
        have c_C_1 := C23.c 1 _ rfl
        have c_C_2 := C23.c 2 _ rfl
        have c_C_3 := C23.c 3 _ rfl
        have c_C_4 := C23.c 4 _ rfl
        rw [hw23.out] at c_V_0
        rw [hw23.out] at c_V_1
        rw [hw23.out] at c_C_0
        rw [hw23.out] at c_C_1
        rw [hw23.out] at c_C_2
        rw [hw23.out] at c_C_3
        rw [hw23.out] at c_C_4
        replace sn23 : Hid (w23.heap.size = qb23 + 1) := sn23
        go_wp2_with fail
        replace sn23 := sn23.out
        rw [← hw23.out]
        (try rw [← hq23.out])
        (try rw [← sn23])
        clear c_V_0 c_V_1 c_C_0 c_C_1 c_C_2 c_C_3 c_C_4
        clear hw23 hq23 sn23
        refine (kQ _ _ _ ov23.row oc23.row.x).mono ?_
        rintro e w24 ⟨rfl, bb24⟩
        have B24 := B23.trans (bb24.mono B23.size)
        have ox24 := ownsW.below ox23 bb24 (Nat.le_refl _)
        have X24 := X23.below bb24 (Nat.le_refl _)
        have oc24 := ownsP.below oc23 bb24 (Nat.le_refl _)
        have C24 := C23.below bb24 (Nat.le_refl _)
        have ov24 := ownsW.below ov23 bb24 (Nat.le_refl _)
        have V24 := V23.below bb24 (Nat.le_refl _)
        have oz24 := ownsW.below oz23 bb24 (Nat.le_refl _)
        have Z24 := Z23.below bb24 (Nat.le_refl _)
        clear B23 ox23 X23 oc23 C23 ov23 V23 oz23 Z23 bb24
        clear kQ
        clear ov24 oc24 V24 C24 oz24
        by_cases h0 : t4 = 0
        · subst h0
          rcases hd with rfl | rfl
          · skip
            cases gc
            · skip
              have c_X_0 := X24.c 0 _ rfl
              have c_X_1 := X24.c 1 _ rfl
              have c_Z_0 := Z24.c 0 _ rfl
              have c_Z_1 := Z24.c 1 _ rfl
              go_wp2
              go_ret
              first | exact ⟨rfl, B24⟩ | exact ⟨rfl, B24.trans ((below1 _ _).mono B24.size)⟩
            · skip
              have c_X_0 := X24.c 0 _ rfl
              have c_X_1 := X24.c 1 _ rfl
              have c_Z_0 := Z24.c 0 _ rfl
              have c_Z_1 := Z24.c 1 _ rfl
              go_wp2
              go_ret
              first | exact ⟨rfl, B24⟩ | exact ⟨rfl, B24.trans ((below1 _ _).mono B24.size)⟩
          · skip
            cases gc
            · skip
              have c_X_0 := X24.c 0 _ rfl
              have c_X_1 := X24.c 1 _ rfl
              have c_Z_0 := Z24.c 0 _ rfl
              have c_Z_1 := Z24.c 1 _ rfl
              go_wp2
              go_ret
              first | exact ⟨rfl, B24⟩ | exact ⟨rfl, B24.trans ((below1 _ _).mono B24.size)⟩
            · skip
              have c_X_0 := X24.c 0 _ rfl
              have c_X_1 := X24.c 1 _ rfl
              have c_Z_0 := Z24.c 0 _ rfl
              have c_Z_1 := Z24.c 1 _ rfl
              go_wp2
              go_ret
              first | exact ⟨rfl, B24⟩ | exact ⟨rfl, B24.trans ((below1 _ _).mono B24.size)⟩
        · have hsg2 := hsg (by rw [hnx.out]; exact h0)
          subst hsg2
          rcases hd with rfl | rfl
          · skip
            have c_X_0 := X24.c 0 _ rfl
            have c_X_1 := X24.c 1 _ rfl
            have c_Z_0 := Z24.c 0 _ rfl
            have c_Z_1 := Z24.c 1 _ rfl
            go_wp2
            go_ret
            first | exact ⟨rfl, B24⟩ | exact ⟨rfl, B24.trans ((below1 _ _).mono B24.size)⟩
          · skip
            have c_X_0 := X24.c 0 _ rfl
            have c_X_1 := X24.c 1 _ rfl
            have c_Z_0 := Z24.c 0 _ rfl
            have c_Z_1 := Z24.c 1 _ rfl
            go_wp2
            go_ret
            first | exact ⟨rfl, B24⟩ | exact ⟨rfl, B24.trans ((below1 _ _).mono B24.size)⟩
    · skip
      by_cases h40 : (t4 : Int) ≤ 40
      · skip
        have es : decide (f5 = Y) = true := decide_eq_true (hsum _ _ _ hw4x hw5x (by rw [hnx.out]; omega))
        have kQ := fun u v W (q1 : rowW W u f5) (q2 : rowW W v Y) => sameWh u v f5 Y W q1 q2 l5
        rw [es] at kQ
        obtain ⟨w15, hw15⟩ : ∃ v, Hid (v = w14.alloc (.cells #[.bool h7, .slice s7 t7 u7] 27)) := ⟨_, rfl⟩
        have bb15 : Below w14.heap.size w14 w15 := by rw [hw15.out]; exact below1 _ _
        obtain ⟨qb15, hq15⟩ : ∃ v, Hid (v = w14.heap.size) := ⟨_, rfl⟩
        have G15 : BoxL w15 w.heap.size qb15 [.bool h7, .slice s7 t7 u7] := by rw [hw15.out, hq15.out]; exact (BoxL.made w14 [.bool h7, .slice s7 t7 u7] 27).mono B14.size
        have sn15 : w15.heap.size = qb15 + 1 := by rw [hw15.out, hq15.out]; simp
        have B15 := B14.trans (bb15.mono B14.size)
        have os15 := ownsP.below os14 bb15 (Nat.le_refl _)
        have S15 := S14.below bb15 (Nat.le_refl _)
        have oa15 := ownsP.below oa14 bb15 (Nat.le_refl _)
        have A15 := A14.below bb15 (Nat.le_refl _)
        have ox15 := ownsW.below ox14 bb15 (Nat.le_refl _)
        have X15 := X14.below bb15 (Nat.le_refl _)
        have oy15 := ownsW.below oy14 bb15 (Nat.le_refl _)
        have Y15 := Y14.below bb15 (Nat.le_refl _)
        have og15 := ownsW.below og14 bb15 (Nat.le_refl _)
        have ap_G_os : Apart (blkP (.agg #[.bool h1, .slice s1 t1 u1, .bool m1, .slice p1 q1 r1, .int .i64 k1])) [qb15] := apart_one fun q hq => by rw [hq15.out]; have h1 := (ownsP.ltb os14 q hq).2; omega
        have lt_S_G : qb3 < qb15 := by rw [hq15.out]; exact S14.hi
        have ap_G_oa : Apart (blkP (.agg #[.bool h2, .slice s2 t2 u2, .bool m2, .slice p2 q2 r2, .int .i64 k2])) [qb15] := apart_one fun q hq => by rw [hq15.out]; have h1 := (ownsP.ltb oa14 q hq).2; omega
        have lt_A_G : qb5 < qb15 := by rw [hq15.out]; exact A14.hi
        have ap_G_ox : Apart (blkW (.agg #[.bool h4, .slice s4 t4 u4])) [qb15] := apart_one fun q hq => by rw [hq15.out]; have h1 := (ownsW.ltb ox14 q hq).2; omega
        have lt_X_G : qb9 < qb15 := by rw [hq15.out]; exact X14.hi
        have ap_G_oy : Apart (blkW (.agg #[.bool h5, .slice s5 t5 u5])) [qb15] := apart_one fun q hq => by rw [hq15.out]; have h1 := (ownsW.ltb oy14 q hq).2; omega
        have lt_Y_G : qb11 < qb15 := by rw [hq15.out]; exact Y14.hi
        have ap_G_og : Apart (blkW (.agg #[.bool h7, .slice s7 t7 u7])) [qb15] := apart_one fun q hq => by rw [hq15.out]; have h1 := (ownsW.ltb og14 q hq).2; omega
        clear B14 os14 S14 oa14 A14 ox14 X14 oy14 Y14 og14 bb15
        have c_X_0 := X15.c 0 _ rfl
        have c_X_1 := X15.c 1 _ rfl
        have c_Y_0 := Y15.c 0 _ rfl
        have c_Y_1 := Y15.c 1 _ rfl
        rw [hw15.out] at c_X_0
        rw [hw15.out] at c_X_1
        rw [hw15.out] at c_Y_0
        rw [hw15.out] at c_Y_1
        replace sn15 : Hid (w15.heap.size = qb15 + 1) := sn15
        go_wp2_with fail
        replace sn15 := sn15.out
        rw [← hw15.out]
        (try rw [← hq15.out])
        (try rw [← sn15])
        clear c_X_0 c_X_1 c_Y_0 c_Y_1
        clear hw15 hq15 sn15
        refine (kQ _ _ _ og15.row oy15.row).mono ?_
        rintro e w16 ⟨rfl, bb16⟩
        have B16 := B15.trans (bb16.mono B15.size)
        have os16 := ownsP.below os15 bb16 (Nat.le_refl _)
        have S16 := S15.below bb16 (Nat.le_refl _)
        have oa16 := ownsP.below oa15 bb16 (Nat.le_refl _)
        have A16 := A15.below bb16 (Nat.le_refl _)
        have ox16 := ownsW.below ox15 bb16 (Nat.le_refl _)
        have X16 := X15.below bb16 (Nat.le_refl _)
        have oy16 := ownsW.below oy15 bb16 (Nat.le_refl _)
        have Y16 := Y15.below bb16 (Nat.le_refl _)
        have og16 := ownsW.below og15 bb16 (Nat.le_refl _)
        have G16 := G15.below bb16 (Nat.le_refl _)
        clear B15 os15 S15 oa15 A15 ox15 X15 oy15 Y15 og15 G15 bb16
        clear kQ
        clear G16 og16 oy16 Y16
        have c_A_0 := A16.c 0 _ rfl
        have c_A_1 := A16.c 1 _ rfl
        have c_A_2 := A16.c 2 _ rfl
        have c_A_3 := A16.c 3 _ rfl
        have c_A_4 := A16.c 4 _ rfl
        go_wp2_with fail
        refine (kI _ _ oa16.row).mono ?_
        rintro e w17 ⟨v, rfl, oc, bb17⟩
        clear c_A_0 c_A_1 c_A_2 c_A_3 c_A_4
        obtain ⟨h8, s8, t8, u8, m8, p8, q8, r8, eq8⟩ := oc.cell
        obtain ⟨k8, hk8⟩ : ∃ q, rb.2 = q := ⟨_, rfl⟩
        rw [hk8] at eq8
        subst eq8
        replace hk8 : Hid (rb.2 = k8) := hk8
        have ap_S_oc : Apart (blkP (.agg #[.bool h8, .slice s8 t8 u8, .bool m8, .slice p8 q8 r8, .int .i64 k8])) [qb3] := apart_one fun q hq => by have h1 := (ownsP.ltb oc q hq).1; have h2 := S16.hi; omega
        have ap_A_oc : Apart (blkP (.agg #[.bool h8, .slice s8 t8 u8, .bool m8, .slice p8 q8 r8, .int .i64 k8])) [qb5] := apart_one fun q hq => by have h1 := (ownsP.ltb oc q hq).1; have h2 := A16.hi; omega
        have ap_X_oc : Apart (blkP (.agg #[.bool h8, .slice s8 t8 u8, .bool m8, .slice p8 q8 r8, .int .i64 k8])) [qb9] := apart_one fun q hq => by have h1 := (ownsP.ltb oc q hq).1; have h2 := X16.hi; omega
        have ap_oc_os : Apart (blkP (.agg #[.bool h8, .slice s8 t8 u8, .bool m8, .slice p8 q8 r8, .int .i64 k8])) (blkP (.agg #[.bool h1, .slice s1 t1 u1, .bool m1, .slice p1 q1 r1, .int .i64 k1])) := Apart.symm (apart_of (fun k hk => (ownsP.ltb os16 k hk).2) (fun k hk => (ownsP.ltb oc k hk).1))
        have ap_oa_oc : Apart (blkP (.agg #[.bool h2, .slice s2 t2 u2, .bool m2, .slice p2 q2 r2, .int .i64 k2])) (blkP (.agg #[.bool h8, .slice s8 t8 u8, .bool m8, .slice p8 q8 r8, .int .i64 k8])) := apart_of (fun k hk => (ownsP.ltb oa16 k hk).2) (fun k hk => (ownsP.ltb oc k hk).1)
        have ap_oc_ox : Apart (blkP (.agg #[.bool h8, .slice s8 t8 u8, .bool m8, .slice p8 q8 r8, .int .i64 k8])) (blkW (.agg #[.bool h4, .slice s4 t4 u4])) := Apart.symm (apart_of (fun k hk => (ownsW.ltb ox16 k hk).2) (fun k hk => (ownsP.ltb oc k hk).1))
        replace oc := ownsP_mono oc B16.size
        have B17 := B16.trans (bb17.mono B16.size)
        have os17 := ownsP.below os16 bb17 (Nat.le_refl _)
        have S17 := S16.below bb17 (Nat.le_refl _)
        have oa17 := ownsP.below oa16 bb17 (Nat.le_refl _)
        have A17 := A16.below bb17 (Nat.le_refl _)
        have ox17 := ownsW.below ox16 bb17 (Nat.le_refl _)
        have X17 := X16.below bb17 (Nat.le_refl _)
        clear B16 os16 S16 oa16 A16 ox16 X16 bb17
        have oc17 := oc
        clear oc
        clear kI
        cases ob2
        · have d8 := True.intro
          go_wp2
          go_ret
          first | exact ⟨rfl, B17⟩ | exact ⟨rfl, B17.trans ((below1 _ _).mono B17.size)⟩
        · obtain ⟨k9, e9, hs2⟩ := step_yes hb
          obtain rfl : k = k9 := by omega
          clear e9
          obtain ⟨⟨f6, b6⟩, hw6x⟩ : ∃ q, wshiftR s.1.1 (2 * (k : Int)) = q := ⟨_, rfl⟩
          obtain ⟨⟨f7, b7⟩, hw7x⟩ : ∃ q, waddR f6 s.1.1 = q := ⟨_, rfl⟩
          have hx := spun_x hs hs2 hw6x hw7x
          have l6 : f6.2.length ≤ 1048576 := by have := wshiftR_len s.1.1 (2 * (k : Int)); rw [hw6x] at this; exact this
          have l7 : f7.2.length ≤ 1048576 := by have := waddR_len f6 s.1.1; rw [hw7x] at this; exact this
          have kF := fun v W (q : rowW W v s.1.1) => iWholeShift v s.1.1 (2 * (k : Int)) W q l1b
          have kG := fun u v W (q1 : rowW W u f6) (q2 : rowW W v s.1.1) => iWholeAdd u v f6 s.1.1 W q1 q2 l6 l1b
          rw [hw6x] at kF
          rw [hw7x] at kG
          dsimp only at kF kG
          have kC := fun u v W (q1 : rowP W u s) (q2 : rowP W v r) => iCross u v s r W q1 q2 l1b l2b lr.1 lr.2
          have kQ := fun u v W (q1 : rowW W u f7) (q2 : rowW W v rb.1.1) => sameWh u v f7 rb.1.1 W q1 q2 l7
          have e7 : decide (f7 = rb.1.1) = true := decide_eq_true hx
          rw [e7] at kQ
          obtain ⟨⟨gc, lc⟩, hcr⟩ : ∃ q, crossR s r = q := ⟨_, rfl⟩
          rw [hcr] at kC hsg
          dsimp only at hsg
          clear hw6x hw7x hx e7 hcr hs hs2 hb hr
          obtain ⟨w18, hw18⟩ : ∃ v, Hid (v = w17.alloc (.cells #[.bool h8, .slice s8 t8 u8, .bool m8, .slice p8 q8 r8, .int .i64 k8] 34)) := ⟨_, rfl⟩
          have bb18 : Below w17.heap.size w17 w18 := by rw [hw18.out]; exact below1 _ _
          obtain ⟨qb18, hq18⟩ : ∃ v, Hid (v = w17.heap.size) := ⟨_, rfl⟩
          have C18 : BoxL w18 w.heap.size qb18 [.bool h8, .slice s8 t8 u8, .bool m8, .slice p8 q8 r8, .int .i64 k8] := by rw [hw18.out, hq18.out]; exact (BoxL.made w17 [.bool h8, .slice s8 t8 u8, .bool m8, .slice p8 q8 r8, .int .i64 k8] 34).mono B17.size
          have sn18 : w18.heap.size = qb18 + 1 := by rw [hw18.out, hq18.out]; simp
          have B18 := B17.trans (bb18.mono B17.size)
          have os18 := ownsP.below os17 bb18 (Nat.le_refl _)
          have S18 := S17.below bb18 (Nat.le_refl _)
          have oa18 := ownsP.below oa17 bb18 (Nat.le_refl _)
          have A18 := A17.below bb18 (Nat.le_refl _)
          have ox18 := ownsW.below ox17 bb18 (Nat.le_refl _)
          have X18 := X17.below bb18 (Nat.le_refl _)
          have oc18 := ownsP.below oc17 bb18 (Nat.le_refl _)
          have ap_C_os : Apart (blkP (.agg #[.bool h1, .slice s1 t1 u1, .bool m1, .slice p1 q1 r1, .int .i64 k1])) [qb18] := apart_one fun q hq => by rw [hq18.out]; have h1 := (ownsP.ltb os17 q hq).2; omega
          have lt_S_C : qb3 < qb18 := by rw [hq18.out]; exact S17.hi
          have ap_C_oa : Apart (blkP (.agg #[.bool h2, .slice s2 t2 u2, .bool m2, .slice p2 q2 r2, .int .i64 k2])) [qb18] := apart_one fun q hq => by rw [hq18.out]; have h1 := (ownsP.ltb oa17 q hq).2; omega
          have lt_A_C : qb5 < qb18 := by rw [hq18.out]; exact A17.hi
          have ap_C_ox : Apart (blkW (.agg #[.bool h4, .slice s4 t4 u4])) [qb18] := apart_one fun q hq => by rw [hq18.out]; have h1 := (ownsW.ltb ox17 q hq).2; omega
          have lt_X_C : qb9 < qb18 := by rw [hq18.out]; exact X17.hi
          have ap_C_oc : Apart (blkP (.agg #[.bool h8, .slice s8 t8 u8, .bool m8, .slice p8 q8 r8, .int .i64 k8])) [qb18] := apart_one fun q hq => by rw [hq18.out]; have h1 := (ownsP.ltb oc17 q hq).2; omega
          clear B17 os17 S17 oa17 A17 ox17 X17 oc17 bb18
          have c_S_0 := S18.c 0 _ rfl
          have c_S_1 := S18.c 1 _ rfl
          have c_S_2 := S18.c 2 _ rfl
          have c_S_3 := S18.c 3 _ rfl
          have c_S_4 := S18.c 4 _ rfl
          rw [hw18.out] at c_S_0
          rw [hw18.out] at c_S_1
          rw [hw18.out] at c_S_2
          rw [hw18.out] at c_S_3
          rw [hw18.out] at c_S_4
          replace sn18 : Hid (w18.heap.size = qb18 + 1) := sn18
          go_wp2_with fail
          replace sn18 := sn18.out
          rw [← hw18.out]
          (try rw [← hq18.out])
          (try rw [← sn18])
          clear c_S_0 c_S_1 c_S_2 c_S_3 c_S_4
          clear hw18 hq18 sn18
          refine (kF _ _ os18.row.x).mono ?_
          rintro e w19 ⟨v, rfl, ou, bb19⟩
          obtain ⟨h9, s9, t9, u9, rfl⟩ := ou.cell
          have ap_S_ou : Apart (blkW (.agg #[.bool h9, .slice s9 t9 u9])) [qb3] := apart_one fun q hq => by have h1 := (ownsW.ltb ou q hq).1; have h2 := S18.hi; omega
          have ap_A_ou : Apart (blkW (.agg #[.bool h9, .slice s9 t9 u9])) [qb5] := apart_one fun q hq => by have h1 := (ownsW.ltb ou q hq).1; have h2 := A18.hi; omega
          have ap_X_ou : Apart (blkW (.agg #[.bool h9, .slice s9 t9 u9])) [qb9] := apart_one fun q hq => by have h1 := (ownsW.ltb ou q hq).1; have h2 := X18.hi; omega
          have ap_C_ou : Apart (blkW (.agg #[.bool h9, .slice s9 t9 u9])) [qb18] := apart_one fun q hq => by have h1 := (ownsW.ltb ou q hq).1; have h2 := C18.hi; omega
          have ap_os_ou : Apart (blkP (.agg #[.bool h1, .slice s1 t1 u1, .bool m1, .slice p1 q1 r1, .int .i64 k1])) (blkW (.agg #[.bool h9, .slice s9 t9 u9])) := apart_of (fun k hk => (ownsP.ltb os18 k hk).2) (fun k hk => (ownsW.ltb ou k hk).1)
          have ap_oa_ou : Apart (blkP (.agg #[.bool h2, .slice s2 t2 u2, .bool m2, .slice p2 q2 r2, .int .i64 k2])) (blkW (.agg #[.bool h9, .slice s9 t9 u9])) := apart_of (fun k hk => (ownsP.ltb oa18 k hk).2) (fun k hk => (ownsW.ltb ou k hk).1)
          have ap_ou_ox : Apart (blkW (.agg #[.bool h9, .slice s9 t9 u9])) (blkW (.agg #[.bool h4, .slice s4 t4 u4])) := Apart.symm (apart_of (fun k hk => (ownsW.ltb ox18 k hk).2) (fun k hk => (ownsW.ltb ou k hk).1))
          have ap_oc_ou : Apart (blkP (.agg #[.bool h8, .slice s8 t8 u8, .bool m8, .slice p8 q8 r8, .int .i64 k8])) (blkW (.agg #[.bool h9, .slice s9 t9 u9])) := apart_of (fun k hk => (ownsP.ltb oc18 k hk).2) (fun k hk => (ownsW.ltb ou k hk).1)
          replace ou := ownsW_mono ou B18.size
          have B19 := B18.trans (bb19.mono B18.size)
          have os19 := ownsP.below os18 bb19 (Nat.le_refl _)
          have S19 := S18.below bb19 (Nat.le_refl _)
          have oa19 := ownsP.below oa18 bb19 (Nat.le_refl _)
          have A19 := A18.below bb19 (Nat.le_refl _)
          have ox19 := ownsW.below ox18 bb19 (Nat.le_refl _)
          have X19 := X18.below bb19 (Nat.le_refl _)
          have oc19 := ownsP.below oc18 bb19 (Nat.le_refl _)
          have C19 := C18.below bb19 (Nat.le_refl _)
          clear B18 os18 S18 oa18 A18 ox18 X18 oc18 C18 bb19
          have ou19 := ou
          clear ou
          clear kF
          obtain ⟨w20, hw20⟩ : ∃ v, Hid (v = w19.alloc (.cells #[.bool h9, .slice s9 t9 u9] 27)) := ⟨_, rfl⟩
          have bb20 : Below w19.heap.size w19 w20 := by rw [hw20.out]; exact below1 _ _
          obtain ⟨qb20, hq20⟩ : ∃ v, Hid (v = w19.heap.size) := ⟨_, rfl⟩
          have U20 : BoxL w20 w.heap.size qb20 [.bool h9, .slice s9 t9 u9] := by rw [hw20.out, hq20.out]; exact (BoxL.made w19 [.bool h9, .slice s9 t9 u9] 27).mono B19.size
          have sn20 : w20.heap.size = qb20 + 1 := by rw [hw20.out, hq20.out]; simp
          have B20 := B19.trans (bb20.mono B19.size)
          have os20 := ownsP.below os19 bb20 (Nat.le_refl _)
          have S20 := S19.below bb20 (Nat.le_refl _)
          have oa20 := ownsP.below oa19 bb20 (Nat.le_refl _)
          have A20 := A19.below bb20 (Nat.le_refl _)
          have ox20 := ownsW.below ox19 bb20 (Nat.le_refl _)
          have X20 := X19.below bb20 (Nat.le_refl _)
          have oc20 := ownsP.below oc19 bb20 (Nat.le_refl _)
          have C20 := C19.below bb20 (Nat.le_refl _)
          have ou20 := ownsW.below ou19 bb20 (Nat.le_refl _)
          have ap_U_os : Apart (blkP (.agg #[.bool h1, .slice s1 t1 u1, .bool m1, .slice p1 q1 r1, .int .i64 k1])) [qb20] := apart_one fun q hq => by rw [hq20.out]; have h1 := (ownsP.ltb os19 q hq).2; omega
          have lt_S_U : qb3 < qb20 := by rw [hq20.out]; exact S19.hi
          have ap_U_oa : Apart (blkP (.agg #[.bool h2, .slice s2 t2 u2, .bool m2, .slice p2 q2 r2, .int .i64 k2])) [qb20] := apart_one fun q hq => by rw [hq20.out]; have h1 := (ownsP.ltb oa19 q hq).2; omega
          have lt_A_U : qb5 < qb20 := by rw [hq20.out]; exact A19.hi
          have ap_U_ox : Apart (blkW (.agg #[.bool h4, .slice s4 t4 u4])) [qb20] := apart_one fun q hq => by rw [hq20.out]; have h1 := (ownsW.ltb ox19 q hq).2; omega
          have lt_X_U : qb9 < qb20 := by rw [hq20.out]; exact X19.hi
          have ap_U_oc : Apart (blkP (.agg #[.bool h8, .slice s8 t8 u8, .bool m8, .slice p8 q8 r8, .int .i64 k8])) [qb20] := apart_one fun q hq => by rw [hq20.out]; have h1 := (ownsP.ltb oc19 q hq).2; omega
          have lt_C_U : qb18 < qb20 := by rw [hq20.out]; exact C19.hi
          have ap_U_ou : Apart (blkW (.agg #[.bool h9, .slice s9 t9 u9])) [qb20] := apart_one fun q hq => by rw [hq20.out]; have h1 := (ownsW.ltb ou19 q hq).2; omega
          clear B19 os19 S19 oa19 A19 ox19 X19 oc19 C19 ou19 bb20
          have c_S_0 := S20.c 0 _ rfl
          have c_S_1 := S20.c 1 _ rfl
          have c_S_2 := S20.c 2 _ rfl
          have c_S_3 := S20.c 3 _ rfl
          have c_S_4 := S20.c 4 _ rfl
          rw [hw20.out] at c_S_0
          rw [hw20.out] at c_S_1
          rw [hw20.out] at c_S_2
          rw [hw20.out] at c_S_3
          rw [hw20.out] at c_S_4
          replace sn20 : Hid (w20.heap.size = qb20 + 1) := sn20
          go_wp2_with fail
          replace sn20 := sn20.out
          rw [← hw20.out]
          (try rw [← hq20.out])
          (try rw [← sn20])
          clear c_S_0 c_S_1 c_S_2 c_S_3 c_S_4
          clear hw20 hq20 sn20
          refine (kG _ _ _ ou20.row os20.row.x).mono ?_
          rintro e w21 ⟨v, rfl, ov, bb21⟩
          obtain ⟨h10, s10, t10, u10, rfl⟩ := ov.cell
          have ap_S_ov : Apart (blkW (.agg #[.bool h10, .slice s10 t10 u10])) [qb3] := apart_one fun q hq => by have h1 := (ownsW.ltb ov q hq).1; have h2 := S20.hi; omega
          have ap_A_ov : Apart (blkW (.agg #[.bool h10, .slice s10 t10 u10])) [qb5] := apart_one fun q hq => by have h1 := (ownsW.ltb ov q hq).1; have h2 := A20.hi; omega
          have ap_X_ov : Apart (blkW (.agg #[.bool h10, .slice s10 t10 u10])) [qb9] := apart_one fun q hq => by have h1 := (ownsW.ltb ov q hq).1; have h2 := X20.hi; omega
          have ap_C_ov : Apart (blkW (.agg #[.bool h10, .slice s10 t10 u10])) [qb18] := apart_one fun q hq => by have h1 := (ownsW.ltb ov q hq).1; have h2 := C20.hi; omega
          have ap_U_ov : Apart (blkW (.agg #[.bool h10, .slice s10 t10 u10])) [qb20] := apart_one fun q hq => by have h1 := (ownsW.ltb ov q hq).1; have h2 := U20.hi; omega
          have ap_os_ov : Apart (blkP (.agg #[.bool h1, .slice s1 t1 u1, .bool m1, .slice p1 q1 r1, .int .i64 k1])) (blkW (.agg #[.bool h10, .slice s10 t10 u10])) := apart_of (fun k hk => (ownsP.ltb os20 k hk).2) (fun k hk => (ownsW.ltb ov k hk).1)
          have ap_oa_ov : Apart (blkP (.agg #[.bool h2, .slice s2 t2 u2, .bool m2, .slice p2 q2 r2, .int .i64 k2])) (blkW (.agg #[.bool h10, .slice s10 t10 u10])) := apart_of (fun k hk => (ownsP.ltb oa20 k hk).2) (fun k hk => (ownsW.ltb ov k hk).1)
          have ap_ov_ox : Apart (blkW (.agg #[.bool h10, .slice s10 t10 u10])) (blkW (.agg #[.bool h4, .slice s4 t4 u4])) := Apart.symm (apart_of (fun k hk => (ownsW.ltb ox20 k hk).2) (fun k hk => (ownsW.ltb ov k hk).1))
          have ap_oc_ov : Apart (blkP (.agg #[.bool h8, .slice s8 t8 u8, .bool m8, .slice p8 q8 r8, .int .i64 k8])) (blkW (.agg #[.bool h10, .slice s10 t10 u10])) := apart_of (fun k hk => (ownsP.ltb oc20 k hk).2) (fun k hk => (ownsW.ltb ov k hk).1)
          have ap_ou_ov : Apart (blkW (.agg #[.bool h9, .slice s9 t9 u9])) (blkW (.agg #[.bool h10, .slice s10 t10 u10])) := apart_of (fun k hk => (ownsW.ltb ou20 k hk).2) (fun k hk => (ownsW.ltb ov k hk).1)
          replace ov := ownsW_mono ov B20.size
          have B21 := B20.trans (bb21.mono B20.size)
          have os21 := ownsP.below os20 bb21 (Nat.le_refl _)
          have S21 := S20.below bb21 (Nat.le_refl _)
          have oa21 := ownsP.below oa20 bb21 (Nat.le_refl _)
          have A21 := A20.below bb21 (Nat.le_refl _)
          have ox21 := ownsW.below ox20 bb21 (Nat.le_refl _)
          have X21 := X20.below bb21 (Nat.le_refl _)
          have oc21 := ownsP.below oc20 bb21 (Nat.le_refl _)
          have C21 := C20.below bb21 (Nat.le_refl _)
          have ou21 := ownsW.below ou20 bb21 (Nat.le_refl _)
          have U21 := U20.below bb21 (Nat.le_refl _)
          clear B20 os20 S20 oa20 A20 ox20 X20 oc20 C20 ou20 U20 bb21
          have ov21 := ov
          clear ov
          clear kG
          clear ou21 U21
          obtain ⟨w22, hw22⟩ : ∃ v, Hid (v = w21.alloc (.cells #[.bool h10, .slice s10 t10 u10] 27)) := ⟨_, rfl⟩
          have bb22 : Below w21.heap.size w21 w22 := by rw [hw22.out]; exact below1 _ _
          obtain ⟨qb22, hq22⟩ : ∃ v, Hid (v = w21.heap.size) := ⟨_, rfl⟩
          have V22 : BoxL w22 w.heap.size qb22 [.bool h10, .slice s10 t10 u10] := by rw [hw22.out, hq22.out]; exact (BoxL.made w21 [.bool h10, .slice s10 t10 u10] 27).mono B21.size
          have sn22 : w22.heap.size = qb22 + 1 := by rw [hw22.out, hq22.out]; simp
          have B22 := B21.trans (bb22.mono B21.size)
          have os22 := ownsP.below os21 bb22 (Nat.le_refl _)
          have S22 := S21.below bb22 (Nat.le_refl _)
          have oa22 := ownsP.below oa21 bb22 (Nat.le_refl _)
          have A22 := A21.below bb22 (Nat.le_refl _)
          have ox22 := ownsW.below ox21 bb22 (Nat.le_refl _)
          have X22 := X21.below bb22 (Nat.le_refl _)
          have oc22 := ownsP.below oc21 bb22 (Nat.le_refl _)
          have C22 := C21.below bb22 (Nat.le_refl _)
          have ov22 := ownsW.below ov21 bb22 (Nat.le_refl _)
          have ap_V_os : Apart (blkP (.agg #[.bool h1, .slice s1 t1 u1, .bool m1, .slice p1 q1 r1, .int .i64 k1])) [qb22] := apart_one fun q hq => by rw [hq22.out]; have h1 := (ownsP.ltb os21 q hq).2; omega
          have lt_S_V : qb3 < qb22 := by rw [hq22.out]; exact S21.hi
          have ap_V_oa : Apart (blkP (.agg #[.bool h2, .slice s2 t2 u2, .bool m2, .slice p2 q2 r2, .int .i64 k2])) [qb22] := apart_one fun q hq => by rw [hq22.out]; have h1 := (ownsP.ltb oa21 q hq).2; omega
          have lt_A_V : qb5 < qb22 := by rw [hq22.out]; exact A21.hi
          have ap_V_ox : Apart (blkW (.agg #[.bool h4, .slice s4 t4 u4])) [qb22] := apart_one fun q hq => by rw [hq22.out]; have h1 := (ownsW.ltb ox21 q hq).2; omega
          have lt_X_V : qb9 < qb22 := by rw [hq22.out]; exact X21.hi
          have ap_V_oc : Apart (blkP (.agg #[.bool h8, .slice s8 t8 u8, .bool m8, .slice p8 q8 r8, .int .i64 k8])) [qb22] := apart_one fun q hq => by rw [hq22.out]; have h1 := (ownsP.ltb oc21 q hq).2; omega
          have lt_C_V : qb18 < qb22 := by rw [hq22.out]; exact C21.hi
          have ap_V_ov : Apart (blkW (.agg #[.bool h10, .slice s10 t10 u10])) [qb22] := apart_one fun q hq => by rw [hq22.out]; have h1 := (ownsW.ltb ov21 q hq).2; omega
          clear B21 os21 S21 oa21 A21 ox21 X21 oc21 C21 ov21 bb22
          have c_S_0 := S22.c 0 _ rfl
          have c_S_1 := S22.c 1 _ rfl
          have c_S_2 := S22.c 2 _ rfl
          have c_S_3 := S22.c 3 _ rfl
          have c_S_4 := S22.c 4 _ rfl
          have c_A_0 := A22.c 0 _ rfl
          have c_A_1 := A22.c 1 _ rfl
          have c_A_2 := A22.c 2 _ rfl
          have c_A_3 := A22.c 3 _ rfl
          have c_A_4 := A22.c 4 _ rfl
          rw [hw22.out] at c_S_0
          rw [hw22.out] at c_S_1
          rw [hw22.out] at c_S_2
          rw [hw22.out] at c_S_3
          rw [hw22.out] at c_S_4
          rw [hw22.out] at c_A_0
          rw [hw22.out] at c_A_1
          rw [hw22.out] at c_A_2
          rw [hw22.out] at c_A_3
          rw [hw22.out] at c_A_4
          replace sn22 : Hid (w22.heap.size = qb22 + 1) := sn22
          go_wp2_with fail
          replace sn22 := sn22.out
          rw [← hw22.out]
          (try rw [← hq22.out])
          (try rw [← sn22])
          clear c_S_0 c_S_1 c_S_2 c_S_3 c_S_4 c_A_0 c_A_1 c_A_2 c_A_3 c_A_4
          clear hw22 hq22 sn22
          refine (kC _ _ _ os22.row oa22.row).mono ?_
          rintro e w23 ⟨v, rfl, oz, bb23⟩
          obtain ⟨h11, s11, t11, u11, e11, e12⟩ := oz.row.cell
          have e13 : h11 = gc := e12
          rw [e13] at e11
          subst e11
          clear e12 e13
          have ap_S_oz : Apart (blkW (.agg #[.bool gc, .slice s11 t11 u11])) [qb3] := apart_one fun q hq => by have h1 := (ownsW.ltb oz q hq).1; have h2 := S22.hi; omega
          have ap_A_oz : Apart (blkW (.agg #[.bool gc, .slice s11 t11 u11])) [qb5] := apart_one fun q hq => by have h1 := (ownsW.ltb oz q hq).1; have h2 := A22.hi; omega
          have ap_X_oz : Apart (blkW (.agg #[.bool gc, .slice s11 t11 u11])) [qb9] := apart_one fun q hq => by have h1 := (ownsW.ltb oz q hq).1; have h2 := X22.hi; omega
          have ap_C_oz : Apart (blkW (.agg #[.bool gc, .slice s11 t11 u11])) [qb18] := apart_one fun q hq => by have h1 := (ownsW.ltb oz q hq).1; have h2 := C22.hi; omega
          have ap_V_oz : Apart (blkW (.agg #[.bool gc, .slice s11 t11 u11])) [qb22] := apart_one fun q hq => by have h1 := (ownsW.ltb oz q hq).1; have h2 := V22.hi; omega
          have ap_os_oz : Apart (blkP (.agg #[.bool h1, .slice s1 t1 u1, .bool m1, .slice p1 q1 r1, .int .i64 k1])) (blkW (.agg #[.bool gc, .slice s11 t11 u11])) := apart_of (fun k hk => (ownsP.ltb os22 k hk).2) (fun k hk => (ownsW.ltb oz k hk).1)
          have ap_oa_oz : Apart (blkP (.agg #[.bool h2, .slice s2 t2 u2, .bool m2, .slice p2 q2 r2, .int .i64 k2])) (blkW (.agg #[.bool gc, .slice s11 t11 u11])) := apart_of (fun k hk => (ownsP.ltb oa22 k hk).2) (fun k hk => (ownsW.ltb oz k hk).1)
          have ap_ox_oz : Apart (blkW (.agg #[.bool h4, .slice s4 t4 u4])) (blkW (.agg #[.bool gc, .slice s11 t11 u11])) := apart_of (fun k hk => (ownsW.ltb ox22 k hk).2) (fun k hk => (ownsW.ltb oz k hk).1)
          have ap_oc_oz : Apart (blkP (.agg #[.bool h8, .slice s8 t8 u8, .bool m8, .slice p8 q8 r8, .int .i64 k8])) (blkW (.agg #[.bool gc, .slice s11 t11 u11])) := apart_of (fun k hk => (ownsP.ltb oc22 k hk).2) (fun k hk => (ownsW.ltb oz k hk).1)
          have ap_ov_oz : Apart (blkW (.agg #[.bool h10, .slice s10 t10 u10])) (blkW (.agg #[.bool gc, .slice s11 t11 u11])) := apart_of (fun k hk => (ownsW.ltb ov22 k hk).2) (fun k hk => (ownsW.ltb oz k hk).1)
          replace oz := ownsW_mono oz B22.size
          have B23 := B22.trans (bb23.mono B22.size)
          have os23 := ownsP.below os22 bb23 (Nat.le_refl _)
          have S23 := S22.below bb23 (Nat.le_refl _)
          have oa23 := ownsP.below oa22 bb23 (Nat.le_refl _)
          have A23 := A22.below bb23 (Nat.le_refl _)
          have ox23 := ownsW.below ox22 bb23 (Nat.le_refl _)
          have X23 := X22.below bb23 (Nat.le_refl _)
          have oc23 := ownsP.below oc22 bb23 (Nat.le_refl _)
          have C23 := C22.below bb23 (Nat.le_refl _)
          have ov23 := ownsW.below ov22 bb23 (Nat.le_refl _)
          have V23 := V22.below bb23 (Nat.le_refl _)
          clear B22 os22 S22 oa22 A22 ox22 X22 oc22 C22 ov22 V22 bb23
          have oz23 := oz
          clear oz
          clear kC
          clear os23 oa23 S23 A23
          obtain ⟨w24, hw24⟩ : ∃ v, Hid (v = w23.alloc (.cells #[.bool gc, .slice s11 t11 u11] 27)) := ⟨_, rfl⟩
          have bb24 : Below w23.heap.size w23 w24 := by rw [hw24.out]; exact below1 _ _
          obtain ⟨qb24, hq24⟩ : ∃ v, Hid (v = w23.heap.size) := ⟨_, rfl⟩
          have Z24 : BoxL w24 w.heap.size qb24 [.bool gc, .slice s11 t11 u11] := by rw [hw24.out, hq24.out]; exact (BoxL.made w23 [.bool gc, .slice s11 t11 u11] 27).mono B23.size
          have sn24 : w24.heap.size = qb24 + 1 := by rw [hw24.out, hq24.out]; simp
          have B24 := B23.trans (bb24.mono B23.size)
          have ox24 := ownsW.below ox23 bb24 (Nat.le_refl _)
          have X24 := X23.below bb24 (Nat.le_refl _)
          have oc24 := ownsP.below oc23 bb24 (Nat.le_refl _)
          have C24 := C23.below bb24 (Nat.le_refl _)
          have ov24 := ownsW.below ov23 bb24 (Nat.le_refl _)
          have V24 := V23.below bb24 (Nat.le_refl _)
          have oz24 := ownsW.below oz23 bb24 (Nat.le_refl _)
          have ap_Z_ox : Apart (blkW (.agg #[.bool h4, .slice s4 t4 u4])) [qb24] := apart_one fun q hq => by rw [hq24.out]; have h1 := (ownsW.ltb ox23 q hq).2; omega
          have lt_X_Z : qb9 < qb24 := by rw [hq24.out]; exact X23.hi
          have ap_Z_oc : Apart (blkP (.agg #[.bool h8, .slice s8 t8 u8, .bool m8, .slice p8 q8 r8, .int .i64 k8])) [qb24] := apart_one fun q hq => by rw [hq24.out]; have h1 := (ownsP.ltb oc23 q hq).2; omega
          have lt_C_Z : qb18 < qb24 := by rw [hq24.out]; exact C23.hi
          have ap_Z_ov : Apart (blkW (.agg #[.bool h10, .slice s10 t10 u10])) [qb24] := apart_one fun q hq => by rw [hq24.out]; have h1 := (ownsW.ltb ov23 q hq).2; omega
          have lt_V_Z : qb22 < qb24 := by rw [hq24.out]; exact V23.hi
          have ap_Z_oz : Apart (blkW (.agg #[.bool gc, .slice s11 t11 u11])) [qb24] := apart_one fun q hq => by rw [hq24.out]; have h1 := (ownsW.ltb oz23 q hq).2; omega
          clear B23 ox23 X23 oc23 C23 ov23 V23 oz23 bb24
          have c_V_0 := V24.c 0 _ rfl
          have c_V_1 := V24.c 1 _ rfl
          have c_C_0 := C24.c 0 _ rfl
          have c_C_1 := C24.c 1 _ rfl
          have c_C_2 := C24.c 2 _ rfl
          have c_C_3 := C24.c 3 _ rfl
          have c_C_4 := C24.c 4 _ rfl
          rw [hw24.out] at c_V_0
          rw [hw24.out] at c_V_1
          rw [hw24.out] at c_C_0
          rw [hw24.out] at c_C_1
          rw [hw24.out] at c_C_2
          rw [hw24.out] at c_C_3
          rw [hw24.out] at c_C_4
          replace sn24 : Hid (w24.heap.size = qb24 + 1) := sn24
          go_wp2_with fail
          replace sn24 := sn24.out
          rw [← hw24.out]
          (try rw [← hq24.out])
          (try rw [← sn24])
          clear c_V_0 c_V_1 c_C_0 c_C_1 c_C_2 c_C_3 c_C_4
          clear hw24 hq24 sn24
          refine (kQ _ _ _ ov24.row oc24.row.x).mono ?_
          rintro e w25 ⟨rfl, bb25⟩
          have B25 := B24.trans (bb25.mono B24.size)
          have ox25 := ownsW.below ox24 bb25 (Nat.le_refl _)
          have X25 := X24.below bb25 (Nat.le_refl _)
          have oc25 := ownsP.below oc24 bb25 (Nat.le_refl _)
          have C25 := C24.below bb25 (Nat.le_refl _)
          have ov25 := ownsW.below ov24 bb25 (Nat.le_refl _)
          have V25 := V24.below bb25 (Nat.le_refl _)
          have oz25 := ownsW.below oz24 bb25 (Nat.le_refl _)
          have Z25 := Z24.below bb25 (Nat.le_refl _)
          clear B24 ox24 X24 oc24 C24 ov24 V24 oz24 Z24 bb25
          clear kQ
          clear ov25 oc25 V25 C25 oz25
          by_cases h0 : t4 = 0
          · subst h0
            rcases hd with rfl | rfl
            · skip
              cases gc
              · skip
                have c_X_0 := X25.c 0 _ rfl
                have c_X_1 := X25.c 1 _ rfl
                have c_Z_0 := Z25.c 0 _ rfl
                have c_Z_1 := Z25.c 1 _ rfl
                go_wp2
                go_ret
                first | exact ⟨rfl, B25⟩ | exact ⟨rfl, B25.trans ((below1 _ _).mono B25.size)⟩
              · skip
                have c_X_0 := X25.c 0 _ rfl
                have c_X_1 := X25.c 1 _ rfl
                have c_Z_0 := Z25.c 0 _ rfl
                have c_Z_1 := Z25.c 1 _ rfl
                go_wp2
                go_ret
                first | exact ⟨rfl, B25⟩ | exact ⟨rfl, B25.trans ((below1 _ _).mono B25.size)⟩
            · skip
              cases gc
              · skip
                have c_X_0 := X25.c 0 _ rfl
                have c_X_1 := X25.c 1 _ rfl
                have c_Z_0 := Z25.c 0 _ rfl
                have c_Z_1 := Z25.c 1 _ rfl
                go_wp2
                go_ret
                first | exact ⟨rfl, B25⟩ | exact ⟨rfl, B25.trans ((below1 _ _).mono B25.size)⟩
              · skip
                have c_X_0 := X25.c 0 _ rfl
                have c_X_1 := X25.c 1 _ rfl
                have c_Z_0 := Z25.c 0 _ rfl
                have c_Z_1 := Z25.c 1 _ rfl
                go_wp2
                go_ret
                first | exact ⟨rfl, B25⟩ | exact ⟨rfl, B25.trans ((below1 _ _).mono B25.size)⟩
          · have hsg2 := hsg (by rw [hnx.out]; exact h0)
            subst hsg2
            rcases hd with rfl | rfl
            · skip
              have c_X_0 := X25.c 0 _ rfl
              have c_X_1 := X25.c 1 _ rfl
              have c_Z_0 := Z25.c 0 _ rfl
              have c_Z_1 := Z25.c 1 _ rfl
              go_wp2
              go_ret
              first | exact ⟨rfl, B25⟩ | exact ⟨rfl, B25.trans ((below1 _ _).mono B25.size)⟩
            · skip
              have c_X_0 := X25.c 0 _ rfl
              have c_X_1 := X25.c 1 _ rfl
              have c_Z_0 := Z25.c 0 _ rfl
              have c_Z_1 := Z25.c 1 _ rfl
              go_wp2
              go_ret
              first | exact ⟨rfl, B25⟩ | exact ⟨rfl, B25.trans ((below1 _ _).mono B25.size)⟩
      · skip
        obtain ⟨w15, hw15⟩ : ∃ v, Hid (v = w14.alloc (.cells #[.bool h7, .slice s7 t7 u7] 27)) := ⟨_, rfl⟩
        have bb15 : Below w14.heap.size w14 w15 := by rw [hw15.out]; exact below1 _ _
        obtain ⟨qb15, hq15⟩ : ∃ v, Hid (v = w14.heap.size) := ⟨_, rfl⟩
        have G15 : BoxL w15 w.heap.size qb15 [.bool h7, .slice s7 t7 u7] := by rw [hw15.out, hq15.out]; exact (BoxL.made w14 [.bool h7, .slice s7 t7 u7] 27).mono B14.size
        have sn15 : w15.heap.size = qb15 + 1 := by rw [hw15.out, hq15.out]; simp
        have B15 := B14.trans (bb15.mono B14.size)
        have os15 := ownsP.below os14 bb15 (Nat.le_refl _)
        have S15 := S14.below bb15 (Nat.le_refl _)
        have oa15 := ownsP.below oa14 bb15 (Nat.le_refl _)
        have A15 := A14.below bb15 (Nat.le_refl _)
        have ox15 := ownsW.below ox14 bb15 (Nat.le_refl _)
        have X15 := X14.below bb15 (Nat.le_refl _)
        have oy15 := ownsW.below oy14 bb15 (Nat.le_refl _)
        have Y15 := Y14.below bb15 (Nat.le_refl _)
        have og15 := ownsW.below og14 bb15 (Nat.le_refl _)
        have ap_G_os : Apart (blkP (.agg #[.bool h1, .slice s1 t1 u1, .bool m1, .slice p1 q1 r1, .int .i64 k1])) [qb15] := apart_one fun q hq => by rw [hq15.out]; have h1 := (ownsP.ltb os14 q hq).2; omega
        have lt_S_G : qb3 < qb15 := by rw [hq15.out]; exact S14.hi
        have ap_G_oa : Apart (blkP (.agg #[.bool h2, .slice s2 t2 u2, .bool m2, .slice p2 q2 r2, .int .i64 k2])) [qb15] := apart_one fun q hq => by rw [hq15.out]; have h1 := (ownsP.ltb oa14 q hq).2; omega
        have lt_A_G : qb5 < qb15 := by rw [hq15.out]; exact A14.hi
        have ap_G_ox : Apart (blkW (.agg #[.bool h4, .slice s4 t4 u4])) [qb15] := apart_one fun q hq => by rw [hq15.out]; have h1 := (ownsW.ltb ox14 q hq).2; omega
        have lt_X_G : qb9 < qb15 := by rw [hq15.out]; exact X14.hi
        have ap_G_oy : Apart (blkW (.agg #[.bool h5, .slice s5 t5 u5])) [qb15] := apart_one fun q hq => by rw [hq15.out]; have h1 := (ownsW.ltb oy14 q hq).2; omega
        have lt_Y_G : qb11 < qb15 := by rw [hq15.out]; exact Y14.hi
        have ap_G_og : Apart (blkW (.agg #[.bool h7, .slice s7 t7 u7])) [qb15] := apart_one fun q hq => by rw [hq15.out]; have h1 := (ownsW.ltb og14 q hq).2; omega
        clear B14 os14 S14 oa14 A14 ox14 X14 oy14 Y14 og14 bb15
        have c_X_0 := X15.c 0 _ rfl
        have c_X_1 := X15.c 1 _ rfl
        have c_A_0 := A15.c 0 _ rfl
        have c_A_1 := A15.c 1 _ rfl
        have c_A_2 := A15.c 2 _ rfl
        have c_A_3 := A15.c 3 _ rfl
        have c_A_4 := A15.c 4 _ rfl
        rw [hw15.out] at c_X_0
        rw [hw15.out] at c_X_1
        rw [hw15.out] at c_A_0
        rw [hw15.out] at c_A_1
        rw [hw15.out] at c_A_2
        rw [hw15.out] at c_A_3
        rw [hw15.out] at c_A_4
        replace sn15 : Hid (w15.heap.size = qb15 + 1) := sn15
        go_wp2_with fail
        replace sn15 := sn15.out
        rw [← hw15.out]
        (try rw [← hq15.out])
        (try rw [← sn15])
        clear c_X_0 c_X_1 c_A_0 c_A_1 c_A_2 c_A_3 c_A_4
        clear hw15 hq15 sn15
        clear G15 og15 oy15 Y15
        refine (kI _ _ oa15.row).mono ?_
        rintro e w16 ⟨v, rfl, oc, bb16⟩
        obtain ⟨h8, s8, t8, u8, m8, p8, q8, r8, eq8⟩ := oc.cell
        obtain ⟨k8, hk8⟩ : ∃ q, rb.2 = q := ⟨_, rfl⟩
        rw [hk8] at eq8
        subst eq8
        replace hk8 : Hid (rb.2 = k8) := hk8
        have ap_S_oc : Apart (blkP (.agg #[.bool h8, .slice s8 t8 u8, .bool m8, .slice p8 q8 r8, .int .i64 k8])) [qb3] := apart_one fun q hq => by have h1 := (ownsP.ltb oc q hq).1; have h2 := S15.hi; omega
        have ap_A_oc : Apart (blkP (.agg #[.bool h8, .slice s8 t8 u8, .bool m8, .slice p8 q8 r8, .int .i64 k8])) [qb5] := apart_one fun q hq => by have h1 := (ownsP.ltb oc q hq).1; have h2 := A15.hi; omega
        have ap_X_oc : Apart (blkP (.agg #[.bool h8, .slice s8 t8 u8, .bool m8, .slice p8 q8 r8, .int .i64 k8])) [qb9] := apart_one fun q hq => by have h1 := (ownsP.ltb oc q hq).1; have h2 := X15.hi; omega
        have ap_oc_os : Apart (blkP (.agg #[.bool h8, .slice s8 t8 u8, .bool m8, .slice p8 q8 r8, .int .i64 k8])) (blkP (.agg #[.bool h1, .slice s1 t1 u1, .bool m1, .slice p1 q1 r1, .int .i64 k1])) := Apart.symm (apart_of (fun k hk => (ownsP.ltb os15 k hk).2) (fun k hk => (ownsP.ltb oc k hk).1))
        have ap_oa_oc : Apart (blkP (.agg #[.bool h2, .slice s2 t2 u2, .bool m2, .slice p2 q2 r2, .int .i64 k2])) (blkP (.agg #[.bool h8, .slice s8 t8 u8, .bool m8, .slice p8 q8 r8, .int .i64 k8])) := apart_of (fun k hk => (ownsP.ltb oa15 k hk).2) (fun k hk => (ownsP.ltb oc k hk).1)
        have ap_oc_ox : Apart (blkP (.agg #[.bool h8, .slice s8 t8 u8, .bool m8, .slice p8 q8 r8, .int .i64 k8])) (blkW (.agg #[.bool h4, .slice s4 t4 u4])) := Apart.symm (apart_of (fun k hk => (ownsW.ltb ox15 k hk).2) (fun k hk => (ownsP.ltb oc k hk).1))
        replace oc := ownsP_mono oc B15.size
        have B16 := B15.trans (bb16.mono B15.size)
        have os16 := ownsP.below os15 bb16 (Nat.le_refl _)
        have S16 := S15.below bb16 (Nat.le_refl _)
        have oa16 := ownsP.below oa15 bb16 (Nat.le_refl _)
        have A16 := A15.below bb16 (Nat.le_refl _)
        have ox16 := ownsW.below ox15 bb16 (Nat.le_refl _)
        have X16 := X15.below bb16 (Nat.le_refl _)
        clear B15 os15 S15 oa15 A15 ox15 X15 bb16
        have oc16 := oc
        clear oc
        clear kI
        cases ob2
        · have d8 := True.intro
          go_wp2
          go_ret
          first | exact ⟨rfl, B16⟩ | exact ⟨rfl, B16.trans ((below1 _ _).mono B16.size)⟩
        · obtain ⟨k9, e9, hs2⟩ := step_yes hb
          obtain rfl : k = k9 := by omega
          clear e9
          obtain ⟨⟨f6, b6⟩, hw6x⟩ : ∃ q, wshiftR s.1.1 (2 * (k : Int)) = q := ⟨_, rfl⟩
          obtain ⟨⟨f7, b7⟩, hw7x⟩ : ∃ q, waddR f6 s.1.1 = q := ⟨_, rfl⟩
          have hx := spun_x hs hs2 hw6x hw7x
          have l6 : f6.2.length ≤ 1048576 := by have := wshiftR_len s.1.1 (2 * (k : Int)); rw [hw6x] at this; exact this
          have l7 : f7.2.length ≤ 1048576 := by have := waddR_len f6 s.1.1; rw [hw7x] at this; exact this
          have kF := fun v W (q : rowW W v s.1.1) => iWholeShift v s.1.1 (2 * (k : Int)) W q l1b
          have kG := fun u v W (q1 : rowW W u f6) (q2 : rowW W v s.1.1) => iWholeAdd u v f6 s.1.1 W q1 q2 l6 l1b
          rw [hw6x] at kF
          rw [hw7x] at kG
          dsimp only at kF kG
          have kC := fun u v W (q1 : rowP W u s) (q2 : rowP W v r) => iCross u v s r W q1 q2 l1b l2b lr.1 lr.2
          have kQ := fun u v W (q1 : rowW W u f7) (q2 : rowW W v rb.1.1) => sameWh u v f7 rb.1.1 W q1 q2 l7
          have e7 : decide (f7 = rb.1.1) = true := decide_eq_true hx
          rw [e7] at kQ
          obtain ⟨⟨gc, lc⟩, hcr⟩ : ∃ q, crossR s r = q := ⟨_, rfl⟩
          rw [hcr] at kC hsg
          dsimp only at hsg
          clear hw6x hw7x hx e7 hcr hs hs2 hb hr
          obtain ⟨w17, hw17⟩ : ∃ v, Hid (v = w16.alloc (.cells #[.bool h8, .slice s8 t8 u8, .bool m8, .slice p8 q8 r8, .int .i64 k8] 34)) := ⟨_, rfl⟩
          have bb17 : Below w16.heap.size w16 w17 := by rw [hw17.out]; exact below1 _ _
          obtain ⟨qb17, hq17⟩ : ∃ v, Hid (v = w16.heap.size) := ⟨_, rfl⟩
          have C17 : BoxL w17 w.heap.size qb17 [.bool h8, .slice s8 t8 u8, .bool m8, .slice p8 q8 r8, .int .i64 k8] := by rw [hw17.out, hq17.out]; exact (BoxL.made w16 [.bool h8, .slice s8 t8 u8, .bool m8, .slice p8 q8 r8, .int .i64 k8] 34).mono B16.size
          have sn17 : w17.heap.size = qb17 + 1 := by rw [hw17.out, hq17.out]; simp
          have B17 := B16.trans (bb17.mono B16.size)
          have os17 := ownsP.below os16 bb17 (Nat.le_refl _)
          have S17 := S16.below bb17 (Nat.le_refl _)
          have oa17 := ownsP.below oa16 bb17 (Nat.le_refl _)
          have A17 := A16.below bb17 (Nat.le_refl _)
          have ox17 := ownsW.below ox16 bb17 (Nat.le_refl _)
          have X17 := X16.below bb17 (Nat.le_refl _)
          have oc17 := ownsP.below oc16 bb17 (Nat.le_refl _)
          have ap_C_os : Apart (blkP (.agg #[.bool h1, .slice s1 t1 u1, .bool m1, .slice p1 q1 r1, .int .i64 k1])) [qb17] := apart_one fun q hq => by rw [hq17.out]; have h1 := (ownsP.ltb os16 q hq).2; omega
          have lt_S_C : qb3 < qb17 := by rw [hq17.out]; exact S16.hi
          have ap_C_oa : Apart (blkP (.agg #[.bool h2, .slice s2 t2 u2, .bool m2, .slice p2 q2 r2, .int .i64 k2])) [qb17] := apart_one fun q hq => by rw [hq17.out]; have h1 := (ownsP.ltb oa16 q hq).2; omega
          have lt_A_C : qb5 < qb17 := by rw [hq17.out]; exact A16.hi
          have ap_C_ox : Apart (blkW (.agg #[.bool h4, .slice s4 t4 u4])) [qb17] := apart_one fun q hq => by rw [hq17.out]; have h1 := (ownsW.ltb ox16 q hq).2; omega
          have lt_X_C : qb9 < qb17 := by rw [hq17.out]; exact X16.hi
          have ap_C_oc : Apart (blkP (.agg #[.bool h8, .slice s8 t8 u8, .bool m8, .slice p8 q8 r8, .int .i64 k8])) [qb17] := apart_one fun q hq => by rw [hq17.out]; have h1 := (ownsP.ltb oc16 q hq).2; omega
          clear B16 os16 S16 oa16 A16 ox16 X16 oc16 bb17
          have c_S_0 := S17.c 0 _ rfl
          have c_S_1 := S17.c 1 _ rfl
          have c_S_2 := S17.c 2 _ rfl
          have c_S_3 := S17.c 3 _ rfl
          have c_S_4 := S17.c 4 _ rfl
          rw [hw17.out] at c_S_0
          rw [hw17.out] at c_S_1
          rw [hw17.out] at c_S_2
          rw [hw17.out] at c_S_3
          rw [hw17.out] at c_S_4
          replace sn17 : Hid (w17.heap.size = qb17 + 1) := sn17
          go_wp2_with fail
          replace sn17 := sn17.out
          rw [← hw17.out]
          (try rw [← hq17.out])
          (try rw [← sn17])
          clear c_S_0 c_S_1 c_S_2 c_S_3 c_S_4
          clear hw17 hq17 sn17
          refine (kF _ _ os17.row.x).mono ?_
          rintro e w18 ⟨v, rfl, ou, bb18⟩
          obtain ⟨h9, s9, t9, u9, rfl⟩ := ou.cell
          have ap_S_ou : Apart (blkW (.agg #[.bool h9, .slice s9 t9 u9])) [qb3] := apart_one fun q hq => by have h1 := (ownsW.ltb ou q hq).1; have h2 := S17.hi; omega
          have ap_A_ou : Apart (blkW (.agg #[.bool h9, .slice s9 t9 u9])) [qb5] := apart_one fun q hq => by have h1 := (ownsW.ltb ou q hq).1; have h2 := A17.hi; omega
          have ap_X_ou : Apart (blkW (.agg #[.bool h9, .slice s9 t9 u9])) [qb9] := apart_one fun q hq => by have h1 := (ownsW.ltb ou q hq).1; have h2 := X17.hi; omega
          have ap_C_ou : Apart (blkW (.agg #[.bool h9, .slice s9 t9 u9])) [qb17] := apart_one fun q hq => by have h1 := (ownsW.ltb ou q hq).1; have h2 := C17.hi; omega
          have ap_os_ou : Apart (blkP (.agg #[.bool h1, .slice s1 t1 u1, .bool m1, .slice p1 q1 r1, .int .i64 k1])) (blkW (.agg #[.bool h9, .slice s9 t9 u9])) := apart_of (fun k hk => (ownsP.ltb os17 k hk).2) (fun k hk => (ownsW.ltb ou k hk).1)
          have ap_oa_ou : Apart (blkP (.agg #[.bool h2, .slice s2 t2 u2, .bool m2, .slice p2 q2 r2, .int .i64 k2])) (blkW (.agg #[.bool h9, .slice s9 t9 u9])) := apart_of (fun k hk => (ownsP.ltb oa17 k hk).2) (fun k hk => (ownsW.ltb ou k hk).1)
          have ap_ou_ox : Apart (blkW (.agg #[.bool h9, .slice s9 t9 u9])) (blkW (.agg #[.bool h4, .slice s4 t4 u4])) := Apart.symm (apart_of (fun k hk => (ownsW.ltb ox17 k hk).2) (fun k hk => (ownsW.ltb ou k hk).1))
          have ap_oc_ou : Apart (blkP (.agg #[.bool h8, .slice s8 t8 u8, .bool m8, .slice p8 q8 r8, .int .i64 k8])) (blkW (.agg #[.bool h9, .slice s9 t9 u9])) := apart_of (fun k hk => (ownsP.ltb oc17 k hk).2) (fun k hk => (ownsW.ltb ou k hk).1)
          replace ou := ownsW_mono ou B17.size
          have B18 := B17.trans (bb18.mono B17.size)
          have os18 := ownsP.below os17 bb18 (Nat.le_refl _)
          have S18 := S17.below bb18 (Nat.le_refl _)
          have oa18 := ownsP.below oa17 bb18 (Nat.le_refl _)
          have A18 := A17.below bb18 (Nat.le_refl _)
          have ox18 := ownsW.below ox17 bb18 (Nat.le_refl _)
          have X18 := X17.below bb18 (Nat.le_refl _)
          have oc18 := ownsP.below oc17 bb18 (Nat.le_refl _)
          have C18 := C17.below bb18 (Nat.le_refl _)
          clear B17 os17 S17 oa17 A17 ox17 X17 oc17 C17 bb18
          have ou18 := ou
          clear ou
          clear kF
          obtain ⟨w19, hw19⟩ : ∃ v, Hid (v = w18.alloc (.cells #[.bool h9, .slice s9 t9 u9] 27)) := ⟨_, rfl⟩
          have bb19 : Below w18.heap.size w18 w19 := by rw [hw19.out]; exact below1 _ _
          obtain ⟨qb19, hq19⟩ : ∃ v, Hid (v = w18.heap.size) := ⟨_, rfl⟩
          have U19 : BoxL w19 w.heap.size qb19 [.bool h9, .slice s9 t9 u9] := by rw [hw19.out, hq19.out]; exact (BoxL.made w18 [.bool h9, .slice s9 t9 u9] 27).mono B18.size
          have sn19 : w19.heap.size = qb19 + 1 := by rw [hw19.out, hq19.out]; simp
          have B19 := B18.trans (bb19.mono B18.size)
          have os19 := ownsP.below os18 bb19 (Nat.le_refl _)
          have S19 := S18.below bb19 (Nat.le_refl _)
          have oa19 := ownsP.below oa18 bb19 (Nat.le_refl _)
          have A19 := A18.below bb19 (Nat.le_refl _)
          have ox19 := ownsW.below ox18 bb19 (Nat.le_refl _)
          have X19 := X18.below bb19 (Nat.le_refl _)
          have oc19 := ownsP.below oc18 bb19 (Nat.le_refl _)
          have C19 := C18.below bb19 (Nat.le_refl _)
          have ou19 := ownsW.below ou18 bb19 (Nat.le_refl _)
          have ap_U_os : Apart (blkP (.agg #[.bool h1, .slice s1 t1 u1, .bool m1, .slice p1 q1 r1, .int .i64 k1])) [qb19] := apart_one fun q hq => by rw [hq19.out]; have h1 := (ownsP.ltb os18 q hq).2; omega
          have lt_S_U : qb3 < qb19 := by rw [hq19.out]; exact S18.hi
          have ap_U_oa : Apart (blkP (.agg #[.bool h2, .slice s2 t2 u2, .bool m2, .slice p2 q2 r2, .int .i64 k2])) [qb19] := apart_one fun q hq => by rw [hq19.out]; have h1 := (ownsP.ltb oa18 q hq).2; omega
          have lt_A_U : qb5 < qb19 := by rw [hq19.out]; exact A18.hi
          have ap_U_ox : Apart (blkW (.agg #[.bool h4, .slice s4 t4 u4])) [qb19] := apart_one fun q hq => by rw [hq19.out]; have h1 := (ownsW.ltb ox18 q hq).2; omega
          have lt_X_U : qb9 < qb19 := by rw [hq19.out]; exact X18.hi
          have ap_U_oc : Apart (blkP (.agg #[.bool h8, .slice s8 t8 u8, .bool m8, .slice p8 q8 r8, .int .i64 k8])) [qb19] := apart_one fun q hq => by rw [hq19.out]; have h1 := (ownsP.ltb oc18 q hq).2; omega
          have lt_C_U : qb17 < qb19 := by rw [hq19.out]; exact C18.hi
          have ap_U_ou : Apart (blkW (.agg #[.bool h9, .slice s9 t9 u9])) [qb19] := apart_one fun q hq => by rw [hq19.out]; have h1 := (ownsW.ltb ou18 q hq).2; omega
          clear B18 os18 S18 oa18 A18 ox18 X18 oc18 C18 ou18 bb19
          have c_S_0 := S19.c 0 _ rfl
          have c_S_1 := S19.c 1 _ rfl
          have c_S_2 := S19.c 2 _ rfl
          have c_S_3 := S19.c 3 _ rfl
          have c_S_4 := S19.c 4 _ rfl
          rw [hw19.out] at c_S_0
          rw [hw19.out] at c_S_1
          rw [hw19.out] at c_S_2
          rw [hw19.out] at c_S_3
          rw [hw19.out] at c_S_4
          replace sn19 : Hid (w19.heap.size = qb19 + 1) := sn19
          go_wp2_with fail
          replace sn19 := sn19.out
          rw [← hw19.out]
          (try rw [← hq19.out])
          (try rw [← sn19])
          clear c_S_0 c_S_1 c_S_2 c_S_3 c_S_4
          clear hw19 hq19 sn19
          refine (kG _ _ _ ou19.row os19.row.x).mono ?_
          rintro e w20 ⟨v, rfl, ov, bb20⟩
          obtain ⟨h10, s10, t10, u10, rfl⟩ := ov.cell
          have ap_S_ov : Apart (blkW (.agg #[.bool h10, .slice s10 t10 u10])) [qb3] := apart_one fun q hq => by have h1 := (ownsW.ltb ov q hq).1; have h2 := S19.hi; omega
          have ap_A_ov : Apart (blkW (.agg #[.bool h10, .slice s10 t10 u10])) [qb5] := apart_one fun q hq => by have h1 := (ownsW.ltb ov q hq).1; have h2 := A19.hi; omega
          have ap_X_ov : Apart (blkW (.agg #[.bool h10, .slice s10 t10 u10])) [qb9] := apart_one fun q hq => by have h1 := (ownsW.ltb ov q hq).1; have h2 := X19.hi; omega
          have ap_C_ov : Apart (blkW (.agg #[.bool h10, .slice s10 t10 u10])) [qb17] := apart_one fun q hq => by have h1 := (ownsW.ltb ov q hq).1; have h2 := C19.hi; omega
          have ap_U_ov : Apart (blkW (.agg #[.bool h10, .slice s10 t10 u10])) [qb19] := apart_one fun q hq => by have h1 := (ownsW.ltb ov q hq).1; have h2 := U19.hi; omega
          have ap_os_ov : Apart (blkP (.agg #[.bool h1, .slice s1 t1 u1, .bool m1, .slice p1 q1 r1, .int .i64 k1])) (blkW (.agg #[.bool h10, .slice s10 t10 u10])) := apart_of (fun k hk => (ownsP.ltb os19 k hk).2) (fun k hk => (ownsW.ltb ov k hk).1)
          have ap_oa_ov : Apart (blkP (.agg #[.bool h2, .slice s2 t2 u2, .bool m2, .slice p2 q2 r2, .int .i64 k2])) (blkW (.agg #[.bool h10, .slice s10 t10 u10])) := apart_of (fun k hk => (ownsP.ltb oa19 k hk).2) (fun k hk => (ownsW.ltb ov k hk).1)
          have ap_ov_ox : Apart (blkW (.agg #[.bool h10, .slice s10 t10 u10])) (blkW (.agg #[.bool h4, .slice s4 t4 u4])) := Apart.symm (apart_of (fun k hk => (ownsW.ltb ox19 k hk).2) (fun k hk => (ownsW.ltb ov k hk).1))
          have ap_oc_ov : Apart (blkP (.agg #[.bool h8, .slice s8 t8 u8, .bool m8, .slice p8 q8 r8, .int .i64 k8])) (blkW (.agg #[.bool h10, .slice s10 t10 u10])) := apart_of (fun k hk => (ownsP.ltb oc19 k hk).2) (fun k hk => (ownsW.ltb ov k hk).1)
          have ap_ou_ov : Apart (blkW (.agg #[.bool h9, .slice s9 t9 u9])) (blkW (.agg #[.bool h10, .slice s10 t10 u10])) := apart_of (fun k hk => (ownsW.ltb ou19 k hk).2) (fun k hk => (ownsW.ltb ov k hk).1)
          replace ov := ownsW_mono ov B19.size
          have B20 := B19.trans (bb20.mono B19.size)
          have os20 := ownsP.below os19 bb20 (Nat.le_refl _)
          have S20 := S19.below bb20 (Nat.le_refl _)
          have oa20 := ownsP.below oa19 bb20 (Nat.le_refl _)
          have A20 := A19.below bb20 (Nat.le_refl _)
          have ox20 := ownsW.below ox19 bb20 (Nat.le_refl _)
          have X20 := X19.below bb20 (Nat.le_refl _)
          have oc20 := ownsP.below oc19 bb20 (Nat.le_refl _)
          have C20 := C19.below bb20 (Nat.le_refl _)
          have ou20 := ownsW.below ou19 bb20 (Nat.le_refl _)
          have U20 := U19.below bb20 (Nat.le_refl _)
          clear B19 os19 S19 oa19 A19 ox19 X19 oc19 C19 ou19 U19 bb20
          have ov20 := ov
          clear ov
          clear kG
          clear ou20 U20
          obtain ⟨w21, hw21⟩ : ∃ v, Hid (v = w20.alloc (.cells #[.bool h10, .slice s10 t10 u10] 27)) := ⟨_, rfl⟩
          have bb21 : Below w20.heap.size w20 w21 := by rw [hw21.out]; exact below1 _ _
          obtain ⟨qb21, hq21⟩ : ∃ v, Hid (v = w20.heap.size) := ⟨_, rfl⟩
          have V21 : BoxL w21 w.heap.size qb21 [.bool h10, .slice s10 t10 u10] := by rw [hw21.out, hq21.out]; exact (BoxL.made w20 [.bool h10, .slice s10 t10 u10] 27).mono B20.size
          have sn21 : w21.heap.size = qb21 + 1 := by rw [hw21.out, hq21.out]; simp
          have B21 := B20.trans (bb21.mono B20.size)
          have os21 := ownsP.below os20 bb21 (Nat.le_refl _)
          have S21 := S20.below bb21 (Nat.le_refl _)
          have oa21 := ownsP.below oa20 bb21 (Nat.le_refl _)
          have A21 := A20.below bb21 (Nat.le_refl _)
          have ox21 := ownsW.below ox20 bb21 (Nat.le_refl _)
          have X21 := X20.below bb21 (Nat.le_refl _)
          have oc21 := ownsP.below oc20 bb21 (Nat.le_refl _)
          have C21 := C20.below bb21 (Nat.le_refl _)
          have ov21 := ownsW.below ov20 bb21 (Nat.le_refl _)
          have ap_V_os : Apart (blkP (.agg #[.bool h1, .slice s1 t1 u1, .bool m1, .slice p1 q1 r1, .int .i64 k1])) [qb21] := apart_one fun q hq => by rw [hq21.out]; have h1 := (ownsP.ltb os20 q hq).2; omega
          have lt_S_V : qb3 < qb21 := by rw [hq21.out]; exact S20.hi
          have ap_V_oa : Apart (blkP (.agg #[.bool h2, .slice s2 t2 u2, .bool m2, .slice p2 q2 r2, .int .i64 k2])) [qb21] := apart_one fun q hq => by rw [hq21.out]; have h1 := (ownsP.ltb oa20 q hq).2; omega
          have lt_A_V : qb5 < qb21 := by rw [hq21.out]; exact A20.hi
          have ap_V_ox : Apart (blkW (.agg #[.bool h4, .slice s4 t4 u4])) [qb21] := apart_one fun q hq => by rw [hq21.out]; have h1 := (ownsW.ltb ox20 q hq).2; omega
          have lt_X_V : qb9 < qb21 := by rw [hq21.out]; exact X20.hi
          have ap_V_oc : Apart (blkP (.agg #[.bool h8, .slice s8 t8 u8, .bool m8, .slice p8 q8 r8, .int .i64 k8])) [qb21] := apart_one fun q hq => by rw [hq21.out]; have h1 := (ownsP.ltb oc20 q hq).2; omega
          have lt_C_V : qb17 < qb21 := by rw [hq21.out]; exact C20.hi
          have ap_V_ov : Apart (blkW (.agg #[.bool h10, .slice s10 t10 u10])) [qb21] := apart_one fun q hq => by rw [hq21.out]; have h1 := (ownsW.ltb ov20 q hq).2; omega
          clear B20 os20 S20 oa20 A20 ox20 X20 oc20 C20 ov20 bb21
          have c_S_0 := S21.c 0 _ rfl
          have c_S_1 := S21.c 1 _ rfl
          have c_S_2 := S21.c 2 _ rfl
          have c_S_3 := S21.c 3 _ rfl
          have c_S_4 := S21.c 4 _ rfl
          have c_A_0 := A21.c 0 _ rfl
          have c_A_1 := A21.c 1 _ rfl
          have c_A_2 := A21.c 2 _ rfl
          have c_A_3 := A21.c 3 _ rfl
          have c_A_4 := A21.c 4 _ rfl
          rw [hw21.out] at c_S_0
          rw [hw21.out] at c_S_1
          rw [hw21.out] at c_S_2
          rw [hw21.out] at c_S_3
          rw [hw21.out] at c_S_4
          rw [hw21.out] at c_A_0
          rw [hw21.out] at c_A_1
          rw [hw21.out] at c_A_2
          rw [hw21.out] at c_A_3
          rw [hw21.out] at c_A_4
          replace sn21 : Hid (w21.heap.size = qb21 + 1) := sn21
          go_wp2_with fail
          replace sn21 := sn21.out
          rw [← hw21.out]
          (try rw [← hq21.out])
          (try rw [← sn21])
          clear c_S_0 c_S_1 c_S_2 c_S_3 c_S_4 c_A_0 c_A_1 c_A_2 c_A_3 c_A_4
          clear hw21 hq21 sn21
          refine (kC _ _ _ os21.row oa21.row).mono ?_
          rintro e w22 ⟨v, rfl, oz, bb22⟩
          obtain ⟨h11, s11, t11, u11, e11, e12⟩ := oz.row.cell
          have e13 : h11 = gc := e12
          rw [e13] at e11
          subst e11
          clear e12 e13
          have ap_S_oz : Apart (blkW (.agg #[.bool gc, .slice s11 t11 u11])) [qb3] := apart_one fun q hq => by have h1 := (ownsW.ltb oz q hq).1; have h2 := S21.hi; omega
          have ap_A_oz : Apart (blkW (.agg #[.bool gc, .slice s11 t11 u11])) [qb5] := apart_one fun q hq => by have h1 := (ownsW.ltb oz q hq).1; have h2 := A21.hi; omega
          have ap_X_oz : Apart (blkW (.agg #[.bool gc, .slice s11 t11 u11])) [qb9] := apart_one fun q hq => by have h1 := (ownsW.ltb oz q hq).1; have h2 := X21.hi; omega
          have ap_C_oz : Apart (blkW (.agg #[.bool gc, .slice s11 t11 u11])) [qb17] := apart_one fun q hq => by have h1 := (ownsW.ltb oz q hq).1; have h2 := C21.hi; omega
          have ap_V_oz : Apart (blkW (.agg #[.bool gc, .slice s11 t11 u11])) [qb21] := apart_one fun q hq => by have h1 := (ownsW.ltb oz q hq).1; have h2 := V21.hi; omega
          have ap_os_oz : Apart (blkP (.agg #[.bool h1, .slice s1 t1 u1, .bool m1, .slice p1 q1 r1, .int .i64 k1])) (blkW (.agg #[.bool gc, .slice s11 t11 u11])) := apart_of (fun k hk => (ownsP.ltb os21 k hk).2) (fun k hk => (ownsW.ltb oz k hk).1)
          have ap_oa_oz : Apart (blkP (.agg #[.bool h2, .slice s2 t2 u2, .bool m2, .slice p2 q2 r2, .int .i64 k2])) (blkW (.agg #[.bool gc, .slice s11 t11 u11])) := apart_of (fun k hk => (ownsP.ltb oa21 k hk).2) (fun k hk => (ownsW.ltb oz k hk).1)
          have ap_ox_oz : Apart (blkW (.agg #[.bool h4, .slice s4 t4 u4])) (blkW (.agg #[.bool gc, .slice s11 t11 u11])) := apart_of (fun k hk => (ownsW.ltb ox21 k hk).2) (fun k hk => (ownsW.ltb oz k hk).1)
          have ap_oc_oz : Apart (blkP (.agg #[.bool h8, .slice s8 t8 u8, .bool m8, .slice p8 q8 r8, .int .i64 k8])) (blkW (.agg #[.bool gc, .slice s11 t11 u11])) := apart_of (fun k hk => (ownsP.ltb oc21 k hk).2) (fun k hk => (ownsW.ltb oz k hk).1)
          have ap_ov_oz : Apart (blkW (.agg #[.bool h10, .slice s10 t10 u10])) (blkW (.agg #[.bool gc, .slice s11 t11 u11])) := apart_of (fun k hk => (ownsW.ltb ov21 k hk).2) (fun k hk => (ownsW.ltb oz k hk).1)
          replace oz := ownsW_mono oz B21.size
          have B22 := B21.trans (bb22.mono B21.size)
          have os22 := ownsP.below os21 bb22 (Nat.le_refl _)
          have S22 := S21.below bb22 (Nat.le_refl _)
          have oa22 := ownsP.below oa21 bb22 (Nat.le_refl _)
          have A22 := A21.below bb22 (Nat.le_refl _)
          have ox22 := ownsW.below ox21 bb22 (Nat.le_refl _)
          have X22 := X21.below bb22 (Nat.le_refl _)
          have oc22 := ownsP.below oc21 bb22 (Nat.le_refl _)
          have C22 := C21.below bb22 (Nat.le_refl _)
          have ov22 := ownsW.below ov21 bb22 (Nat.le_refl _)
          have V22 := V21.below bb22 (Nat.le_refl _)
          clear B21 os21 S21 oa21 A21 ox21 X21 oc21 C21 ov21 V21 bb22
          have oz22 := oz
          clear oz
          clear kC
          clear os22 oa22 S22 A22
          obtain ⟨w23, hw23⟩ : ∃ v, Hid (v = w22.alloc (.cells #[.bool gc, .slice s11 t11 u11] 27)) := ⟨_, rfl⟩
          have bb23 : Below w22.heap.size w22 w23 := by rw [hw23.out]; exact below1 _ _
          obtain ⟨qb23, hq23⟩ : ∃ v, Hid (v = w22.heap.size) := ⟨_, rfl⟩
          have Z23 : BoxL w23 w.heap.size qb23 [.bool gc, .slice s11 t11 u11] := by rw [hw23.out, hq23.out]; exact (BoxL.made w22 [.bool gc, .slice s11 t11 u11] 27).mono B22.size
          have sn23 : w23.heap.size = qb23 + 1 := by rw [hw23.out, hq23.out]; simp
          have B23 := B22.trans (bb23.mono B22.size)
          have ox23 := ownsW.below ox22 bb23 (Nat.le_refl _)
          have X23 := X22.below bb23 (Nat.le_refl _)
          have oc23 := ownsP.below oc22 bb23 (Nat.le_refl _)
          have C23 := C22.below bb23 (Nat.le_refl _)
          have ov23 := ownsW.below ov22 bb23 (Nat.le_refl _)
          have V23 := V22.below bb23 (Nat.le_refl _)
          have oz23 := ownsW.below oz22 bb23 (Nat.le_refl _)
          have ap_Z_ox : Apart (blkW (.agg #[.bool h4, .slice s4 t4 u4])) [qb23] := apart_one fun q hq => by rw [hq23.out]; have h1 := (ownsW.ltb ox22 q hq).2; omega
          have lt_X_Z : qb9 < qb23 := by rw [hq23.out]; exact X22.hi
          have ap_Z_oc : Apart (blkP (.agg #[.bool h8, .slice s8 t8 u8, .bool m8, .slice p8 q8 r8, .int .i64 k8])) [qb23] := apart_one fun q hq => by rw [hq23.out]; have h1 := (ownsP.ltb oc22 q hq).2; omega
          have lt_C_Z : qb17 < qb23 := by rw [hq23.out]; exact C22.hi
          have ap_Z_ov : Apart (blkW (.agg #[.bool h10, .slice s10 t10 u10])) [qb23] := apart_one fun q hq => by rw [hq23.out]; have h1 := (ownsW.ltb ov22 q hq).2; omega
          have lt_V_Z : qb21 < qb23 := by rw [hq23.out]; exact V22.hi
          have ap_Z_oz : Apart (blkW (.agg #[.bool gc, .slice s11 t11 u11])) [qb23] := apart_one fun q hq => by rw [hq23.out]; have h1 := (ownsW.ltb oz22 q hq).2; omega
          clear B22 ox22 X22 oc22 C22 ov22 V22 oz22 bb23
          have c_V_0 := V23.c 0 _ rfl
          have c_V_1 := V23.c 1 _ rfl
          have c_C_0 := C23.c 0 _ rfl
          have c_C_1 := C23.c 1 _ rfl
          have c_C_2 := C23.c 2 _ rfl
          have c_C_3 := C23.c 3 _ rfl
          have c_C_4 := C23.c 4 _ rfl
          rw [hw23.out] at c_V_0
          rw [hw23.out] at c_V_1
          rw [hw23.out] at c_C_0
          rw [hw23.out] at c_C_1
          rw [hw23.out] at c_C_2
          rw [hw23.out] at c_C_3
          rw [hw23.out] at c_C_4
          replace sn23 : Hid (w23.heap.size = qb23 + 1) := sn23
          go_wp2_with fail
          replace sn23 := sn23.out
          rw [← hw23.out]
          (try rw [← hq23.out])
          (try rw [← sn23])
          clear c_V_0 c_V_1 c_C_0 c_C_1 c_C_2 c_C_3 c_C_4
          clear hw23 hq23 sn23
          refine (kQ _ _ _ ov23.row oc23.row.x).mono ?_
          rintro e w24 ⟨rfl, bb24⟩
          have B24 := B23.trans (bb24.mono B23.size)
          have ox24 := ownsW.below ox23 bb24 (Nat.le_refl _)
          have X24 := X23.below bb24 (Nat.le_refl _)
          have oc24 := ownsP.below oc23 bb24 (Nat.le_refl _)
          have C24 := C23.below bb24 (Nat.le_refl _)
          have ov24 := ownsW.below ov23 bb24 (Nat.le_refl _)
          have V24 := V23.below bb24 (Nat.le_refl _)
          have oz24 := ownsW.below oz23 bb24 (Nat.le_refl _)
          have Z24 := Z23.below bb24 (Nat.le_refl _)
          clear B23 ox23 X23 oc23 C23 ov23 V23 oz23 Z23 bb24
          clear kQ
          clear ov24 oc24 V24 C24 oz24
          have h0 : ¬ t4 = 0 := by omega
          have hsg2 := hsg (by rw [hnx.out]; exact h0)
          subst hsg2
          rcases hd with rfl | rfl
          · skip
            have c_X_0 := X24.c 0 _ rfl
            have c_X_1 := X24.c 1 _ rfl
            have c_Z_0 := Z24.c 0 _ rfl
            have c_Z_1 := Z24.c 1 _ rfl
            go_wp2
            go_ret
            first | exact ⟨rfl, B24⟩ | exact ⟨rfl, B24.trans ((below1 _ _).mono B24.size)⟩
          · skip
            have c_X_0 := X24.c 0 _ rfl
            have c_X_1 := X24.c 1 _ rfl
            have c_Z_0 := Z24.c 0 _ rfl
            have c_Z_1 := Z24.c 1 _ rfl
            go_wp2
            go_ret
            first | exact ⟨rfl, B24⟩ | exact ⟨rfl, B24.trans ((below1 _ _).mono B24.size)⟩

theorem walkSpun (a0 : Option Addr) (len0 cap0 : Nat) (z0 : List Int) (w : World) (h : IsRow .u8 w a0 len0 cap0 z0) :
    Calls Try.prog 4 #[.slice a0 len0 cap0] w fun e w' => e = .returned (.bool true) ∧ Below w.heap.size w w' := by
  by_cases hl : len0 ≤ 1048576
  · exact spun_in a0 len0 cap0 z0 w hl (code_of h)
  · have k := fun W => big_yes a0 len0 cap0 W hl
    go_enter Try.func4, Try.ntmps4
    go_wp2_with fail
    refine (k _).mono ?_
    rintro e w ⟨rfl, rfl⟩
    go_wp2
    go_ret
    exact ⟨rfl, Below.refl _ _⟩

end Go.Proofs.Ytlpfjpbnedankaa
