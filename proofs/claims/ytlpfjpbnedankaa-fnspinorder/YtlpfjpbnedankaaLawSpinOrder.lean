/- FnSpinOrder: the walk. -/
import Derived.Test.YtlpfjpbnedankaaLawSpM
import Derived.Test.YtlpfjpbnedankaaDrP
import Derived.Test.YtlpfjpbnedankaaAt0
import Derived.Test.YtlpfjpbnedankaaSSpStep
import Derived.Test.YtlpfjpbnedankaaISpStep
import Derived.Test.YtlpfjpbnedankaaFB
namespace Go.Proofs.Ytlpfjpbnedankaa
open Go.RowKit
set_option linter.unusedSimpArgs false
set_option linter.unusedVariables false

theorem lenP_of {a r : Ph} {i d : Int} {o : Bool} (h : stepR a i d = (r, o)) (h0 : a.1.1.2.length ≤ 1048576 ∧ a.1.2.2.length ≤ 1048576) : r.1.1.2.length ≤ 1048576 ∧ r.1.2.2.length ≤ 1048576 := by
  have := stepR_len a i d h0.1 h0.2
  rw [h] at this
  exact this
set_option maxRecDepth 20000 in
set_option maxHeartbeats 12800000 in
theorem ord_in (a0 : Option Addr) (len cap : Nat) (zs : List Int) (w : World) (hlen : len ≤ 1048576) (hc : CodeIs w a0 len cap zs) :
    Calls Try.prog 5 #[.slice a0 len cap] w fun e w' => e = .returned (.bool true) ∧ Below w.heap.size w w' := by
  have B0_0 : Below w.heap.size w w := Below.refl _ _
  have B0 := B0_0
  clear B0_0 
  go_enter Try.func5, Try.ntmps5
  go_wp2_with fail
  refine (big_b a0 len cap _ hlen).mono ?_
  rintro e w1 ⟨rfl, bb1⟩
  have B1 := B0.trans (bb1.mono B0.size)
  clear B0 bb1
  go_wp2_with fail
  refine (drSpinStep a0 len cap zs _ hlen (hc.below B1)).mono ?_
  rintro e w2 ⟨v, s, i, d, rfl, os, l1, l2, bb2⟩
  obtain ⟨h1, s1, t1, u1, m1, p1, q1, r1, eq1⟩ := os.cell
  obtain ⟨k1, hk1⟩ : ∃ q, s.2 = q := ⟨_, rfl⟩
  rw [hk1] at eq1
  subst eq1
  replace hk1 : Hid (s.2 = k1) := hk1
  replace os := ownsP_mono os B1.size
  have B2 := B1.trans (bb2.mono B1.size)
  clear B1 bb2
  have os2 := os
  clear os
  obtain ⟨w3, hw3⟩ : ∃ v, Hid (v = w2.alloc (.cells #[.bool h1, .slice s1 t1 u1, .bool m1, .slice p1 q1 r1, .int .i64 k1] 34)) := ⟨_, rfl⟩
  have bb3 : Below w2.heap.size w2 w3 := by rw [hw3.out]; exact below1 _ _
  obtain ⟨qb3, hq3⟩ : ∃ v, Hid (v = w2.heap.size) := ⟨_, rfl⟩
  have S3 : BoxL w3 w.heap.size qb3 [.bool h1, .slice s1 t1 u1, .bool m1, .slice p1 q1 r1, .int .i64 k1] := by rw [hw3.out, hq3.out]; exact (BoxL.made w2 [.bool h1, .slice s1 t1 u1, .bool m1, .slice p1 q1 r1, .int .i64 k1] 34).mono B2.size
  have sn3 : w3.heap.size = qb3 + 1 := by rw [hw3.out, hq3.out]; simp
  have B3 := B2.trans (bb3.mono B2.size)
  have os3 := ownsP.below os2 bb3 (Nat.le_refl _)
  have ap_S_os : Apart (blkP (.agg #[.bool h1, .slice s1 t1 u1, .bool m1, .slice p1 q1 r1, .int .i64 k1])) [qb3] := apart_one fun q hq => by rw [hq3.out]; have h1 := (ownsP.ltb os2 q hq).2; omega
  clear B2 os2 bb3
  replace sn3 : Hid (w3.heap.size = qb3 + 1) := sn3
  go_wp2_with fail
  replace sn3 := sn3.out
  rw [← hw3.out]
  (try rw [← hq3.out])
  (try rw [← sn3])
  clear hw3 hq3 sn3
  refine (at0_b a0 len cap zs 5 _ hlen (by omega) (hc.below B3)).mono ?_
  rintro e w4 ⟨x, rfl, x0, x1, bb4⟩
  have B4 := B3.trans (bb4.mono B3.size)
  have os4 := ownsP.below os3 bb4 (Nat.le_refl _)
  have S4 := S3.below bb4 (Nat.le_refl _)
  clear B3 os3 S3 bb4
  have hx20 : 0 ≤ x % 20 ∧ x % 20 ≤ 19 := by omega
  go_wp2_with fail
  refine (at0_b a0 len cap zs 6 _ hlen (by omega) (hc.below B4)).mono ?_
  rintro e w5 ⟨y, rfl, y0, y1, bb5⟩
  have B5 := B4.trans (bb5.mono B4.size)
  have os5 := ownsP.below os4 bb5 (Nat.le_refl _)
  have S5 := S4.below bb5 (Nat.le_refl _)
  clear B4 os4 S4 bb5
  have lz : s.1.1.2.length ≤ 1048576 ∧ s.1.2.2.length ≤ 1048576 := by omega
  obtain ⟨j, hj⟩ : ∃ j, x % 20 = j := ⟨_, rfl⟩
  have hw1 : IntKind.i64.wrap (2 * (y % 2)) = 2 * (y % 2) := by rw [IntKind.wrap_i64]; omega
  have hw2 : IntKind.i64.wrap (1 - 2 * (y % 2)) = 1 - 2 * (y % 2) := by rw [IntKind.wrap_i64]; omega
  obtain ⟨e, he⟩ : ∃ e, 1 - 2 * (y % 2) = e := ⟨_, rfl⟩
  obtain ⟨⟨ra, o1⟩, h1h⟩ : ∃ q, stepR s i d = q := ⟨_, rfl⟩
  have lra := lenP_of h1h lz
  have k1k := fun v W (q : rowP W v s) => iSpinStep v s i d W q lz.1 lz.2
  rw [h1h] at k1k
  dsimp only at k1k
  obtain ⟨⟨rb, o2⟩, h2h⟩ : ∃ q, stepR ra j e = q := ⟨_, rfl⟩
  have lrb := lenP_of h2h lra
  have k2k := fun v W (q : rowP W v ra) => iSpinStep v ra j e W q lra.1 lra.2
  rw [h2h] at k2k
  dsimp only at k2k
  obtain ⟨⟨rc, o3⟩, h3h⟩ : ∃ q, stepR s j e = q := ⟨_, rfl⟩
  have lrc := lenP_of h3h lz
  have k3k := fun v W (q : rowP W v s) => iSpinStep v s j e W q lz.1 lz.2
  rw [h3h] at k3k
  dsimp only at k3k
  obtain ⟨⟨rd, o4⟩, h4h⟩ : ∃ q, stepR rc i d = q := ⟨_, rfl⟩
  have lrd := lenP_of h4h lrc
  have k4k := fun v W (q : rowP W v rc) => iSpinStep v rc i d W q lrc.1 lrc.2
  rw [h4h] at k4k
  dsimp only at k4k
  have kS := fun v W (q : rowP W v s) => sSpinStep v s i d W q lz.1 lz.2
  rw [h1h] at kS
  dsimp only at kS
  have c_S_0 := S5.c 0 _ rfl
  have c_S_1 := S5.c 1 _ rfl
  have c_S_2 := S5.c 2 _ rfl
  have c_S_3 := S5.c 3 _ rfl
  have c_S_4 := S5.c 4 _ rfl
  go_wp2_with fail
  refine (k1k _ _ os5.row).mono ?_
  rintro e w6 ⟨v, rfl, oa, bb6⟩
  clear c_S_0 c_S_1 c_S_2 c_S_3 c_S_4
  obtain ⟨h2, s2, t2, u2, m2, p2, q2, r2, eq2⟩ := oa.cell
  obtain ⟨k2, hk2⟩ : ∃ q, ra.2 = q := ⟨_, rfl⟩
  rw [hk2] at eq2
  subst eq2
  replace hk2 : Hid (ra.2 = k2) := hk2
  have ap_S_oa : Apart (blkP (.agg #[.bool h2, .slice s2 t2 u2, .bool m2, .slice p2 q2 r2, .int .i64 k2])) [qb3] := apart_one fun q hq => by have h1 := (ownsP.ltb oa q hq).1; have h2 := S5.hi; omega
  have ap_oa_os : Apart (blkP (.agg #[.bool h2, .slice s2 t2 u2, .bool m2, .slice p2 q2 r2, .int .i64 k2])) (blkP (.agg #[.bool h1, .slice s1 t1 u1, .bool m1, .slice p1 q1 r1, .int .i64 k1])) := Apart.symm (apart_of (fun k hk => (ownsP.ltb os5 k hk).2) (fun k hk => (ownsP.ltb oa k hk).1))
  replace oa := ownsP_mono oa B5.size
  have B6 := B5.trans (bb6.mono B5.size)
  have os6 := ownsP.below os5 bb6 (Nat.le_refl _)
  have S6 := S5.below bb6 (Nat.le_refl _)
  clear B5 os5 S5 bb6
  have oa6 := oa
  clear oa
  clear k1k
  obtain ⟨w7, hw7⟩ : ∃ v, Hid (v = w6.alloc (.cells #[.bool h2, .slice s2 t2 u2, .bool m2, .slice p2 q2 r2, .int .i64 k2] 34)) := ⟨_, rfl⟩
  have bb7 : Below w6.heap.size w6 w7 := by rw [hw7.out]; exact below1 _ _
  obtain ⟨qb7, hq7⟩ : ∃ v, Hid (v = w6.heap.size) := ⟨_, rfl⟩
  have A7 : BoxL w7 w.heap.size qb7 [.bool h2, .slice s2 t2 u2, .bool m2, .slice p2 q2 r2, .int .i64 k2] := by rw [hw7.out, hq7.out]; exact (BoxL.made w6 [.bool h2, .slice s2 t2 u2, .bool m2, .slice p2 q2 r2, .int .i64 k2] 34).mono B6.size
  have sn7 : w7.heap.size = qb7 + 1 := by rw [hw7.out, hq7.out]; simp
  have B7 := B6.trans (bb7.mono B6.size)
  have os7 := ownsP.below os6 bb7 (Nat.le_refl _)
  have S7 := S6.below bb7 (Nat.le_refl _)
  have oa7 := ownsP.below oa6 bb7 (Nat.le_refl _)
  have ap_A_os : Apart (blkP (.agg #[.bool h1, .slice s1 t1 u1, .bool m1, .slice p1 q1 r1, .int .i64 k1])) [qb7] := apart_one fun q hq => by rw [hq7.out]; have h1 := (ownsP.ltb os6 q hq).2; omega
  have lt_S_A : qb3 < qb7 := by rw [hq7.out]; exact S6.hi
  have ap_A_oa : Apart (blkP (.agg #[.bool h2, .slice s2 t2 u2, .bool m2, .slice p2 q2 r2, .int .i64 k2])) [qb7] := apart_one fun q hq => by rw [hq7.out]; have h1 := (ownsP.ltb oa6 q hq).2; omega
  clear B6 os6 S6 oa6 bb7
  replace sn7 : Hid (w7.heap.size = qb7 + 1) := sn7
  go_wp2_with fail
  replace sn7 := sn7.out
  rw [← hw7.out]
  (try rw [← hq7.out])
  (try rw [← sn7])
  clear hw7 hq7 sn7
  refine (k2k _ _ oa7.row).mono ?_
  rintro e w8 ⟨v, rfl, ob, bb8⟩
  obtain ⟨h3, s3, t3, u3, m3, p3, q3, r3, eq3⟩ := ob.cell
  obtain ⟨k3, hk3⟩ : ∃ q, rb.2 = q := ⟨_, rfl⟩
  rw [hk3] at eq3
  subst eq3
  replace hk3 : Hid (rb.2 = k3) := hk3
  have ap_S_ob : Apart (blkP (.agg #[.bool h3, .slice s3 t3 u3, .bool m3, .slice p3 q3 r3, .int .i64 k3])) [qb3] := apart_one fun q hq => by have h1 := (ownsP.ltb ob q hq).1; have h2 := S7.hi; omega
  have ap_A_ob : Apart (blkP (.agg #[.bool h3, .slice s3 t3 u3, .bool m3, .slice p3 q3 r3, .int .i64 k3])) [qb7] := apart_one fun q hq => by have h1 := (ownsP.ltb ob q hq).1; have h2 := A7.hi; omega
  have ap_ob_os : Apart (blkP (.agg #[.bool h3, .slice s3 t3 u3, .bool m3, .slice p3 q3 r3, .int .i64 k3])) (blkP (.agg #[.bool h1, .slice s1 t1 u1, .bool m1, .slice p1 q1 r1, .int .i64 k1])) := Apart.symm (apart_of (fun k hk => (ownsP.ltb os7 k hk).2) (fun k hk => (ownsP.ltb ob k hk).1))
  have ap_oa_ob : Apart (blkP (.agg #[.bool h2, .slice s2 t2 u2, .bool m2, .slice p2 q2 r2, .int .i64 k2])) (blkP (.agg #[.bool h3, .slice s3 t3 u3, .bool m3, .slice p3 q3 r3, .int .i64 k3])) := apart_of (fun k hk => (ownsP.ltb oa7 k hk).2) (fun k hk => (ownsP.ltb ob k hk).1)
  replace ob := ownsP_mono ob B7.size
  have B8 := B7.trans (bb8.mono B7.size)
  have os8 := ownsP.below os7 bb8 (Nat.le_refl _)
  have S8 := S7.below bb8 (Nat.le_refl _)
  have oa8 := ownsP.below oa7 bb8 (Nat.le_refl _)
  have A8 := A7.below bb8 (Nat.le_refl _)
  clear B7 os7 S7 oa7 A7 bb8
  have ob8 := ob
  clear ob
  clear k2k
  clear oa8
  have c_A_0 := A8.c 0 _ rfl
  have f_A_0 := A8.f 0 _ rfl
  have c_A_1 := A8.c 1 _ rfl
  have f_A_1 := A8.f 1 _ rfl
  have c_A_2 := A8.c 2 _ rfl
  have f_A_2 := A8.f 2 _ rfl
  have c_A_3 := A8.c 3 _ rfl
  have f_A_3 := A8.f 3 _ rfl
  have c_A_4 := A8.c 4 _ rfl
  have f_A_4 := A8.f 4 _ rfl
  have c_S_0 := S8.c 0 _ rfl
  have c_S_1 := S8.c 1 _ rfl
  have c_S_2 := S8.c 2 _ rfl
  have c_S_3 := S8.c 3 _ rfl
  have c_S_4 := S8.c 4 _ rfl
  obtain ⟨w9, hw9⟩ : ∃ v, v = ((((w8.setCell ⟨qb7, 0, none⟩ (.bool h3)).setCell ⟨qb7, 1, none⟩ (.slice s3 t3 u3)).setCell ⟨qb7, 2, none⟩ (.bool m3)).setCell ⟨qb7, 3, none⟩ (.slice p3 q3 r3)).setCell ⟨qb7, 4, none⟩ (.int .i64 k3) := ⟨_, rfl⟩
  have tn9 : Tn [qb7] w8 w9 := by rw [hw9]; exact (((((tnL w8 qb7 0 (.bool h3)).trans (tnL _ qb7 1 (.slice s3 t3 u3))).trans (tnL _ qb7 2 (.bool m3))).trans (tnL _ qb7 3 (.slice p3 q3 r3))).trans (tnL _ qb7 4 (.int .i64 k3)))
  have A9 : BoxL w9 w.heap.size qb7 [.bool h3, .slice s3 t3 u3, .bool m3, .slice p3 q3 r3, .int .i64 k3] := by rw [hw9]; exact (((((A8.set 0 (.bool h3) (by simp)).set 1 (.slice s3 t3 u3) (by simp)).set 2 (.bool m3) (by simp)).set 3 (.slice p3 q3 r3) (by simp)).set 4 (.int .i64 k3) (by simp))
  have blo9 := A8.lo
  have B9 := tn9.below B8 B8.size (fun q hq => by simp at hq; omega)
  have os9 := ownsP.tn os8 tn9 ap_A_os
  have S9 := S8.tn tn9 (not_one (by omega))
  have ob9 := ownsP.tn ob8 tn9 ap_A_ob
  clear B8 os8 S8 A8 ob8 tn9 blo9
  replace hw9 : Hid (w9 = _) := hw9
  have e_S_0 := S9.c 0 _ rfl
  rw [hw9.out] at e_S_0
  have e_S_1 := S9.c 1 _ rfl
  rw [hw9.out] at e_S_1
  have e_S_2 := S9.c 2 _ rfl
  rw [hw9.out] at e_S_2
  have e_S_3 := S9.c 3 _ rfl
  rw [hw9.out] at e_S_3
  have e_S_4 := S9.c 4 _ rfl
  rw [hw9.out] at e_S_4
  go_wp2_with fail
  rw [← hw9.out]
  clear c_A_0 f_A_0 c_A_1 f_A_1 c_A_2 f_A_2 c_A_3 f_A_3 c_A_4 f_A_4 c_S_0 c_S_1 c_S_2 c_S_3 c_S_4 e_S_0 e_S_1 e_S_2 e_S_3 e_S_4
  clear hw9
  refine (k3k _ _ os9.row).mono ?_
  rintro e w10 ⟨v, rfl, od, bb10⟩
  obtain ⟨h4, s4, t4, u4, m4, p4, q4, r4, eq4⟩ := od.cell
  obtain ⟨k4, hk4⟩ : ∃ q, rc.2 = q := ⟨_, rfl⟩
  rw [hk4] at eq4
  subst eq4
  replace hk4 : Hid (rc.2 = k4) := hk4
  have ap_S_od : Apart (blkP (.agg #[.bool h4, .slice s4 t4 u4, .bool m4, .slice p4 q4 r4, .int .i64 k4])) [qb3] := apart_one fun q hq => by have h1 := (ownsP.ltb od q hq).1; have h2 := S9.hi; omega
  have ap_A_od : Apart (blkP (.agg #[.bool h4, .slice s4 t4 u4, .bool m4, .slice p4 q4 r4, .int .i64 k4])) [qb7] := apart_one fun q hq => by have h1 := (ownsP.ltb od q hq).1; have h2 := A9.hi; omega
  have ap_od_os : Apart (blkP (.agg #[.bool h4, .slice s4 t4 u4, .bool m4, .slice p4 q4 r4, .int .i64 k4])) (blkP (.agg #[.bool h1, .slice s1 t1 u1, .bool m1, .slice p1 q1 r1, .int .i64 k1])) := Apart.symm (apart_of (fun k hk => (ownsP.ltb os9 k hk).2) (fun k hk => (ownsP.ltb od k hk).1))
  have ap_ob_od : Apart (blkP (.agg #[.bool h3, .slice s3 t3 u3, .bool m3, .slice p3 q3 r3, .int .i64 k3])) (blkP (.agg #[.bool h4, .slice s4 t4 u4, .bool m4, .slice p4 q4 r4, .int .i64 k4])) := apart_of (fun k hk => (ownsP.ltb ob9 k hk).2) (fun k hk => (ownsP.ltb od k hk).1)
  replace od := ownsP_mono od B9.size
  have B10 := B9.trans (bb10.mono B9.size)
  have os10 := ownsP.below os9 bb10 (Nat.le_refl _)
  have S10 := S9.below bb10 (Nat.le_refl _)
  have A10 := A9.below bb10 (Nat.le_refl _)
  have ob10 := ownsP.below ob9 bb10 (Nat.le_refl _)
  clear B9 os9 S9 A9 ob9 bb10
  have od10 := od
  clear od
  clear k3k
  obtain ⟨w11, hw11⟩ : ∃ v, Hid (v = w10.alloc (.cells #[.bool h4, .slice s4 t4 u4, .bool m4, .slice p4 q4 r4, .int .i64 k4] 34)) := ⟨_, rfl⟩
  have bb11 : Below w10.heap.size w10 w11 := by rw [hw11.out]; exact below1 _ _
  obtain ⟨qb11, hq11⟩ : ∃ v, Hid (v = w10.heap.size) := ⟨_, rfl⟩
  have C11 : BoxL w11 w.heap.size qb11 [.bool h4, .slice s4 t4 u4, .bool m4, .slice p4 q4 r4, .int .i64 k4] := by rw [hw11.out, hq11.out]; exact (BoxL.made w10 [.bool h4, .slice s4 t4 u4, .bool m4, .slice p4 q4 r4, .int .i64 k4] 34).mono B10.size
  have sn11 : w11.heap.size = qb11 + 1 := by rw [hw11.out, hq11.out]; simp
  have B11 := B10.trans (bb11.mono B10.size)
  have os11 := ownsP.below os10 bb11 (Nat.le_refl _)
  have S11 := S10.below bb11 (Nat.le_refl _)
  have A11 := A10.below bb11 (Nat.le_refl _)
  have ob11 := ownsP.below ob10 bb11 (Nat.le_refl _)
  have od11 := ownsP.below od10 bb11 (Nat.le_refl _)
  have ap_C_os : Apart (blkP (.agg #[.bool h1, .slice s1 t1 u1, .bool m1, .slice p1 q1 r1, .int .i64 k1])) [qb11] := apart_one fun q hq => by rw [hq11.out]; have h1 := (ownsP.ltb os10 q hq).2; omega
  have lt_S_C : qb3 < qb11 := by rw [hq11.out]; exact S10.hi
  have lt_A_C : qb7 < qb11 := by rw [hq11.out]; exact A10.hi
  have ap_C_ob : Apart (blkP (.agg #[.bool h3, .slice s3 t3 u3, .bool m3, .slice p3 q3 r3, .int .i64 k3])) [qb11] := apart_one fun q hq => by rw [hq11.out]; have h1 := (ownsP.ltb ob10 q hq).2; omega
  have ap_C_od : Apart (blkP (.agg #[.bool h4, .slice s4 t4 u4, .bool m4, .slice p4 q4 r4, .int .i64 k4])) [qb11] := apart_one fun q hq => by rw [hq11.out]; have h1 := (ownsP.ltb od10 q hq).2; omega
  clear B10 os10 S10 A10 ob10 od10 bb11
  replace sn11 : Hid (w11.heap.size = qb11 + 1) := sn11
  go_wp2_with fail
  replace sn11 := sn11.out
  rw [← hw11.out]
  (try rw [← hq11.out])
  (try rw [← sn11])
  clear hw11 hq11 sn11
  refine (k4k _ _ od11.row).mono ?_
  rintro e w12 ⟨v, rfl, oe, bb12⟩
  obtain ⟨h5, s5, t5, u5, m5, p5, q5, r5, eq5⟩ := oe.cell
  obtain ⟨k5, hk5⟩ : ∃ q, rd.2 = q := ⟨_, rfl⟩
  rw [hk5] at eq5
  subst eq5
  replace hk5 : Hid (rd.2 = k5) := hk5
  have ap_S_oe : Apart (blkP (.agg #[.bool h5, .slice s5 t5 u5, .bool m5, .slice p5 q5 r5, .int .i64 k5])) [qb3] := apart_one fun q hq => by have h1 := (ownsP.ltb oe q hq).1; have h2 := S11.hi; omega
  have ap_A_oe : Apart (blkP (.agg #[.bool h5, .slice s5 t5 u5, .bool m5, .slice p5 q5 r5, .int .i64 k5])) [qb7] := apart_one fun q hq => by have h1 := (ownsP.ltb oe q hq).1; have h2 := A11.hi; omega
  have ap_C_oe : Apart (blkP (.agg #[.bool h5, .slice s5 t5 u5, .bool m5, .slice p5 q5 r5, .int .i64 k5])) [qb11] := apart_one fun q hq => by have h1 := (ownsP.ltb oe q hq).1; have h2 := C11.hi; omega
  have ap_oe_os : Apart (blkP (.agg #[.bool h5, .slice s5 t5 u5, .bool m5, .slice p5 q5 r5, .int .i64 k5])) (blkP (.agg #[.bool h1, .slice s1 t1 u1, .bool m1, .slice p1 q1 r1, .int .i64 k1])) := Apart.symm (apart_of (fun k hk => (ownsP.ltb os11 k hk).2) (fun k hk => (ownsP.ltb oe k hk).1))
  have ap_ob_oe : Apart (blkP (.agg #[.bool h3, .slice s3 t3 u3, .bool m3, .slice p3 q3 r3, .int .i64 k3])) (blkP (.agg #[.bool h5, .slice s5 t5 u5, .bool m5, .slice p5 q5 r5, .int .i64 k5])) := apart_of (fun k hk => (ownsP.ltb ob11 k hk).2) (fun k hk => (ownsP.ltb oe k hk).1)
  have ap_od_oe : Apart (blkP (.agg #[.bool h4, .slice s4 t4 u4, .bool m4, .slice p4 q4 r4, .int .i64 k4])) (blkP (.agg #[.bool h5, .slice s5 t5 u5, .bool m5, .slice p5 q5 r5, .int .i64 k5])) := apart_of (fun k hk => (ownsP.ltb od11 k hk).2) (fun k hk => (ownsP.ltb oe k hk).1)
  replace oe := ownsP_mono oe B11.size
  have B12 := B11.trans (bb12.mono B11.size)
  have os12 := ownsP.below os11 bb12 (Nat.le_refl _)
  have S12 := S11.below bb12 (Nat.le_refl _)
  have A12 := A11.below bb12 (Nat.le_refl _)
  have ob12 := ownsP.below ob11 bb12 (Nat.le_refl _)
  have od12 := ownsP.below od11 bb12 (Nat.le_refl _)
  have C12 := C11.below bb12 (Nat.le_refl _)
  clear B11 os11 S11 A11 ob11 od11 C11 bb12
  have oe12 := oe
  clear oe
  clear k4k
  clear od12
  have c_C_0 := C12.c 0 _ rfl
  have f_C_0 := C12.f 0 _ rfl
  have c_C_1 := C12.c 1 _ rfl
  have f_C_1 := C12.f 1 _ rfl
  have c_C_2 := C12.c 2 _ rfl
  have f_C_2 := C12.f 2 _ rfl
  have c_C_3 := C12.c 3 _ rfl
  have f_C_3 := C12.f 3 _ rfl
  have c_C_4 := C12.c 4 _ rfl
  have f_C_4 := C12.f 4 _ rfl
  have c_S_0 := S12.c 0 _ rfl
  have c_S_1 := S12.c 1 _ rfl
  have c_S_2 := S12.c 2 _ rfl
  have c_S_3 := S12.c 3 _ rfl
  have c_S_4 := S12.c 4 _ rfl
  obtain ⟨w13, hw13⟩ : ∃ v, v = ((((w12.setCell ⟨qb11, 0, none⟩ (.bool h5)).setCell ⟨qb11, 1, none⟩ (.slice s5 t5 u5)).setCell ⟨qb11, 2, none⟩ (.bool m5)).setCell ⟨qb11, 3, none⟩ (.slice p5 q5 r5)).setCell ⟨qb11, 4, none⟩ (.int .i64 k5) := ⟨_, rfl⟩
  have tn13 : Tn [qb11] w12 w13 := by rw [hw13]; exact (((((tnL w12 qb11 0 (.bool h5)).trans (tnL _ qb11 1 (.slice s5 t5 u5))).trans (tnL _ qb11 2 (.bool m5))).trans (tnL _ qb11 3 (.slice p5 q5 r5))).trans (tnL _ qb11 4 (.int .i64 k5)))
  have C13 : BoxL w13 w.heap.size qb11 [.bool h5, .slice s5 t5 u5, .bool m5, .slice p5 q5 r5, .int .i64 k5] := by rw [hw13]; exact (((((C12.set 0 (.bool h5) (by simp)).set 1 (.slice s5 t5 u5) (by simp)).set 2 (.bool m5) (by simp)).set 3 (.slice p5 q5 r5) (by simp)).set 4 (.int .i64 k5) (by simp))
  have blo13 := C12.lo
  have B13 := tn13.below B12 B12.size (fun q hq => by simp at hq; omega)
  have os13 := ownsP.tn os12 tn13 ap_C_os
  have S13 := S12.tn tn13 (not_one (by omega))
  have A13 := A12.tn tn13 (not_one (by omega))
  have ob13 := ownsP.tn ob12 tn13 ap_C_ob
  have oe13 := ownsP.tn oe12 tn13 ap_C_oe
  clear B12 os12 S12 A12 ob12 C12 oe12 tn13 blo13
  replace hw13 : Hid (w13 = _) := hw13
  have e_S_0 := S13.c 0 _ rfl
  rw [hw13.out] at e_S_0
  have e_S_1 := S13.c 1 _ rfl
  rw [hw13.out] at e_S_1
  have e_S_2 := S13.c 2 _ rfl
  rw [hw13.out] at e_S_2
  have e_S_3 := S13.c 3 _ rfl
  rw [hw13.out] at e_S_3
  have e_S_4 := S13.c 4 _ rfl
  rw [hw13.out] at e_S_4
  go_wp2_with fail
  rw [← hw13.out]
  clear c_C_0 f_C_0 c_C_1 f_C_1 c_C_2 f_C_2 c_C_3 f_C_3 c_C_4 f_C_4 c_S_0 c_S_1 c_S_2 c_S_3 c_S_4 e_S_0 e_S_1 e_S_2 e_S_3 e_S_4
  clear hw13
  refine (kS _ _ os13.row).mono ?_
  rintro e w14 ⟨v, rfl, of, bb14⟩
  obtain ⟨h6, s6, t6, u6, m6, p6, q6, r6, eq6⟩ := of.cell
  obtain ⟨k6, hk6⟩ : ∃ q, ra.2 = q := ⟨_, rfl⟩
  rw [hk6] at eq6
  subst eq6
  replace hk6 : Hid (ra.2 = k6) := hk6
  have ap_S_of : Apart (blkP (.agg #[.bool h6, .slice s6 t6 u6, .bool m6, .slice p6 q6 r6, .int .i64 k6])) [qb3] := apart_one fun q hq => by have h1 := (ownsP.ltb of q hq).1; have h2 := S13.hi; omega
  have ap_A_of : Apart (blkP (.agg #[.bool h6, .slice s6 t6 u6, .bool m6, .slice p6 q6 r6, .int .i64 k6])) [qb7] := apart_one fun q hq => by have h1 := (ownsP.ltb of q hq).1; have h2 := A13.hi; omega
  have ap_C_of : Apart (blkP (.agg #[.bool h6, .slice s6 t6 u6, .bool m6, .slice p6 q6 r6, .int .i64 k6])) [qb11] := apart_one fun q hq => by have h1 := (ownsP.ltb of q hq).1; have h2 := C13.hi; omega
  have ap_of_os : Apart (blkP (.agg #[.bool h6, .slice s6 t6 u6, .bool m6, .slice p6 q6 r6, .int .i64 k6])) (blkP (.agg #[.bool h1, .slice s1 t1 u1, .bool m1, .slice p1 q1 r1, .int .i64 k1])) := Apart.symm (apart_of (fun k hk => (ownsP.ltb os13 k hk).2) (fun k hk => (ownsP.ltb of k hk).1))
  have ap_ob_of : Apart (blkP (.agg #[.bool h3, .slice s3 t3 u3, .bool m3, .slice p3 q3 r3, .int .i64 k3])) (blkP (.agg #[.bool h6, .slice s6 t6 u6, .bool m6, .slice p6 q6 r6, .int .i64 k6])) := apart_of (fun k hk => (ownsP.ltb ob13 k hk).2) (fun k hk => (ownsP.ltb of k hk).1)
  have ap_oe_of : Apart (blkP (.agg #[.bool h5, .slice s5 t5 u5, .bool m5, .slice p5 q5 r5, .int .i64 k5])) (blkP (.agg #[.bool h6, .slice s6 t6 u6, .bool m6, .slice p6 q6 r6, .int .i64 k6])) := apart_of (fun k hk => (ownsP.ltb oe13 k hk).2) (fun k hk => (ownsP.ltb of k hk).1)
  replace of := ownsP_mono of B13.size
  have B14 := B13.trans (bb14.mono B13.size)
  have os14 := ownsP.below os13 bb14 (Nat.le_refl _)
  have S14 := S13.below bb14 (Nat.le_refl _)
  have A14 := A13.below bb14 (Nat.le_refl _)
  have ob14 := ownsP.below ob13 bb14 (Nat.le_refl _)
  have C14 := C13.below bb14 (Nat.le_refl _)
  have oe14 := ownsP.below oe13 bb14 (Nat.le_refl _)
  clear B13 os13 S13 A13 ob13 C13 oe13 bb14
  have of14 := of
  clear of
  clear kS
  clear of14 os14
  cases o1
  · skip
    go_wp2
    go_ret
    first | exact ⟨rfl, B14⟩ | exact ⟨rfl, B14.trans ((below1 _ _).mono B14.size)⟩
  · skip
    cases o2
    · skip
      go_wp2
      go_ret
      first | exact ⟨rfl, B14⟩ | exact ⟨rfl, B14.trans ((below1 _ _).mono B14.size)⟩
    · skip
      cases o3
      · skip
        go_wp2
        go_ret
        first | exact ⟨rfl, B14⟩ | exact ⟨rfl, B14.trans ((below1 _ _).mono B14.size)⟩
      · skip
        cases o4
        · skip
          go_wp2
          go_ret
          first | exact ⟨rfl, B14⟩ | exact ⟨rfl, B14.trans ((below1 _ _).mono B14.size)⟩
        · skip
          obtain ⟨k, rfl, s1⟩ := step_yes h1h
          obtain ⟨l, rfl, s2⟩ := step_yes h2h
          obtain ⟨l2, e2, s3⟩ := step_yes h3h
          obtain rfl : l = l2 := by omega
          obtain ⟨k2x, e3, s4⟩ := step_yes h4h
          obtain rfl : k = k2x := by omega
          obtain ⟨q1, q2, q3, q4⟩ := ord_same s1 s2 s3 s4
          have okb := okP_yes s2.okr
          have oks := okP_yes s1.oka
          have hk30 := s1.hk
          have hl30 := s2.hk
          have kX := fun u v W (r1 : rowW W u rb.1.1) (r2 : rowW W v rd.1.1) => sameWh u v _ _ W r1 r2 lrb.1
          have kY := fun u v W (r1 : rowW W u rb.1.2) (r2 : rowW W v rd.1.2) => sameWh u v _ _ W r1 r2 lrb.2
          rw [decide_eq_true q1] at kX
          rw [decide_eq_true q2] at kY
          have hb3 : k3 = k1 + k + l := by have e1 := hk1.out; have e2 := hk3.out; omega
          have hb5 : k5 = k1 + k + l := by have e1 := hk3.out; have e2 := hk5.out; omega
          have hbd : 0 ≤ k1 ∧ k1 ≤ 2000 := by have e1 := hk1.out; omega
          have hw5 : IntKind.i64.wrap (k1 + (k : Int)) = k1 + (k : Int) := by rw [IntKind.wrap_i64]; omega
          have hw6 : IntKind.i64.wrap (k1 + (k : Int) + (l : Int)) = k1 + (k : Int) + (l : Int) := by rw [IntKind.wrap_i64]; omega
          replace hb3 : Hid (k3 = _) := hb3
          replace hb5 : Hid (k5 = _) := hb5
          have hk35 : (k3 == k5) = true := by rw [hb3.out, hb5.out]; simp
          clear q1 q2 q3 q4 h1h h2h h3h h4h s1 s2 s3 s4 okb oks
          obtain ⟨w15, hw15⟩ : ∃ v, Hid (v = w14.alloc (.cells #[.bool h6, .slice s6 t6 u6, .bool m6, .slice p6 q6 r6, .int .i64 k6] 34)) := ⟨_, rfl⟩
          have bb15 : Below w14.heap.size w14 w15 := by rw [hw15.out]; exact below1 _ _
          obtain ⟨qb15, hq15⟩ : ∃ v, Hid (v = w14.heap.size) := ⟨_, rfl⟩
          have G15 : BoxL w15 w.heap.size qb15 [.bool h6, .slice s6 t6 u6, .bool m6, .slice p6 q6 r6, .int .i64 k6] := by rw [hw15.out, hq15.out]; exact (BoxL.made w14 [.bool h6, .slice s6 t6 u6, .bool m6, .slice p6 q6 r6, .int .i64 k6] 34).mono B14.size
          have sn15 : w15.heap.size = qb15 + 1 := by rw [hw15.out, hq15.out]; simp
          have B15 := B14.trans (bb15.mono B14.size)
          have S15 := S14.below bb15 (Nat.le_refl _)
          have A15 := A14.below bb15 (Nat.le_refl _)
          have ob15 := ownsP.below ob14 bb15 (Nat.le_refl _)
          have C15 := C14.below bb15 (Nat.le_refl _)
          have oe15 := ownsP.below oe14 bb15 (Nat.le_refl _)
          have lt_S_G : qb3 < qb15 := by rw [hq15.out]; exact S14.hi
          have lt_A_G : qb7 < qb15 := by rw [hq15.out]; exact A14.hi
          have ap_G_ob : Apart (blkP (.agg #[.bool h3, .slice s3 t3 u3, .bool m3, .slice p3 q3 r3, .int .i64 k3])) [qb15] := apart_one fun q hq => by rw [hq15.out]; have h1 := (ownsP.ltb ob14 q hq).2; omega
          have lt_C_G : qb11 < qb15 := by rw [hq15.out]; exact C14.hi
          have ap_G_oe : Apart (blkP (.agg #[.bool h5, .slice s5 t5 u5, .bool m5, .slice p5 q5 r5, .int .i64 k5])) [qb15] := apart_one fun q hq => by rw [hq15.out]; have h1 := (ownsP.ltb oe14 q hq).2; omega
          clear B14 S14 A14 ob14 C14 oe14 bb15
          have c_A_0 := A15.c 0 _ rfl
          have c_A_1 := A15.c 1 _ rfl
          have c_A_2 := A15.c 2 _ rfl
          have c_A_3 := A15.c 3 _ rfl
          have c_A_4 := A15.c 4 _ rfl
          have c_C_0 := C15.c 0 _ rfl
          have c_C_1 := C15.c 1 _ rfl
          have c_C_2 := C15.c 2 _ rfl
          have c_C_3 := C15.c 3 _ rfl
          have c_C_4 := C15.c 4 _ rfl
          rw [hw15.out] at c_A_0
          rw [hw15.out] at c_A_1
          rw [hw15.out] at c_A_2
          rw [hw15.out] at c_A_3
          rw [hw15.out] at c_A_4
          rw [hw15.out] at c_C_0
          rw [hw15.out] at c_C_1
          rw [hw15.out] at c_C_2
          rw [hw15.out] at c_C_3
          rw [hw15.out] at c_C_4
          replace sn15 : Hid (w15.heap.size = qb15 + 1) := sn15
          go_wp2_with fail
          replace sn15 := sn15.out
          rw [← hw15.out]
          (try rw [← hq15.out])
          (try rw [← sn15])
          clear c_A_0 c_A_1 c_A_2 c_A_3 c_A_4 c_C_0 c_C_1 c_C_2 c_C_3 c_C_4
          clear hw15 hq15 sn15
          refine (kX _ _ _ ob15.row.x oe15.row.x).mono ?_
          rintro e w16 ⟨rfl, bb16⟩
          have B16 := B15.trans (bb16.mono B15.size)
          have S16 := S15.below bb16 (Nat.le_refl _)
          have A16 := A15.below bb16 (Nat.le_refl _)
          have ob16 := ownsP.below ob15 bb16 (Nat.le_refl _)
          have C16 := C15.below bb16 (Nat.le_refl _)
          have oe16 := ownsP.below oe15 bb16 (Nat.le_refl _)
          have G16 := G15.below bb16 (Nat.le_refl _)
          clear B15 S15 A15 ob15 C15 oe15 G15 bb16
          have c_A_0 := A16.c 0 _ rfl
          have c_A_1 := A16.c 1 _ rfl
          have c_A_2 := A16.c 2 _ rfl
          have c_A_3 := A16.c 3 _ rfl
          have c_A_4 := A16.c 4 _ rfl
          have c_C_0 := C16.c 0 _ rfl
          have c_C_1 := C16.c 1 _ rfl
          have c_C_2 := C16.c 2 _ rfl
          have c_C_3 := C16.c 3 _ rfl
          have c_C_4 := C16.c 4 _ rfl
          go_wp2_with fail
          refine (kY _ _ _ ob16.row.y oe16.row.y).mono ?_
          rintro e w17 ⟨rfl, bb17⟩
          clear c_A_0 c_A_1 c_A_2 c_A_3 c_A_4 c_C_0 c_C_1 c_C_2 c_C_3 c_C_4
          have B17 := B16.trans (bb17.mono B16.size)
          have S17 := S16.below bb17 (Nat.le_refl _)
          have A17 := A16.below bb17 (Nat.le_refl _)
          have ob17 := ownsP.below ob16 bb17 (Nat.le_refl _)
          have C17 := C16.below bb17 (Nat.le_refl _)
          have oe17 := ownsP.below oe16 bb17 (Nat.le_refl _)
          have G17 := G16.below bb17 (Nat.le_refl _)
          clear B16 S16 A16 ob16 C16 oe16 G16 bb17
          clear kX kY
          have ez : (k3 == k1 + (k : Int) + (l : Int)) = true := by rw [hb3.out]; simp
          have c_A_0 := A17.c 0 _ rfl
          have c_A_1 := A17.c 1 _ rfl
          have c_A_2 := A17.c 2 _ rfl
          have c_A_3 := A17.c 3 _ rfl
          have c_A_4 := A17.c 4 _ rfl
          have c_C_0 := C17.c 0 _ rfl
          have c_C_1 := C17.c 1 _ rfl
          have c_C_2 := C17.c 2 _ rfl
          have c_C_3 := C17.c 3 _ rfl
          have c_C_4 := C17.c 4 _ rfl
          have c_S_0 := S17.c 0 _ rfl
          have c_S_1 := S17.c 1 _ rfl
          have c_S_2 := S17.c 2 _ rfl
          have c_S_3 := S17.c 3 _ rfl
          have c_S_4 := S17.c 4 _ rfl
          go_wp2
          go_ret
          first | exact ⟨rfl, B17⟩ | exact ⟨rfl, B17.trans ((below1 _ _).mono B17.size)⟩

theorem walkSpinOrder (a0 : Option Addr) (len0 cap0 : Nat) (z0 : List Int) (w : World) (h : IsRow .u8 w a0 len0 cap0 z0) :
    Calls Try.prog 5 #[.slice a0 len0 cap0] w fun e w' => e = .returned (.bool true) ∧ Below w.heap.size w w' := by
  by_cases hl : len0 ≤ 1048576
  · exact ord_in a0 len0 cap0 z0 w hl (code_of h)
  · have k := fun W => big_yes a0 len0 cap0 W hl
    go_enter Try.func5, Try.ntmps5
    go_wp2_with fail
    refine (k _).mono ?_
    rintro e w ⟨rfl, rfl⟩
    go_wp2
    go_ret
    exact ⟨rfl, Below.refl _ _⟩

end Go.Proofs.Ytlpfjpbnedankaa
