/- Draws of a Spin. -/
import Derived.Test.YtlpfjpbnedankaaDrX
import Derived.Test.YtlpfjpbnedankaaDrW
import Derived.Test.YtlpfjpbnedankaaFB
namespace Go.Proofs.Ytlpfjpbnedankaa
open Go.RowKit
set_option linter.unusedSimpArgs false
set_option linter.unusedVariables false

def DrawnP (w : World) (B : Nat) (e : Ending) (w' : World) : Prop := ∃ v a, e = .returned v ∧ ownsP w' w.heap.size v a ∧ a.1.1.2.length ≤ 98 ∧ a.1.2.2.length ≤ 98 ∧ CurAt w' B ∧ w.grownBy w' (some B)
def DrawnPII (w : World) (e : Ending) (w' : World) : Prop := ∃ v a i d, e = .returned (.tuple #[v, .int .i64 i, .int .i64 d]) ∧ ownsP w' w.heap.size v a ∧ a.1.1.2.length ≤ 98 ∧ a.1.2.2.length ≤ 98 ∧ Below w.heap.size w w'
set_option maxRecDepth 20000 in
set_option maxHeartbeats 6400000 in
theorem drP (B : Nat) (w : World) (hc : CurAt w B) :
    Calls Try.prog 42 #[.pointer (some ⟨B, 0, none⟩)] w (DrawnP w B) := by
  have hB := hc.lt
  have B0_0 : Below w.heap.size w w := Below.refl _ _
  obtain ⟨ww1, hww1⟩ : ∃ v, v = w.alloc (.cells #[.bool false, .slice none 0 0, .bool false, .slice none 0 0, .int .i64 0] 34) := ⟨_, rfl⟩
  have sz1 : ww1.heap.size = w.heap.size + 1 := by rw [hww1]; simp
  have bw1 : Below w.heap.size w ww1 := by rw [hww1]; exact below1 _ _
  have B0_1 := B0_0.trans (bw1.mono B0_0.size)
  have R0_1 : BoxL ww1 w.heap.size w.heap.size [.bool false, .slice none 0 0, .bool false, .slice none 0 0, .int .i64 0] := by rw [hww1]; have h := BoxL.made w [.bool false, .slice none 0 0, .bool false, .slice none 0 0, .int .i64 0] 34; exact h
  have R0 := R0_1
  have B0 := grown_of B0_1 (some B)
  have cu0 := hc.below B0_1 hc.lt
  have lt_cu := hc.lt
  clear B0_0 B0_1 bw1 R0_1
  clear hc
  go_enter Try.func42, Try.ntmps42
  go_wp2_with fail
  have hvv : w.alloc (.cells #[.bool false, .slice none 0 0, .bool false, .slice none 0 0, .int .i64 0] 34) = ww1 := by rw [hww1]
  rw [hvv]
  clear hvv hww1 
  have hz0 : w.heap.size + 1 ≤ ww1.heap.size := by omega
  clear sz1
  have hlt := cu0.lt
  refine (drInt B _ cu0).mono ?_
  rintro e w1 ⟨v, a1, rfl, oa, l1, cc, gg⟩
  obtain ⟨h1, s1, t1, u1, rfl⟩ := oa.cell
  have ap_R_oa : Apart (blkW (.agg #[.bool h1, .slice s1 t1 u1])) [w.heap.size] := apart_one fun q hq => by have h1 := (ownsW.ltb oa q hq).1; have h2 := R0.hi; omega
  have ap_cu_oa : Apart (blkW (.agg #[.bool h1, .slice s1 t1 u1])) [B] := apart_one fun q hq => by have h1 := (ownsW.ltb oa q hq).1; have h2 := cu0.lt; omega
  replace oa := ownsW_mono oa B0.size
  have B1 := grown_trans B0 gg
  have R1 := R0.tn (Tn.of_grown gg) (by simp; omega)
  have cu1 := cc
  clear B0 R0 cu0 gg cc hlt
  have oa1 := oa
  clear oa
  go_wp2_with fail
  have hlt := cu1.lt
  refine (drInt B _ cu1).mono ?_
  rintro e w2 ⟨v, a2, rfl, ob, l2, cc, gg⟩
  obtain ⟨h2, s2, t2, u2, rfl⟩ := ob.cell
  have ap_R_ob : Apart (blkW (.agg #[.bool h2, .slice s2 t2 u2])) [w.heap.size] := apart_one fun q hq => by have h1 := (ownsW.ltb ob q hq).1; have h2 := R1.hi; omega
  have ap_cu_ob : Apart (blkW (.agg #[.bool h2, .slice s2 t2 u2])) [B] := apart_one fun q hq => by have h1 := (ownsW.ltb ob q hq).1; have h2 := cu1.lt; omega
  have ap_oa_ob : Apart (blkW (.agg #[.bool h1, .slice s1 t1 u1])) (blkW (.agg #[.bool h2, .slice s2 t2 u2])) := apart_of (fun k hk => (ownsW.ltb oa1 k hk).2) (fun k hk => (ownsW.ltb ob k hk).1)
  replace ob := ownsW_mono ob B1.size
  have B2 := grown_trans B1 gg
  have R2 := R1.tn (Tn.of_grown gg) (by simp; omega)
  have cu2 := cc
  have oa2 := ownsW.tn oa1 (Tn.of_grown gg) ap_cu_oa
  clear B1 R1 cu1 oa1 gg cc hlt
  have ob2 := ob
  clear ob
  go_wp2_with fail
  have hlt := cu2.lt
  refine (pickAny B _ 4 4 _ _ _ (cu2.alloc _) (by omega) (heap_alloc_new _ _) rfl (by rfl) (by omega) (by omega)).mono ?_
  rintro e w3 ⟨x, rfl, cc, gg0⟩
  have gg := grown_trans (grown_of (below1 w2 (.cells #[.int .i64 0, .int .i64 0, .int .i64 5, .int .i64 1990] 3)) (some B)) gg0
  clear gg0
  have B3 := grown_trans B2 gg
  have R3 := R2.tn (Tn.of_grown gg) (by simp; omega)
  have cu3 := cc
  have oa3 := ownsW.tn oa2 (Tn.of_grown gg) ap_cu_oa
  have ob3 := ownsW.tn ob2 (Tn.of_grown gg) ap_cu_ob
  clear B2 R2 cu2 oa2 ob2 gg cc hlt
  obtain ⟨w4, hw4⟩ : ∃ v, Hid (v = w3.alloc (.cells #[.bool h1, .slice s1 t1 u1, .bool h2, .slice s2 t2 u2, .int .i64 x] 34)) := ⟨_, rfl⟩
  have bb4 : Below w3.heap.size w3 w4 := by rw [hw4.out]; exact below1 _ _
  obtain ⟨qb4, hq4⟩ : ∃ v, Hid (v = w3.heap.size) := ⟨_, rfl⟩
  have S4 : BoxL w4 w.heap.size qb4 [.bool h1, .slice s1 t1 u1, .bool h2, .slice s2 t2 u2, .int .i64 x] := by rw [hw4.out, hq4.out]; exact (BoxL.made w3 [.bool h1, .slice s1 t1 u1, .bool h2, .slice s2 t2 u2, .int .i64 x] 34).mono B3.size
  have sn4 : w4.heap.size = qb4 + 1 := by rw [hw4.out, hq4.out]; simp
  have B4 := grown_then B3 (bb4.mono B3.size)
  have R4 := R3.below bb4 (Nat.le_refl _)
  have cu4 := cu3.below bb4 cu3.lt
  have oa4 := ownsW.below oa3 bb4 (Nat.le_refl _)
  have ob4 := ownsW.below ob3 bb4 (Nat.le_refl _)
  have lt_R_S : w.heap.size < qb4 := by rw [hq4.out]; exact R3.hi
  have lt_cu_S : B < qb4 := by rw [hq4.out]; exact cu3.lt
  have ap_S_oa : Apart (blkW (.agg #[.bool h1, .slice s1 t1 u1])) [qb4] := apart_one fun q hq => by rw [hq4.out]; have h1 := (ownsW.ltb oa3 q hq).2; omega
  have ap_S_ob : Apart (blkW (.agg #[.bool h2, .slice s2 t2 u2])) [qb4] := apart_one fun q hq => by rw [hq4.out]; have h1 := (ownsW.ltb ob3 q hq).2; omega
  clear B3 R3 cu3 oa3 ob3 bb4
  replace sn4 : Hid (w4.heap.size = qb4 + 1) := sn4
  go_wp2_with fail
  replace sn4 := sn4.out
  rw [← hw4.out]
  (try rw [← hq4.out])
  (try rw [← sn4])
  clear hw4 hq4 sn4
  have hlt := cu4.lt
  refine (curBelow B 14 _ cu4 (by omega)).mono ?_
  rintro e w5 ⟨y, rfl, y0, -, -, cc, gg⟩
  have B5 := grown_trans B4 gg
  have R5 := R4.tn (Tn.of_grown gg) (by simp; omega)
  have cu5 := cc
  have oa5 := ownsW.tn oa4 (Tn.of_grown gg) ap_cu_oa
  have ob5 := ownsW.tn ob4 (Tn.of_grown gg) ap_cu_ob
  have S5 := S4.tn (Tn.of_grown gg) (by simp; omega)
  clear B4 R4 cu4 oa4 ob4 S4 gg cc hlt
  by_cases e0 : y = 0
  case pos =>
    subst e0
    clear y0
    go_wp2_with fail
    have hlt := cu5.lt
    refine (pickAny B _ 3 3 _ _ _ (cu5.alloc _) (by omega) (heap_alloc_new _ _) rfl (by rfl) (by omega) (by omega)).mono ?_
    rintro e w6 ⟨x2, rfl, cc, gg0⟩
    have gg := grown_trans (grown_of (below1 w5 (.cells #[.int .i64 (-1), .int .i64 2000, .int .i64 2001] 3)) (some B)) gg0
    clear gg0
    have B6 := grown_trans B5 gg
    have R6 := R5.tn (Tn.of_grown gg) (by simp; omega)
    have cu6 := cc
    have oa6 := ownsW.tn oa5 (Tn.of_grown gg) ap_cu_oa
    have ob6 := ownsW.tn ob5 (Tn.of_grown gg) ap_cu_ob
    have S6 := S5.tn (Tn.of_grown gg) (by simp; omega)
    clear B5 R5 cu5 oa5 ob5 S5 gg cc hlt
    have c_S_0 := S6.c 0 _ rfl
    have f_S_0 := S6.f 0 _ rfl
    have c_S_1 := S6.c 1 _ rfl
    have f_S_1 := S6.f 1 _ rfl
    have c_S_2 := S6.c 2 _ rfl
    have f_S_2 := S6.f 2 _ rfl
    have c_S_3 := S6.c 3 _ rfl
    have f_S_3 := S6.f 3 _ rfl
    have c_S_4 := S6.c 4 _ rfl
    have f_S_4 := S6.f 4 _ rfl
    obtain ⟨w7, hw7⟩ : ∃ v, v = w6.setCell ⟨qb4, 4, none⟩ (.int .i64 x2) := ⟨_, rfl⟩
    have tn7 : Tn [qb4] w6 w7 := by rw [hw7]; exact (tnL w6 qb4 4 (.int .i64 x2))
    have S7 : BoxL w7 w.heap.size qb4 [.bool h1, .slice s1 t1 u1, .bool h2, .slice s2 t2 u2, .int .i64 x2] := by rw [hw7]; exact (S6.set 4 (.int .i64 x2) (by simp))
    have blo7 := S6.lo
    replace hw7 : Hid (w7 = _) := hw7
    have B7 := grown_tn B6 tn7 (fun q hq => by simp at hq; omega)
    have R7 := R6.tn tn7 (not_one (by omega))
    have cu7 := CurAt.tn cu6 tn7 (by omega)
    have oa7 := ownsW.tn oa6 tn7 ap_S_oa
    have ob7 := ownsW.tn ob6 tn7 ap_S_ob
    clear B6 R6 cu6 oa6 ob6 S6 tn7 blo7
    have c_S_0 := S7.c 0 _ rfl
    have c_S_1 := S7.c 1 _ rfl
    have c_S_2 := S7.c 2 _ rfl
    have c_S_3 := S7.c 3 _ rfl
    have c_S_4 := S7.c 4 _ rfl
    have c_R_0 := R7.c 0 _ rfl
    have f_R_0 := R7.f 0 _ rfl
    have c_R_1 := R7.c 1 _ rfl
    have f_R_1 := R7.f 1 _ rfl
    have c_R_2 := R7.c 2 _ rfl
    have f_R_2 := R7.f 2 _ rfl
    have c_R_3 := R7.c 3 _ rfl
    have f_R_3 := R7.f 3 _ rfl
    have c_R_4 := R7.c 4 _ rfl
    have f_R_4 := R7.f 4 _ rfl
    obtain ⟨w8, hw8⟩ : ∃ v, v = ((((w7.setCell ⟨w.heap.size, 0, none⟩ (.bool h1)).setCell ⟨w.heap.size, 1, none⟩ (.slice s1 t1 u1)).setCell ⟨w.heap.size, 2, none⟩ (.bool h2)).setCell ⟨w.heap.size, 3, none⟩ (.slice s2 t2 u2)).setCell ⟨w.heap.size, 4, none⟩ (.int .i64 x2) := ⟨_, rfl⟩
    have tn8 : Tn [w.heap.size] w7 w8 := by rw [hw8]; exact (((((tnL w7 w.heap.size 0 (.bool h1)).trans (tnL _ w.heap.size 1 (.slice s1 t1 u1))).trans (tnL _ w.heap.size 2 (.bool h2))).trans (tnL _ w.heap.size 3 (.slice s2 t2 u2))).trans (tnL _ w.heap.size 4 (.int .i64 x2)))
    have R8 : BoxL w8 w.heap.size w.heap.size [.bool h1, .slice s1 t1 u1, .bool h2, .slice s2 t2 u2, .int .i64 x2] := by rw [hw8]; exact (((((R7.set 0 (.bool h1) (by simp)).set 1 (.slice s1 t1 u1) (by simp)).set 2 (.bool h2) (by simp)).set 3 (.slice s2 t2 u2) (by simp)).set 4 (.int .i64 x2) (by simp))
    have blo8 := R7.lo
    have B8 := grown_tn B7 tn8 (fun q hq => by simp at hq; omega)
    have cu8 := CurAt.tn cu7 tn8 (by omega)
    have oa8 := ownsW.tn oa7 tn8 ap_R_oa
    have ob8 := ownsW.tn ob7 tn8 ap_R_ob
    have S8 := S7.tn tn8 (not_one (by omega))
    clear B7 R7 cu7 oa7 ob7 S7 tn8 blo8
    subst hw8
    replace hw7 := hw7.out
    subst hw7
    go_wp2
    (try simp only [Exit.inBlock, Exit.then])
    refine bodyPost_ret (v := .agg #[.bool h1, .slice s1 t1 u1, .bool h2, .slice s2 t2 u2, .int .i64 x2]) ?_ rfl ⟨_, _, rfl, ownsP.mk oa8 ob8 ap_oa_ob, l1, l2, cu8, B8⟩
    rw [results_cell1 rfl]
    go_simp
  by_cases e1 : y = 1
  case pos =>
    subst e1
    clear y0 e0
    go_wp2_with fail
    have hlt := cu5.lt
    refine (drWDraw B _ cu5).mono ?_
    rintro e w6 ⟨v, a3, rfl, oc, l3, cc, gg⟩
    obtain ⟨h3, s3, t3, u3, rfl⟩ := oc.cell
    have ap_R_oc : Apart (blkW (.agg #[.bool h3, .slice s3 t3 u3])) [w.heap.size] := apart_one fun q hq => by have h1 := (ownsW.ltb oc q hq).1; have h2 := R5.hi; omega
    have ap_cu_oc : Apart (blkW (.agg #[.bool h3, .slice s3 t3 u3])) [B] := apart_one fun q hq => by have h1 := (ownsW.ltb oc q hq).1; have h2 := cu5.lt; omega
    have ap_S_oc : Apart (blkW (.agg #[.bool h3, .slice s3 t3 u3])) [qb4] := apart_one fun q hq => by have h1 := (ownsW.ltb oc q hq).1; have h2 := S5.hi; omega
    have ap_oa_oc : Apart (blkW (.agg #[.bool h1, .slice s1 t1 u1])) (blkW (.agg #[.bool h3, .slice s3 t3 u3])) := apart_of (fun k hk => (ownsW.ltb oa5 k hk).2) (fun k hk => (ownsW.ltb oc k hk).1)
    have ap_ob_oc : Apart (blkW (.agg #[.bool h2, .slice s2 t2 u2])) (blkW (.agg #[.bool h3, .slice s3 t3 u3])) := apart_of (fun k hk => (ownsW.ltb ob5 k hk).2) (fun k hk => (ownsW.ltb oc k hk).1)
    replace oc := ownsW_mono oc B5.size
    have B6 := grown_trans B5 gg
    have R6 := R5.tn (Tn.of_grown gg) (by simp; omega)
    have cu6 := cc
    have oa6 := ownsW.tn oa5 (Tn.of_grown gg) ap_cu_oa
    have ob6 := ownsW.tn ob5 (Tn.of_grown gg) ap_cu_ob
    have S6 := S5.tn (Tn.of_grown gg) (by simp; omega)
    clear B5 R5 cu5 oa5 ob5 S5 gg cc hlt
    have oc6 := oc
    clear oc
    clear oa6
    have c_S_0 := S6.c 0 _ rfl
    have f_S_0 := S6.f 0 _ rfl
    have c_S_1 := S6.c 1 _ rfl
    have f_S_1 := S6.f 1 _ rfl
    have c_S_2 := S6.c 2 _ rfl
    have f_S_2 := S6.f 2 _ rfl
    have c_S_3 := S6.c 3 _ rfl
    have f_S_3 := S6.f 3 _ rfl
    have c_S_4 := S6.c 4 _ rfl
    have f_S_4 := S6.f 4 _ rfl
    obtain ⟨w7, hw7⟩ : ∃ v, v = (w6.setCell ⟨qb4, 0, none⟩ (.bool h3)).setCell ⟨qb4, 1, none⟩ (.slice s3 t3 u3) := ⟨_, rfl⟩
    have tn7 : Tn [qb4] w6 w7 := by rw [hw7]; exact ((tnL w6 qb4 0 (.bool h3)).trans (tnL _ qb4 1 (.slice s3 t3 u3)))
    have S7 : BoxL w7 w.heap.size qb4 [.bool h3, .slice s3 t3 u3, .bool h2, .slice s2 t2 u2, .int .i64 x] := by rw [hw7]; exact ((S6.set 0 (.bool h3) (by simp)).set 1 (.slice s3 t3 u3) (by simp))
    have blo7 := S6.lo
    replace hw7 : Hid (w7 = _) := hw7
    have B7 := grown_tn B6 tn7 (fun q hq => by simp at hq; omega)
    have R7 := R6.tn tn7 (not_one (by omega))
    have cu7 := CurAt.tn cu6 tn7 (by omega)
    have ob7 := ownsW.tn ob6 tn7 ap_S_ob
    have oc7 := ownsW.tn oc6 tn7 ap_S_oc
    clear B6 R6 cu6 ob6 S6 oc6 tn7 blo7
    have c_S_0 := S7.c 0 _ rfl
    have c_S_1 := S7.c 1 _ rfl
    have c_S_2 := S7.c 2 _ rfl
    have c_S_3 := S7.c 3 _ rfl
    have c_S_4 := S7.c 4 _ rfl
    have c_R_0 := R7.c 0 _ rfl
    have f_R_0 := R7.f 0 _ rfl
    have c_R_1 := R7.c 1 _ rfl
    have f_R_1 := R7.f 1 _ rfl
    have c_R_2 := R7.c 2 _ rfl
    have f_R_2 := R7.f 2 _ rfl
    have c_R_3 := R7.c 3 _ rfl
    have f_R_3 := R7.f 3 _ rfl
    have c_R_4 := R7.c 4 _ rfl
    have f_R_4 := R7.f 4 _ rfl
    obtain ⟨w8, hw8⟩ : ∃ v, v = ((((w7.setCell ⟨w.heap.size, 0, none⟩ (.bool h3)).setCell ⟨w.heap.size, 1, none⟩ (.slice s3 t3 u3)).setCell ⟨w.heap.size, 2, none⟩ (.bool h2)).setCell ⟨w.heap.size, 3, none⟩ (.slice s2 t2 u2)).setCell ⟨w.heap.size, 4, none⟩ (.int .i64 x) := ⟨_, rfl⟩
    have tn8 : Tn [w.heap.size] w7 w8 := by rw [hw8]; exact (((((tnL w7 w.heap.size 0 (.bool h3)).trans (tnL _ w.heap.size 1 (.slice s3 t3 u3))).trans (tnL _ w.heap.size 2 (.bool h2))).trans (tnL _ w.heap.size 3 (.slice s2 t2 u2))).trans (tnL _ w.heap.size 4 (.int .i64 x)))
    have R8 : BoxL w8 w.heap.size w.heap.size [.bool h3, .slice s3 t3 u3, .bool h2, .slice s2 t2 u2, .int .i64 x] := by rw [hw8]; exact (((((R7.set 0 (.bool h3) (by simp)).set 1 (.slice s3 t3 u3) (by simp)).set 2 (.bool h2) (by simp)).set 3 (.slice s2 t2 u2) (by simp)).set 4 (.int .i64 x) (by simp))
    have blo8 := R7.lo
    have B8 := grown_tn B7 tn8 (fun q hq => by simp at hq; omega)
    have cu8 := CurAt.tn cu7 tn8 (by omega)
    have ob8 := ownsW.tn ob7 tn8 ap_R_ob
    have S8 := S7.tn tn8 (not_one (by omega))
    have oc8 := ownsW.tn oc7 tn8 ap_R_oc
    clear B7 R7 cu7 ob7 S7 oc7 tn8 blo8
    subst hw8
    replace hw7 := hw7.out
    subst hw7
    go_wp2
    (try simp only [Exit.inBlock, Exit.then])
    refine bodyPost_ret (v := .agg #[.bool h3, .slice s3 t3 u3, .bool h2, .slice s2 t2 u2, .int .i64 x]) ?_ rfl ⟨_, _, rfl, ownsP.mk oc8 ob8 (Apart.symm ap_ob_oc), l3, l2, cu8, B8⟩
    rw [results_cell1 rfl]
    go_simp
  have f0 : (y == 0) = false := beq_eq_false_iff_ne.2 e0
  have f1 : (y == 1) = false := beq_eq_false_iff_ne.2 e1
  clear y0
  have c_S_0 := S5.c 0 _ rfl
  have c_S_1 := S5.c 1 _ rfl
  have c_S_2 := S5.c 2 _ rfl
  have c_S_3 := S5.c 3 _ rfl
  have c_S_4 := S5.c 4 _ rfl
  have c_R_0 := R5.c 0 _ rfl
  have f_R_0 := R5.f 0 _ rfl
  have c_R_1 := R5.c 1 _ rfl
  have f_R_1 := R5.f 1 _ rfl
  have c_R_2 := R5.c 2 _ rfl
  have f_R_2 := R5.f 2 _ rfl
  have c_R_3 := R5.c 3 _ rfl
  have f_R_3 := R5.f 3 _ rfl
  have c_R_4 := R5.c 4 _ rfl
  have f_R_4 := R5.f 4 _ rfl
  obtain ⟨w6, hw6⟩ : ∃ v, v = ((((w5.setCell ⟨w.heap.size, 0, none⟩ (.bool h1)).setCell ⟨w.heap.size, 1, none⟩ (.slice s1 t1 u1)).setCell ⟨w.heap.size, 2, none⟩ (.bool h2)).setCell ⟨w.heap.size, 3, none⟩ (.slice s2 t2 u2)).setCell ⟨w.heap.size, 4, none⟩ (.int .i64 x) := ⟨_, rfl⟩
  have tn6 : Tn [w.heap.size] w5 w6 := by rw [hw6]; exact (((((tnL w5 w.heap.size 0 (.bool h1)).trans (tnL _ w.heap.size 1 (.slice s1 t1 u1))).trans (tnL _ w.heap.size 2 (.bool h2))).trans (tnL _ w.heap.size 3 (.slice s2 t2 u2))).trans (tnL _ w.heap.size 4 (.int .i64 x)))
  have R6 : BoxL w6 w.heap.size w.heap.size [.bool h1, .slice s1 t1 u1, .bool h2, .slice s2 t2 u2, .int .i64 x] := by rw [hw6]; exact (((((R5.set 0 (.bool h1) (by simp)).set 1 (.slice s1 t1 u1) (by simp)).set 2 (.bool h2) (by simp)).set 3 (.slice s2 t2 u2) (by simp)).set 4 (.int .i64 x) (by simp))
  have blo6 := R5.lo
  have B6 := grown_tn B5 tn6 (fun q hq => by simp at hq; omega)
  have cu6 := CurAt.tn cu5 tn6 (by omega)
  have oa6 := ownsW.tn oa5 tn6 ap_R_oa
  have ob6 := ownsW.tn ob5 tn6 ap_R_ob
  have S6 := S5.tn tn6 (not_one (by omega))
  clear B5 R5 cu5 oa5 ob5 S5 tn6 blo6
  subst hw6
  go_wp2
  (try simp only [Exit.inBlock, Exit.then])
  refine bodyPost_ret (v := .agg #[.bool h1, .slice s1 t1 u1, .bool h2, .slice s2 t2 u2, .int .i64 x]) ?_ rfl ⟨_, _, rfl, ownsP.mk oa6 ob6 ap_oa_ob, l1, l2, cu6, B6⟩
  rw [results_cell1 rfl]
  go_simp

theorem results_cell2_tmpP {fn : Func} {p u u' : Tmp} {ty : TypeId} (h : fn.results = #[.cell p ty, .tmp u, .tmp u']) (tmps : Array Value) (P : Program) (w : World) :
    (results fn tmps).run P w = ((asAddr (tmps.getD p undef)).run P w).andThen fun a w₁ => ((loadVar ty a).run P w₁).andThen fun v w₂ => .ok (.tuple #[v, tmps.getD u undef, tmps.getD u' undef]) w₂ := by
  simp only [results, h]
  simp [Sem.run_bind, Result.andThen]
set_option maxRecDepth 20000 in
set_option maxHeartbeats 6400000 in
theorem drSpinStep (a : Option Addr) (len cap : Nat) (zs : List Int) (w : World) (hlen : len ≤ 1048576) (hc : CodeIs w a len cap zs) :
    Calls Try.prog 17 #[.slice a len cap] w (DrawnPII w) := by
  have B0_0 : Below w.heap.size w w := Below.refl _ _
  obtain ⟨ww1, hww1⟩ : ∃ v, v = w.alloc (.cells #[.bool false, .slice none 0 0, .bool false, .slice none 0 0, .int .i64 0] 34) := ⟨_, rfl⟩
  have sz1 : ww1.heap.size = w.heap.size + 1 := by rw [hww1]; simp
  have bw1 : Below w.heap.size w ww1 := by rw [hww1]; exact below1 _ _
  have B0_1 := B0_0.trans (bw1.mono B0_0.size)
  have R0_1 : BoxL ww1 w.heap.size w.heap.size [.bool false, .slice none 0 0, .bool false, .slice none 0 0, .int .i64 0] := by rw [hww1]; have h := BoxL.made w [.bool false, .slice none 0 0, .bool false, .slice none 0 0, .int .i64 0] 34; exact h
  have R0 := R0_1
  have B0 := B0_1
  clear B0_0 B0_1 bw1 R0_1
  go_enter Try.func17, Try.ntmps17
  go_wp2_with fail
  have hvv : w.alloc (.cells #[.bool false, .slice none 0 0, .bool false, .slice none 0 0, .int .i64 0] 34) = ww1 := by rw [hww1]
  rw [hvv]
  clear hvv hww1 
  have hz0 : w.heap.size + 1 ≤ ww1.heap.size := by omega
  clear sz1
  have hcc := hc.below B0
  obtain ⟨cb, hcb⟩ : ∃ b, b = ww1.heap.size := ⟨_, rfl⟩
  refine (curNew a len cap zs ww1 hlen hcc).mono ?_
  rintro e w1 ⟨rfl, cu1, bb1⟩
  rw [← hcb] at cu1 ⊢
  have lt_R_cu : w.heap.size < cb := by rw [hcb]; exact R0.hi
  have B1 := B0.trans (bb1.mono B0.size)
  have R1 := R0.below bb1 (Nat.le_refl _)
  clear B0 R0 bb1 hc hcc hcb
  go_wp2_with fail
  have hlt := cu1.lt
  refine (drP cb _ cu1).mono ?_
  rintro e w2 ⟨v, b, rfl, ob, l1, l2, cc, gg⟩
  obtain ⟨h8, s8, t8, u8, h9, s9, t9, u9, eqz⟩ := ob.cell
  subst eqz
  generalize hkz : b.2 = kk9 at *
  replace hkz : Hid (b.2 = kk9) := hkz
  have ap_R_ob : Apart (blkP (.agg #[.bool h8, .slice s8 t8 u8, .bool h9, .slice s9 t9 u9, .int .i64 kk9])) [w.heap.size] := apart_one fun q hq => by have h1 := (ownsP.ltb ob q hq).1; have h2 := R1.hi; omega
  have ap_cu_ob : Apart (blkP (.agg #[.bool h8, .slice s8 t8 u8, .bool h9, .slice s9 t9 u9, .int .i64 kk9])) [cb] := apart_one fun q hq => by have h1 := (ownsP.ltb ob q hq).1; have h2 := cu1.lt; omega
  replace ob := ownsP_mono ob B1.size
  have B2 := below_cur B1 gg (by omega) B1.size
  have R2 := R1.tn (Tn.of_grown gg) (by simp; omega)
  have cu2 := cc
  clear B1 R1 cu1 gg cc hlt
  have ob2 := ob
  clear ob
  obtain ⟨w3, hw3⟩ : ∃ v, Hid (v = w2.alloc (.cells #[.bool h8, .slice s8 t8 u8, .bool h9, .slice s9 t9 u9, .int .i64 kk9] 34)) := ⟨_, rfl⟩
  have bb3 : Below w2.heap.size w2 w3 := by rw [hw3.out]; exact below1 _ _
  obtain ⟨qb3, hq3⟩ : ∃ v, Hid (v = w2.heap.size) := ⟨_, rfl⟩
  have S3 : BoxL w3 w.heap.size qb3 [.bool h8, .slice s8 t8 u8, .bool h9, .slice s9 t9 u9, .int .i64 kk9] := by rw [hw3.out, hq3.out]; exact (BoxL.made w2 [.bool h8, .slice s8 t8 u8, .bool h9, .slice s9 t9 u9, .int .i64 kk9] 34).mono B2.size
  have sn3 : w3.heap.size = qb3 + 1 := by rw [hw3.out, hq3.out]; simp
  have B3 := B2.trans (bb3.mono B2.size)
  have R3 := R2.below bb3 (Nat.le_refl _)
  have cu3 := cu2.below bb3 cu2.lt
  have ob3 := ownsP.below ob2 bb3 (Nat.le_refl _)
  have lt_R_S : w.heap.size < qb3 := by rw [hq3.out]; exact R2.hi
  have lt_cu_S : cb < qb3 := by rw [hq3.out]; exact cu2.lt
  have ap_S_ob : Apart (blkP (.agg #[.bool h8, .slice s8 t8 u8, .bool h9, .slice s9 t9 u9, .int .i64 kk9])) [qb3] := apart_one fun q hq => by rw [hq3.out]; have h1 := (ownsP.ltb ob2 q hq).2; omega
  clear B2 R2 cu2 ob2 bb3
  replace sn3 : Hid (w3.heap.size = qb3 + 1) := sn3
  go_wp2_with fail
  replace sn3 := sn3.out
  rw [← hw3.out]
  (try rw [← hq3.out])
  (try rw [← sn3])
  clear hw3 hq3 sn3
  have hlt := cu3.lt
  refine (pickAny cb _ 7 7 _ _ _ (cu3.alloc _) (by omega) (heap_alloc_new _ _) rfl (by rfl) (by omega) (by omega)).mono ?_
  rintro e w4 ⟨i, rfl, cc, gg0⟩
  have gg := grown_trans (grown_of (below1 w3 (.cells #[.int .i64 0, .int .i64 1, .int .i64 2, .int .i64 5, .int .i64 30, .int .i64 31, .int .i64 (-1)] 3)) (some cb)) gg0
  clear gg0
  have B4 := below_cur B3 gg (by omega) B3.size
  have R4 := R3.tn (Tn.of_grown gg) (by simp; omega)
  have cu4 := cc
  have ob4 := ownsP.tn ob3 (Tn.of_grown gg) ap_cu_ob
  have S4 := S3.tn (Tn.of_grown gg) (by simp; omega)
  clear B3 R3 cu3 ob3 S3 gg cc hlt
  go_wp2_with fail
  obtain ⟨w5, hw5⟩ : ∃ v, Hid (v = w4.drew) := ⟨_, rfl⟩
  have bd : Below w4.heap.size w4 w5 := by rw [hw5.out]; exact (Below.refl w4.heap.size w4).drew
  have B5 := B4.trans (bd.mono B4.size)
  have R5 := R4.below bd (Nat.le_refl _)
  have cu5 := cu4.below bd cu4.lt
  have ob5 := ownsP.below ob4 bd (Nat.le_refl _)
  have S5 := S4.below bd (Nat.le_refl _)
  clear B4 R4 cu4 ob4 S4 bd
  have hH : (fun W : World => W.cell? ⟨qb3, 0, none⟩ = some (.bool h8) ∧ W.cell? ⟨qb3, 1, none⟩ = some (.slice s8 t8 u8) ∧ W.cell? ⟨qb3, 2, none⟩ = some (.bool h9) ∧ W.cell? ⟨qb3, 3, none⟩ = some (.slice s9 t9 u9) ∧ W.cell? ⟨qb3, 4, none⟩ = some (.int .i64 kk9)) w5 := ⟨S5.c 0 _ rfl, S5.c 1 _ rfl, S5.c 2 _ rfl, S5.c 3 _ rfl, S5.c 4 _ rfl⟩
  refine wp_region_held_drew (S := fun W => W.cell? ⟨qb3, 0, none⟩ = some (.bool h8) ∧ W.cell? ⟨qb3, 1, none⟩ = some (.slice s8 t8 u8) ∧ W.cell? ⟨qb3, 2, none⟩ = some (.bool h9) ∧ W.cell? ⟨qb3, 3, none⟩ = some (.slice s9 t9 u9) ∧ W.cell? ⟨qb3, 4, none⟩ = some (.int .i64 kk9)) (by kernel_rfl) (by rw [← hw5.out]; exact hH) ?_
  intro _
  rw [← hw5.out]
  clear hw5
  refine takeH 0 (some 15) (.agg #[.bool h8, .slice s8 t8 u8, .bool h9, .slice s9 t9 u9, .int .i64 kk9]) rfl rfl (by kernel_rfl) (by kernel_rfl) (by kernel_rfl) (fun _ _ _ h => h) (Or.inl ⟨rfl, fun W hW => by obtain ⟨l0, l1, l2, l3, l4⟩ := hW; go_simp⟩) hH ?_
  simp only [Act.put, List.setIfInBounds_toArray, List.set_cons_zero, List.set_cons_succ]
  refine takeH 1 (some 16) (.int .i64 i) rfl rfl (by kernel_rfl) (by kernel_rfl) (by kernel_rfl) (fun _ _ _ h => h) (Or.inl ⟨rfl, fun W hW => by go_simp⟩) hH ?_
  simp only [Act.put, List.setIfInBounds_toArray, List.set_cons_zero, List.set_cons_succ]
  refine takeH 2 (some 17) (.pointer (some ⟨cb, 0, none⟩)) rfl rfl (by kernel_rfl) (by kernel_rfl) (by kernel_rfl) (fun _ _ _ h => h) (Or.inl ⟨rfl, fun W hW => by go_simp⟩) hH ?_
  simp only [Act.put, List.setIfInBounds_toArray, List.set_cons_zero, List.set_cons_succ]
  refine oneH 3 rfl (by kernel_rfl) (fun K' hK => ?_)
  go_simp
  clear hH
  obtain ⟨w6, hw6⟩ : ∃ v, v = w5.alloc (.cells #[.int .i64 1, .int .i64 (-1), .int .i64 1, .int .i64 (-1), .int .i64 1, .int .i64 (-1), .int .i64 0, .int .i64 2] 3) := ⟨_, rfl⟩
  have bb6 : Below w5.heap.size w5 w6 := by rw [hw6]; exact below1 _ _
  obtain ⟨qb6, hq6⟩ : ∃ v, v = w5.heap.size := ⟨_, rfl⟩
  have L6 : BoxL w6 w.heap.size qb6 [.int .i64 1, .int .i64 (-1), .int .i64 1, .int .i64 (-1), .int .i64 1, .int .i64 (-1), .int .i64 0, .int .i64 2] := by rw [hw6, hq6]; exact (BoxL.made w5 [.int .i64 1, .int .i64 (-1), .int .i64 1, .int .i64 (-1), .int .i64 1, .int .i64 (-1), .int .i64 0, .int .i64 2] 3).mono B5.size
  have sn6 : w6.heap.size = qb6 + 1 := by rw [hw6, hq6]; simp
  have hLh : w6.heap[qb6]? = some (.cells #[.int .i64 1, .int .i64 (-1), .int .i64 1, .int .i64 (-1), .int .i64 1, .int .i64 (-1), .int .i64 0, .int .i64 2] 3 (0, 0)) := by rw [hw6, hq6]; exact heap_alloc_new _ _
  rw [← hw6]
  (try rw [← hq6])
  clear hw6
  have B6 := B5.trans (bb6.mono B5.size)
  have R6 := R5.below bb6 (Nat.le_refl _)
  have cu6 := cu5.below bb6 cu5.lt
  have ob6 := ownsP.below ob5 bb6 (Nat.le_refl _)
  have S6 := S5.below bb6 (Nat.le_refl _)
  have lt_R_L : w.heap.size < qb6 := by rw [hq6]; exact R5.hi
  have lt_cu_L : cb < qb6 := by rw [hq6]; exact cu5.lt
  have ap_L_ob : Apart (blkP (.agg #[.bool h8, .slice s8 t8 u8, .bool h9, .slice s9 t9 u9, .int .i64 kk9])) [qb6] := apart_one fun q hq => by have h1 := (ownsP.ltb ob5 q hq).2; omega
  have lt_S_L : qb3 < qb6 := by rw [hq6]; exact S5.hi
  clear B5 R5 cu5 ob5 S5 bb6 hq6 sn6
  have hH : (fun W : World => W.cell? ⟨qb3, 0, none⟩ = some (.bool h8) ∧ W.cell? ⟨qb3, 1, none⟩ = some (.slice s8 t8 u8) ∧ W.cell? ⟨qb3, 2, none⟩ = some (.bool h9) ∧ W.cell? ⟨qb3, 3, none⟩ = some (.slice s9 t9 u9) ∧ W.cell? ⟨qb3, 4, none⟩ = some (.int .i64 kk9)) w6 := ⟨S6.c 0 _ rfl, S6.c 1 _ rfl, S6.c 2 _ rfl, S6.c 3 _ rfl, S6.c 4 _ rfl⟩
  refine hK _ _ hH ?_
  clear hK
  refine oneH 4 rfl (by kernel_rfl) (fun K' hK => ?_)
  go_simp
  have hlt := cu6.lt
  refine (pickAny cb qb6 8 8 #[.int .i64 1, .int .i64 (-1), .int .i64 1, .int .i64 (-1), .int .i64 1, .int .i64 (-1), .int .i64 0, .int .i64 2] _ _ cu6 (by omega) hLh rfl (by rfl) (by omega) (by omega)).mono ?_
  rintro e w7 ⟨d, rfl, cc, gg⟩
  clear hLh
  clear L6
  have B7 := below_cur B6 gg (by omega) B6.size
  have R7 := R6.tn (Tn.of_grown gg) (by simp; omega)
  have cu7 := cc
  have ob7 := ownsP.tn ob6 (Tn.of_grown gg) ap_cu_ob
  have S7 := S6.tn (Tn.of_grown gg) (by simp; omega)
  clear B6 R6 cu6 ob6 S6 gg cc hlt hH
  have hH : (fun W : World => W.cell? ⟨qb3, 0, none⟩ = some (.bool h8) ∧ W.cell? ⟨qb3, 1, none⟩ = some (.slice s8 t8 u8) ∧ W.cell? ⟨qb3, 2, none⟩ = some (.bool h9) ∧ W.cell? ⟨qb3, 3, none⟩ = some (.slice s9 t9 u9) ∧ W.cell? ⟨qb3, 4, none⟩ = some (.int .i64 kk9)) w7 := ⟨S7.c 0 _ rfl, S7.c 1 _ rfl, S7.c 2 _ rfl, S7.c 3 _ rfl, S7.c 4 _ rfl⟩
  refine hK _ _ hH ?_
  clear hK
  have c_R_0 := R7.c 0 _ rfl
  have f_R_0 := R7.f 0 _ rfl
  have c_R_1 := R7.c 1 _ rfl
  have f_R_1 := R7.f 1 _ rfl
  have c_R_2 := R7.c 2 _ rfl
  have f_R_2 := R7.f 2 _ rfl
  have c_R_3 := R7.c 3 _ rfl
  have f_R_3 := R7.f 3 _ rfl
  have c_R_4 := R7.c 4 _ rfl
  have f_R_4 := R7.f 4 _ rfl
  refine oneH 5 rfl (by kernel_rfl) (fun K' hK => ?_)
  go_simp
  obtain ⟨w8, hw8⟩ : ∃ v, v = ((((w7.setCell ⟨w.heap.size, 0, none⟩ (.bool h8)).setCell ⟨w.heap.size, 1, none⟩ (.slice s8 t8 u8)).setCell ⟨w.heap.size, 2, none⟩ (.bool h9)).setCell ⟨w.heap.size, 3, none⟩ (.slice s9 t9 u9)).setCell ⟨w.heap.size, 4, none⟩ (.int .i64 kk9) := ⟨_, rfl⟩
  have tn8 : Tn [w.heap.size] w7 w8 := by rw [hw8]; exact (((((tnL w7 w.heap.size 0 (.bool h8)).trans (tnL _ w.heap.size 1 (.slice s8 t8 u8))).trans (tnL _ w.heap.size 2 (.bool h9))).trans (tnL _ w.heap.size 3 (.slice s9 t9 u9))).trans (tnL _ w.heap.size 4 (.int .i64 kk9)))
  have R8 : BoxL w8 w.heap.size w.heap.size [.bool h8, .slice s8 t8 u8, .bool h9, .slice s9 t9 u9, .int .i64 kk9] := by rw [hw8]; exact (((((R7.set 0 (.bool h8) (by simp)).set 1 (.slice s8 t8 u8) (by simp)).set 2 (.bool h9) (by simp)).set 3 (.slice s9 t9 u9) (by simp)).set 4 (.int .i64 kk9) (by simp))
  have blo8 := R7.lo
  rw [← hw8]
  clear hw8
  have B8 := tn8.below B7 B7.size (fun q hq => by simp at hq; omega)
  clear cu7
  have ob8 := ownsP.tn ob7 tn8 ap_R_ob
  have S8 := S7.tn tn8 (not_one (by omega))
  clear B7 R7 ob7 S7 tn8 blo8
  clear c_R_0 f_R_0 c_R_1 f_R_1 c_R_2 f_R_2 c_R_3 f_R_3 c_R_4 f_R_4
  clear hH
  have hH : (fun W : World => W.cell? ⟨qb3, 0, none⟩ = some (.bool h8) ∧ W.cell? ⟨qb3, 1, none⟩ = some (.slice s8 t8 u8) ∧ W.cell? ⟨qb3, 2, none⟩ = some (.bool h9) ∧ W.cell? ⟨qb3, 3, none⟩ = some (.slice s9 t9 u9) ∧ W.cell? ⟨qb3, 4, none⟩ = some (.int .i64 kk9)) w8 := ⟨S8.c 0 _ rfl, S8.c 1 _ rfl, S8.c 2 _ rfl, S8.c 3 _ rfl, S8.c 4 _ rfl⟩
  refine hK _ _ hH ?_
  clear hK
  refine takeH 6 (some 3) (.int .i64 i) rfl rfl (by kernel_rfl) (by kernel_rfl) (by kernel_rfl) (fun _ _ _ h => h) (Or.inl ⟨rfl, fun W hW => by go_simp⟩) hH ?_
  simp only [Act.put, List.setIfInBounds_toArray, List.set_cons_zero, List.set_cons_succ]
  refine takeH 7 (some 4) (.int .i64 d) rfl rfl (by kernel_rfl) (by kernel_rfl) (by kernel_rfl) (fun _ _ _ h => h) (Or.inl ⟨rfl, fun W hW => by go_simp⟩) hH ?_
  simp only [Act.put, List.setIfInBounds_toArray, List.set_cons_zero, List.set_cons_succ]
  clear hH
  refine wpAnyH_done (by kernel_rfl) ?_ _
  have c_R_0 := R8.c 0 _ rfl
  have c_R_1 := R8.c 1 _ rfl
  have c_R_2 := R8.c 2 _ rfl
  have c_R_3 := R8.c 3 _ rfl
  have c_R_4 := R8.c 4 _ rfl
  go_wp2
  (try simp only [Exit.inBlock, Exit.then])
  refine bodyPost_ret (v := .tuple #[.agg #[.bool h8, .slice s8 t8 u8, .bool h9, .slice s9 t9 u9, .int .i64 kk9], .int .i64 i, .int .i64 d]) ?_ rfl ⟨_, _, _, _, rfl, ob8, l1, l2, B8⟩
  rw [results_cell2_tmpP rfl]
  go_simp

end Go.Proofs.Ytlpfjpbnedankaa
