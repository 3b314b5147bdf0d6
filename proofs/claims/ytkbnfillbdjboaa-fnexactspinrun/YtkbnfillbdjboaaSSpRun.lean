/- SpinRun of the specification, by its contract. -/
import Derived.Test.YtkbnfillbdjboaaSpRunM
import Derived.Test.YtkbnfillbdjboaaPCopy
import Derived.Test.YtkbnfillbdjboaaFB
import Derived.Test.YtkbnfillbdjboaaSSpStep
namespace Go.Proofs.Ytkbnfillbdjboaa
open Go.RowKit
set_option linter.unusedSimpArgs false
set_option linter.unusedVariables false

def CutBANNBANNIN (A : Bool → Option Addr → Nat → Nat → Bool → Option Addr → Nat → Nat → Int → Nat → Act) (F : Bool → Option Addr → Nat → Nat → Bool → Option Addr → Nat → Nat → Int → Nat → World → Prop) (a' : Act) (w' : World) : Prop := ∃ (b0 : Bool) (b1 : Option Addr) (b2 : Nat) (b3 : Nat) (b4 : Bool) (b5 : Option Addr) (b6 : Nat) (b7 : Nat) (b8 : Int) (b9 : Nat), a' = A b0 b1 b2 b3 b4 b5 b6 b7 b8 b9 ∧ F b0 b1 b2 b3 b4 b5 b6 b7 b8 b9 w'
theorem CutBANNBANNIN.mk {A : Bool → Option Addr → Nat → Nat → Bool → Option Addr → Nat → Nat → Int → Nat → Act} {F : Bool → Option Addr → Nat → Nat → Bool → Option Addr → Nat → Nat → Int → Nat → World → Prop} {a' : Act} {w' : World} (b0 : Bool) (b1 : Option Addr) (b2 : Nat) (b3 : Nat) (b4 : Bool) (b5 : Option Addr) (b6 : Nat) (b7 : Nat) (b8 : Int) (b9 : Nat) (ha : a' = A b0 b1 b2 b3 b4 b5 b6 b7 b8 b9) (h : F b0 b1 b2 b3 b4 b5 b6 b7 b8 b9 w') : atEnd (CutBANNBANNIN A F) .normal a' w' := ⟨b0, b1, b2, b3, b4, b5, b6, b7, b8, b9, ha, h⟩
theorem wpCutBANNBANNIN {P : Program} {c : Code} {Q : Exit → Act → World → Prop} {a : Act} {w : World} (A : Bool → Option Addr → Nat → Nat → Bool → Option Addr → Nat → Nat → Int → Nat → Act) (F : Bool → Option Addr → Nat → Nat → Bool → Option Addr → Nat → Nat → Int → Nat → World → Prop) (hA : c.wp P (atEnd (CutBANNBANNIN A F)) a w)
    (hB : ∀ (b0 : Bool) (b1 : Option Addr) (b2 : Nat) (b3 : Nat) (b4 : Bool) (b5 : Option Addr) (b6 : Nat) (b7 : Nat) (b8 : Int) (b9 : Nat) w', F b0 b1 b2 b3 b4 b5 b6 b7 b8 b9 w' → Q .normal (A b0 b1 b2 b3 b4 b5 b6 b7 b8 b9) w') : c.wp P Q a w :=
  wp_mono hA (atEnd_out fun a' w' ⟨b0, b1, b2, b3, b4, b5, b6, b7, b8, b9, ha, h⟩ => by subst ha; exact hB b0 b1 b2 b3 b4 b5 b6 b7 b8 b9 w' h)

set_option maxRecDepth 20000 in
set_option maxHeartbeats 6400000 in
theorem sSpinRun (va vds : Value) (a : Ph) (ds : List Int) (w : World) (ha : rowP w va a) (hl0 : a.1.1.2.length ≤ 1048576) (hl1 : a.1.2.2.length ≤ 1048576) (hds : rowI w vds ds) (hln : ds.length ≤ 1048576) :
    Calls Try.prog 14 #[va, vds] w fun e w' => ∃ v, e = .returned (.tuple #[v, .bool (runR a ds).2]) ∧ ownsP w' w.heap.size v (runR a ds).1 ∧ Below w.heap.size w w' := by
  have kC := fun W (h : Below w.heap.size w W) => sCopyP va a W (ha.below h (Nat.le_refl _)) hl0 hl1
  obtain ⟨gx, ax, nx, cx, gy, ay, ny, cy, eq⟩ := ha.cell
  subst eq
  obtain ⟨kx, hkx⟩ : ∃ q, a.2 = q := ⟨_, rfl⟩
  simp only [hkx] at kC ⊢
  replace hkx : Hid (a.2 = kx) := hkx
  clear ha
  have hz := atRun.zero ds (⟨hl0, hl1⟩ : lenP a)
  obtain ⟨n, hn⟩ : ∃ n, ds.length = n := ⟨_, rfl⟩
  obtain ⟨ad, cap, rfl, h2, h3, h4, h5, h6⟩ := id hds
  rw [hn] at hln h6
  simp only [hn]
  replace hn : Hid (ds.length = n) := hn
  clear hl0 hl1 h2 h3 h4 h5
  have B0_0 : Below w.heap.size w w := Below.refl _ _
  obtain ⟨ww1, hww1⟩ : ∃ v, v = w.alloc (.cells #[.bool gx, .slice ax nx cx, .bool gy, .slice ay ny cy, .int .i64 kx] 30) := ⟨_, rfl⟩
  have sz1 : ww1.heap.size = w.heap.size + 1 := by rw [hww1]; simp
  have bw1 : Below w.heap.size w ww1 := by rw [hww1]; exact below1 _ _
  have B0_1 := B0_0.trans (bw1.mono B0_0.size)
  have X0_1 : BoxL ww1 w.heap.size w.heap.size [.bool gx, .slice ax nx cx, .bool gy, .slice ay ny cy, .int .i64 kx] := by rw [hww1]; have h := BoxL.made w [.bool gx, .slice ax nx cx, .bool gy, .slice ay ny cy, .int .i64 kx] 30; exact h
  obtain ⟨ww2, hww2⟩ : ∃ v, v = ww1.alloc (.cells #[.bool false, .slice none 0 0, .bool false, .slice none 0 0, .int .i64 0] 30) := ⟨_, rfl⟩
  have sz2 : ww2.heap.size = w.heap.size + 1 + 1 := by rw [hww2]; simp [sz1]
  have bw2 : Below ww1.heap.size ww1 ww2 := by rw [hww2]; exact below1 _ _
  have B0_2 := B0_1.trans (bw2.mono B0_1.size)
  have X0_2 := X0_1.below bw2 (Nat.le_refl _)
  have R0_2 : BoxL ww2 (w.heap.size + 1) (w.heap.size + 1) [.bool false, .slice none 0 0, .bool false, .slice none 0 0, .int .i64 0] := by rw [hww2]; have h := BoxL.made ww1 [.bool false, .slice none 0 0, .bool false, .slice none 0 0, .int .i64 0] 30; rw [sz1] at h; exact h
  have X0 := X0_2
  have R0 := R0_2.mono (by omega : w.heap.size ≤ w.heap.size + 1)
  have B0 := B0_2
  clear B0_0 B0_1 B0_2 bw1 bw2 X0_1 X0_2 R0_2
  go_enter Try.func14, Try.ntmps14
  go_wp2_with fail
  have hvv : (w.alloc (.cells #[.bool gx, .slice ax nx cx, .bool gy, .slice ay ny cy, .int .i64 kx] 30)).alloc (.cells #[.bool false, .slice none 0 0, .bool false, .slice none 0 0, .int .i64 0] 30) = ww2 := by rw [hww2]; rw [hww1]
  rw [hvv]
  clear hvv hww1 hww2 sz1
  clear ww1
  have hz0 : w.heap.size + 2 ≤ ww2.heap.size := by omega
  clear sz2
  refine (kC _ B0).mono ?_
  rintro e w1 ⟨v, rfl, oa, bb1⟩
  obtain ⟨h1, s1, t1, u1, m1, p1, q1, r1, eq1⟩ := oa.cell
  obtain ⟨k1, hk1⟩ : ∃ q, a.2 = q := ⟨_, rfl⟩
  rw [hk1] at eq1
  subst eq1
  replace hk1 : Hid (a.2 = k1) := hk1
  have ap_X_oa : Apart (blkP (.agg #[.bool h1, .slice s1 t1 u1, .bool m1, .slice p1 q1 r1, .int .i64 k1])) [w.heap.size] := apart_one fun q hq => by have h1 := (ownsP.ltb oa q hq).1; have h2 := X0.hi; omega
  have ap_R_oa : Apart (blkP (.agg #[.bool h1, .slice s1 t1 u1, .bool m1, .slice p1 q1 r1, .int .i64 k1])) [w.heap.size + 1] := apart_one fun q hq => by have h1 := (ownsP.ltb oa q hq).1; have h2 := R0.hi; omega
  replace oa := ownsP_mono oa B0.size
  have B1 := B0.trans (bb1.mono B0.size)
  have X1 := X0.below bb1 (Nat.le_refl _)
  have R1 := R0.below bb1 (Nat.le_refl _)
  clear B0 X0 R0 bb1
  have oa1 := oa
  clear oa
  obtain ⟨w2, hw2⟩ : ∃ v, Hid (v = w1.alloc (.cells #[.bool h1, .slice s1 t1 u1, .bool m1, .slice p1 q1 r1, .int .i64 k1] 30)) := ⟨_, rfl⟩
  have bb2 : Below w1.heap.size w1 w2 := by rw [hw2.out]; exact below1 _ _
  obtain ⟨qb2, hq2⟩ : ∃ v, Hid (v = w1.heap.size) := ⟨_, rfl⟩
  have O2 : BoxL w2 w.heap.size qb2 [.bool h1, .slice s1 t1 u1, .bool m1, .slice p1 q1 r1, .int .i64 k1] := by rw [hw2.out, hq2.out]; exact (BoxL.made w1 [.bool h1, .slice s1 t1 u1, .bool m1, .slice p1 q1 r1, .int .i64 k1] 30).mono B1.size
  have B2 := B1.trans (bb2.mono B1.size)
  have X2 := X1.below bb2 (Nat.le_refl _)
  have R2 := R1.below bb2 (Nat.le_refl _)
  have oa2 := ownsP.below oa1 bb2 (Nat.le_refl _)
  have lt_X_O : w.heap.size < qb2 := by rw [hq2.out]; exact X1.hi
  have lt_R_O : w.heap.size + 1 < qb2 := by rw [hq2.out]; exact R1.hi
  have ap_O_oa : Apart (blkP (.agg #[.bool h1, .slice s1 t1 u1, .bool m1, .slice p1 q1 r1, .int .i64 k1])) [qb2] := apart_one fun q hq => by rw [hq2.out]; have h1 := (ownsP.ltb oa1 q hq).2; omega
  clear B1 X1 R1 oa1 bb2
  go_wp2_with fail
  rw [← hw2.out]
  (try rw [← hq2.out])
  clear hw2 hq2
  go_loopw [7] (fun x0 wr => ∃ (k : Nat) (b : Ph) (h2 : Bool) (s2 : Option Addr) (t2 : Nat) (u2 : Nat) (m2 : Bool) (p2 : Option Addr) (q2 : Nat) (r2 : Nat) (k2 : Int), k ≤ n ∧ atRun a ds k b ∧ Hid (b.2 = k2) ∧ x0 = .int .i64 (k : Int) ∧ BoxL wr w.heap.size qb2 [.bool h2, .slice s2 t2 u2, .bool m2, .slice p2 q2 r2, .int .i64 k2] ∧ BoxL wr w.heap.size (w.heap.size + 1) [.bool false, .slice none 0 0, .bool false, .slice none 0 0, .int .i64 0] ∧ BoxL wr w.heap.size w.heap.size [.bool gx, .slice ax nx cx, .bool gy, .slice ay ny cy, .int .i64 kx] ∧ ownsP wr w.heap.size (.agg #[.bool h2, .slice s2 t2 u2, .bool m2, .slice p2 q2 r2, .int .i64 k2]) b ∧ Apart (blkP (.agg #[.bool h2, .slice s2 t2 u2, .bool m2, .slice p2 q2 r2, .int .i64 k2])) [w.heap.size] ∧ Apart (blkP (.agg #[.bool h2, .slice s2 t2 u2, .bool m2, .slice p2 q2 r2, .int .i64 k2])) [w.heap.size + 1] ∧ Apart (blkP (.agg #[.bool h2, .slice s2 t2 u2, .bool m2, .slice p2 q2 r2, .int .i64 k2])) [qb2] ∧ Below w.heap.size w wr) (fun x0 _ => n - (intOf x0).toNat)
  case atStart => exact ⟨0, a, h1, s1, t1, u1, m1, p1, q1, r1, k1, Nat.zero_le _, hz, hk1, rfl, O2, R2, X2, oa2, ap_X_oa, ap_R_oa, ap_O_oa, B2⟩
  case round =>
    clear X2 R2 oa2 O2 B2 ap_O_oa ap_R_oa ap_X_oa
    obtain ⟨k, b, h2, s2, t2, u2, m2, p2, q2, r2, k2, hk, hr, hb, rfl, O3, R3, X3, oa3, ap_X_oa, ap_R_oa, ap_O_oa, B3⟩ := hrel
    clear hz
    by_cases hlt : k < n
    case neg =>
      obtain rfl : k = n := by omega
      have hlt2 : ¬ (k : Int) < (k : Int) := by omega
      have HR : Hid (runR a ds = (b, true)) := by show _ = _; rw [← hn.out] at hr; exact hr.done
      clear hr hlt kC h6
      clear X3
      have c_O_0 := O3.c 0 _ rfl
      have c_O_1 := O3.c 1 _ rfl
      have c_O_2 := O3.c 2 _ rfl
      have c_O_3 := O3.c 3 _ rfl
      have c_O_4 := O3.c 4 _ rfl
      have c_R_0 := R3.c 0 _ rfl
      have f_R_0 := R3.f 0 _ rfl
      have c_R_1 := R3.c 1 _ rfl
      have f_R_1 := R3.f 1 _ rfl
      have c_R_2 := R3.c 2 _ rfl
      have f_R_2 := R3.f 2 _ rfl
      have c_R_3 := R3.c 3 _ rfl
      have f_R_3 := R3.f 3 _ rfl
      have c_R_4 := R3.c 4 _ rfl
      have f_R_4 := R3.f 4 _ rfl
      obtain ⟨w4, hw4⟩ : ∃ v, v = ((((wr.setCell ⟨w.heap.size + 1, 0, none⟩ (.bool h2)).setCell ⟨w.heap.size + 1, 1, none⟩ (.slice s2 t2 u2)).setCell ⟨w.heap.size + 1, 2, none⟩ (.bool m2)).setCell ⟨w.heap.size + 1, 3, none⟩ (.slice p2 q2 r2)).setCell ⟨w.heap.size + 1, 4, none⟩ (.int .i64 k2) := ⟨_, rfl⟩
      have tn4 : Tn [w.heap.size + 1] wr w4 := by rw [hw4]; exact (((((tnL wr (w.heap.size + 1) 0 (.bool h2)).trans (tnL _ (w.heap.size + 1) 1 (.slice s2 t2 u2))).trans (tnL _ (w.heap.size + 1) 2 (.bool m2))).trans (tnL _ (w.heap.size + 1) 3 (.slice p2 q2 r2))).trans (tnL _ (w.heap.size + 1) 4 (.int .i64 k2)))
      have R4 : BoxL w4 w.heap.size (w.heap.size + 1) [.bool h2, .slice s2 t2 u2, .bool m2, .slice p2 q2 r2, .int .i64 k2] := by rw [hw4]; exact (((((R3.set 0 (.bool h2) (by simp)).set 1 (.slice s2 t2 u2) (by simp)).set 2 (.bool m2) (by simp)).set 3 (.slice p2 q2 r2) (by simp)).set 4 (.int .i64 k2) (by simp))
      have blo4 := R3.lo
      have B4 := tn4.below B3 B3.size (fun q hq => by simp at hq; omega)
      have O4 := O3.tn tn4 (not_one (by omega))
      have oa4 := ownsP.tn oa3 tn4 ap_R_oa
      clear B3 R3 O3 oa3 tn4 blo4
      subst hw4
      go_wp2
      (try simp only [Exit.inBlock, Exit.then])
      refine bodyPost_ret (v := .tuple #[.agg #[.bool h2, .slice s2 t2 u2, .bool m2, .slice p2 q2 r2, .int .i64 k2], .bool true]) ?_ rfl ⟨_, by rw [HR.out], by rw [HR.out]; exact oa4, B4⟩
      rw [results_cell_tmp rfl]
      go_simp
    have hlt2 : (k : Int) < (n : Int) := by omega
    obtain ⟨g0, o0, hg0, hgl, hgc⟩ := h6 k (by omega)
    obtain ⟨d, hd⟩ : ∃ d, ds.getD k 0 = d := ⟨_, rfl⟩
    rw [hd] at hgc
    subst hg0
    obtain ⟨⟨c, ok⟩, hc⟩ : ∃ q, stepR b k d = q := ⟨_, rfl⟩
    have hl2 := hr.2
    have kS := fun v W (q : rowP W v b) => sSpinStep v b k d W q hl2.1 hl2.2
    simp only [hc] at kS
    clear hl2
    have hkn : ¬ (k : Int) < 0 := by omega
    cases ok
    · have HR : Hid (runR a ds = (a, false)) := hr.no (by rw [hn.out]; exact hlt) hd hc
      clear hr hc hd
      clear hlt
      go_wp2_with fail
      have hcell := fun W (h : Below w.heap.size w W) => (h.cell (p := ⟨g0, o0 + k, none⟩) hgl).trans hgc
      obtain ⟨w4, hw4⟩ : ∃ v, Hid (v = wr.drew) := ⟨_, rfl⟩
      have bd : Below wr.heap.size wr w4 := by rw [hw4.out]; exact (Below.refl wr.heap.size wr).drew
      have B4 := B3.trans (bd.mono B3.size)
      have X4 := X3.below bd (Nat.le_refl _)
      have R4 := R3.below bd (Nat.le_refl _)
      have O4 := O3.below bd (Nat.le_refl _)
      have oa4 := ownsP.below oa3 bd (Nat.le_refl _)
      clear B3 X3 R3 O3 oa3 bd
      apply wpCutBANNBANNIN (F := fun h3 s3 t3 u3 m3 p3 q3 r3 k3 qb6 W => Below w.heap.size w W  ∧ BoxL W w.heap.size qb6 [.bool h3, .slice s3 t3 u3, .bool m3, .slice p3 q3 r3, .int .i64 k3] ∧ BoxL W w.heap.size qb2 [.bool h2, .slice s2 t2 u2, .bool m2, .slice p2 q2 r2, .int .i64 k2] ∧ BoxL W w.heap.size (w.heap.size + 1) [.bool false, .slice none 0 0, .bool false, .slice none 0 0, .int .i64 0] ∧ BoxL W w.heap.size w.heap.size [.bool gx, .slice ax nx cx, .bool gy, .slice ay ny cy, .int .i64 kx] ∧ ownsP W w.heap.size (.agg #[.bool h2, .slice s2 t2 u2, .bool m2, .slice p2 q2 r2, .int .i64 k2]) b ∧ ownsP W w.heap.size (.agg #[.bool h3, .slice s3 t3 u3, .bool m3, .slice p3 q3 r3, .int .i64 k3]) c ∧ Apart (blkP (.agg #[.bool h2, .slice s2 t2 u2, .bool m2, .slice p2 q2 r2, .int .i64 k2])) [qb6] ∧ Apart (blkP (.agg #[.bool h3, .slice s3 t3 u3, .bool m3, .slice p3 q3 r3, .int .i64 k3])) [qb6] ∧ Apart (blkP (.agg #[.bool h3, .slice s3 t3 u3, .bool m3, .slice p3 q3 r3, .int .i64 k3])) [qb2] ∧ Apart (blkP (.agg #[.bool h3, .slice s3 t3 u3, .bool m3, .slice p3 q3 r3, .int .i64 k3])) [w.heap.size + 1] ∧ Apart (blkP (.agg #[.bool h3, .slice s3 t3 u3, .bool m3, .slice p3 q3 r3, .int .i64 k3])) [w.heap.size] ∧ Apart (blkP (.agg #[.bool h2, .slice s2 t2 u2, .bool m2, .slice p2 q2 r2, .int .i64 k2])) (blkP (.agg #[.bool h3, .slice s3 t3 u3, .bool m3, .slice p3 q3 r3, .int .i64 k3])) ∧ qb2 < qb6 ∧ w.heap.size + 1 < qb6 ∧ w.heap.size < qb6)
      case hA =>
        have hH : (fun W : World => W.cell? ⟨qb2, 0, none⟩ = some (.bool h2) ∧ W.cell? ⟨qb2, 1, none⟩ = some (.slice s2 t2 u2) ∧ W.cell? ⟨qb2, 2, none⟩ = some (.bool m2) ∧ W.cell? ⟨qb2, 3, none⟩ = some (.slice p2 q2 r2) ∧ W.cell? ⟨qb2, 4, none⟩ = some (.int .i64 k2) ∧ W.cell? ⟨g0, o0 + k, none⟩ = some (.int .i64 d)) w4 := ⟨O4.c 0 _ rfl, O4.c 1 _ rfl, O4.c 2 _ rfl, O4.c 3 _ rfl, O4.c 4 _ rfl, hcell _ B4⟩
        refine wp_region_held_drew (S := fun W => W.cell? ⟨qb2, 0, none⟩ = some (.bool h2) ∧ W.cell? ⟨qb2, 1, none⟩ = some (.slice s2 t2 u2) ∧ W.cell? ⟨qb2, 2, none⟩ = some (.bool m2) ∧ W.cell? ⟨qb2, 3, none⟩ = some (.slice p2 q2 r2) ∧ W.cell? ⟨qb2, 4, none⟩ = some (.int .i64 k2) ∧ W.cell? ⟨g0, o0 + k, none⟩ = some (.int .i64 d)) (by kernel_rfl) (by rw [← hw4.out]; exact hH) ?_
        intro _
        rw [← hw4.out]
        refine takeH 0 (some 19) (.agg #[.bool h2, .slice s2 t2 u2, .bool m2, .slice p2 q2 r2, .int .i64 k2]) rfl rfl (by kernel_rfl) (by kernel_rfl) (by kernel_rfl) (fun _ _ _ h => h) (Or.inl ⟨rfl, fun W hW => by obtain ⟨l0, l1, l2, l3, l4, l5⟩ := hW; go_simp⟩) hH ?_
        simp only [Act.put, List.setIfInBounds_toArray, List.set_cons_zero, List.set_cons_succ]
        refine takeH 1 (some 20) (.int .i64 (k : Int)) rfl rfl (by kernel_rfl) (by kernel_rfl) (by kernel_rfl) (fun _ _ _ h => h) (Or.inl ⟨rfl, fun W hW => by go_simp⟩) hH ?_
        simp only [Act.put, List.setIfInBounds_toArray, List.set_cons_zero, List.set_cons_succ]
        refine takeH 2 (some 21) (.slice (some ⟨g0, o0, none⟩) n cap) rfl rfl (by kernel_rfl) (by kernel_rfl) (by kernel_rfl) (fun _ _ _ h => h) (Or.inl ⟨rfl, fun W hW => by go_simp⟩) hH ?_
        simp only [Act.put, List.setIfInBounds_toArray, List.set_cons_zero, List.set_cons_succ]
        refine takeH 3 (some 22) (.int .i64 (k : Int)) rfl rfl (by kernel_rfl) (by kernel_rfl) (by kernel_rfl) (fun _ _ _ h => h) (Or.inl ⟨rfl, fun W hW => by go_simp⟩) hH ?_
        simp only [Act.put, List.setIfInBounds_toArray, List.set_cons_zero, List.set_cons_succ]
        refine takeH 4 (some 23) (.pointer (some ⟨g0, o0 + k, none⟩)) rfl rfl (by kernel_rfl) (by kernel_rfl) (by kernel_rfl) (fun _ _ _ h => h) (Or.inl ⟨rfl, fun W hW => by go_simp⟩) hH ?_
        simp only [Act.put, List.setIfInBounds_toArray, List.set_cons_zero, List.set_cons_succ]
        refine takeH 5 (some 24) (.int .i64 d) rfl rfl (by kernel_rfl) (by kernel_rfl) (by kernel_rfl) (fun _ _ _ h => h) (Or.inl ⟨rfl, fun W hW => by obtain ⟨l0, l1, l2, l3, l4, l5⟩ := hW; go_simp⟩) hH ?_
        simp only [Act.put, List.setIfInBounds_toArray, List.set_cons_zero, List.set_cons_succ]
        refine wpAnyH_ready (rs := [6, 10]) (by kernel_rfl) (by simp) ?_
        refine AllReadyH.cons rfl (fun K hK => ?_) ?_
        · go_simp
          refine (kS _ _ oa4.row).mono ?_
          rintro e w5 ⟨v, rfl, oc, bb5⟩
          obtain ⟨h3, s3, t3, u3, m3, p3, q3, r3, eq3⟩ := oc.cell
          obtain ⟨k3, hk3⟩ : ∃ q, c.2 = q := ⟨_, rfl⟩
          rw [hk3] at eq3
          subst eq3
          replace hk3 : Hid (c.2 = k3) := hk3
          have ap_X_oc : Apart (blkP (.agg #[.bool h3, .slice s3 t3 u3, .bool m3, .slice p3 q3 r3, .int .i64 k3])) [w.heap.size] := apart_one fun q hq => by have h1 := (ownsP.ltb oc q hq).1; have h2 := X4.hi; omega
          have ap_R_oc : Apart (blkP (.agg #[.bool h3, .slice s3 t3 u3, .bool m3, .slice p3 q3 r3, .int .i64 k3])) [w.heap.size + 1] := apart_one fun q hq => by have h1 := (ownsP.ltb oc q hq).1; have h2 := R4.hi; omega
          have ap_O_oc : Apart (blkP (.agg #[.bool h3, .slice s3 t3 u3, .bool m3, .slice p3 q3 r3, .int .i64 k3])) [qb2] := apart_one fun q hq => by have h1 := (ownsP.ltb oc q hq).1; have h2 := O4.hi; omega
          have ap_oa_oc : Apart (blkP (.agg #[.bool h2, .slice s2 t2 u2, .bool m2, .slice p2 q2 r2, .int .i64 k2])) (blkP (.agg #[.bool h3, .slice s3 t3 u3, .bool m3, .slice p3 q3 r3, .int .i64 k3])) := apart_of (fun k hk => (ownsP.ltb oa4 k hk).2) (fun k hk => (ownsP.ltb oc k hk).1)
          replace oc := ownsP_mono oc B4.size
          have B5 := B4.trans (bb5.mono B4.size)
          have X5 := X4.below bb5 (Nat.le_refl _)
          have R5 := R4.below bb5 (Nat.le_refl _)
          have O5 := O4.below bb5 (Nat.le_refl _)
          have oa5 := ownsP.below oa4 bb5 (Nat.le_refl _)
          clear bb5 hH
          have oc5 := oc
          clear oc
          have hH : (fun W : World => W.cell? ⟨qb2, 0, none⟩ = some (.bool h2) ∧ W.cell? ⟨qb2, 1, none⟩ = some (.slice s2 t2 u2) ∧ W.cell? ⟨qb2, 2, none⟩ = some (.bool m2) ∧ W.cell? ⟨qb2, 3, none⟩ = some (.slice p2 q2 r2) ∧ W.cell? ⟨qb2, 4, none⟩ = some (.int .i64 k2) ∧ W.cell? ⟨g0, o0 + k, none⟩ = some (.int .i64 d)) w5 := ⟨O5.c 0 _ rfl, O5.c 1 _ rfl, O5.c 2 _ rfl, O5.c 3 _ rfl, O5.c 4 _ rfl, hcell _ B5⟩
          refine hK.out _ _ hH (fun _ => ?_)
          clear hK K
          refine takeH 7 (some 18) (.tuple #[.agg #[.bool h3, .slice s3 t3 u3, .bool m3, .slice p3 q3 r3, .int .i64 k3], .bool false]) rfl rfl (by kernel_rfl) (by kernel_rfl) (by kernel_rfl) (fun _ _ _ h => h) (Or.inl ⟨rfl, fun W hW => by go_simp⟩) hH ?_
          simp only [Act.put, List.setIfInBounds_toArray, List.set_cons_zero, List.set_cons_succ]
          refine takeH 8 (some 26) (.agg #[.bool h3, .slice s3 t3 u3, .bool m3, .slice p3 q3 r3, .int .i64 k3]) rfl rfl (by kernel_rfl) (by kernel_rfl) (by kernel_rfl) (fun _ _ _ h => h) (Or.inl ⟨rfl, fun W hW => by go_simp⟩) hH ?_
          simp only [Act.put, List.setIfInBounds_toArray, List.set_cons_zero, List.set_cons_succ]
          refine takeH 9 (some 27) (.bool false) rfl rfl (by kernel_rfl) (by kernel_rfl) (by kernel_rfl) (fun _ _ _ h => h) (Or.inl ⟨rfl, fun W hW => by go_simp⟩) hH ?_
          simp only [Act.put, List.setIfInBounds_toArray, List.set_cons_zero, List.set_cons_succ]
          refine oneH 10 rfl (by kernel_rfl) (fun K' hK => ?_)
          go_simp
          clear hH
          obtain ⟨w6, hw6⟩ : ∃ v, v = w5.alloc (.cells #[.bool false, .slice none 0 0, .bool false, .slice none 0 0, .int .i64 0] 30) := ⟨_, rfl⟩
          have bb6 : Below w5.heap.size w5 w6 := by rw [hw6]; exact below1 _ _
          obtain ⟨qb6, hq6⟩ : ∃ v, v = w5.heap.size := ⟨_, rfl⟩
          have N6 : BoxL w6 w.heap.size qb6 [.bool false, .slice none 0 0, .bool false, .slice none 0 0, .int .i64 0] := by rw [hw6, hq6]; exact (BoxL.made w5 [.bool false, .slice none 0 0, .bool false, .slice none 0 0, .int .i64 0] 30).mono B5.size
          have sn6 : w6.heap.size = qb6 + 1 := by rw [hw6, hq6]; simp
          rw [← hw6]
          (try rw [← hq6])
          clear hw6
          have B6 := B5.trans (bb6.mono B5.size)
          have X6 := X5.below bb6 (Nat.le_refl _)
          have R6 := R5.below bb6 (Nat.le_refl _)
          have O6 := O5.below bb6 (Nat.le_refl _)
          have oa6 := ownsP.below oa5 bb6 (Nat.le_refl _)
          have oc6 := ownsP.below oc5 bb6 (Nat.le_refl _)
          have lt_X_N : w.heap.size < qb6 := by rw [hq6]; exact X5.hi
          have lt_R_N : w.heap.size + 1 < qb6 := by rw [hq6]; exact R5.hi
          have lt_O_N : qb2 < qb6 := by rw [hq6]; exact O5.hi
          have ap_N_oa : Apart (blkP (.agg #[.bool h2, .slice s2 t2 u2, .bool m2, .slice p2 q2 r2, .int .i64 k2])) [qb6] := apart_one fun q hq => by have h1 := (ownsP.ltb oa5 q hq).2; omega
          have ap_N_oc : Apart (blkP (.agg #[.bool h3, .slice s3 t3 u3, .bool m3, .slice p3 q3 r3, .int .i64 k3])) [qb6] := apart_one fun q hq => by have h1 := (ownsP.ltb oc5 q hq).2; omega
          clear B5 X5 R5 O5 oa5 oc5 bb6 hq6 sn6
          have hH : (fun W : World => W.cell? ⟨qb2, 0, none⟩ = some (.bool h2) ∧ W.cell? ⟨qb2, 1, none⟩ = some (.slice s2 t2 u2) ∧ W.cell? ⟨qb2, 2, none⟩ = some (.bool m2) ∧ W.cell? ⟨qb2, 3, none⟩ = some (.slice p2 q2 r2) ∧ W.cell? ⟨qb2, 4, none⟩ = some (.int .i64 k2) ∧ W.cell? ⟨g0, o0 + k, none⟩ = some (.int .i64 d)) w6 := ⟨O6.c 0 _ rfl, O6.c 1 _ rfl, O6.c 2 _ rfl, O6.c 3 _ rfl, O6.c 4 _ rfl, hcell _ B6⟩
          refine hK _ _ hH ?_
          clear hK
          have c_N_0 := N6.c 0 _ rfl
          have f_N_0 := N6.f 0 _ rfl
          have c_N_1 := N6.c 1 _ rfl
          have f_N_1 := N6.f 1 _ rfl
          have c_N_2 := N6.c 2 _ rfl
          have f_N_2 := N6.f 2 _ rfl
          have c_N_3 := N6.c 3 _ rfl
          have f_N_3 := N6.f 3 _ rfl
          have c_N_4 := N6.c 4 _ rfl
          have f_N_4 := N6.f 4 _ rfl
          refine oneH 11 rfl (by kernel_rfl) (fun K' hK => ?_)
          go_simp
          obtain ⟨w7, hw7⟩ : ∃ v, v = ((((w6.setCell ⟨qb6, 0, none⟩ (.bool h3)).setCell ⟨qb6, 1, none⟩ (.slice s3 t3 u3)).setCell ⟨qb6, 2, none⟩ (.bool m3)).setCell ⟨qb6, 3, none⟩ (.slice p3 q3 r3)).setCell ⟨qb6, 4, none⟩ (.int .i64 k3) := ⟨_, rfl⟩
          have tn7 : Tn [qb6] w6 w7 := by rw [hw7]; exact (((((tnL w6 qb6 0 (.bool h3)).trans (tnL _ qb6 1 (.slice s3 t3 u3))).trans (tnL _ qb6 2 (.bool m3))).trans (tnL _ qb6 3 (.slice p3 q3 r3))).trans (tnL _ qb6 4 (.int .i64 k3)))
          have N7 : BoxL w7 w.heap.size qb6 [.bool h3, .slice s3 t3 u3, .bool m3, .slice p3 q3 r3, .int .i64 k3] := by rw [hw7]; exact (((((N6.set 0 (.bool h3) (by simp)).set 1 (.slice s3 t3 u3) (by simp)).set 2 (.bool m3) (by simp)).set 3 (.slice p3 q3 r3) (by simp)).set 4 (.int .i64 k3) (by simp))
          have blo7 := N6.lo
          rw [← hw7]
          clear hw7
          have B7 := tn7.below B6 B6.size (fun q hq => by simp at hq; omega)
          have X7 := X6.tn tn7 (not_one (by omega))
          have R7 := R6.tn tn7 (not_one (by omega))
          have O7 := O6.tn tn7 (not_one (by omega))
          have oa7 := ownsP.tn oa6 tn7 ap_N_oa
          have oc7 := ownsP.tn oc6 tn7 ap_N_oc
          clear B6 X6 R6 O6 oa6 oc6 N6 tn7 blo7
          clear c_N_0 f_N_0 c_N_1 f_N_1 c_N_2 f_N_2 c_N_3 f_N_3 c_N_4 f_N_4
          clear hH
          have hH : (fun W : World => W.cell? ⟨qb2, 0, none⟩ = some (.bool h2) ∧ W.cell? ⟨qb2, 1, none⟩ = some (.slice s2 t2 u2) ∧ W.cell? ⟨qb2, 2, none⟩ = some (.bool m2) ∧ W.cell? ⟨qb2, 3, none⟩ = some (.slice p2 q2 r2) ∧ W.cell? ⟨qb2, 4, none⟩ = some (.int .i64 k2) ∧ W.cell? ⟨g0, o0 + k, none⟩ = some (.int .i64 d)) w7 := ⟨O7.c 0 _ rfl, O7.c 1 _ rfl, O7.c 2 _ rfl, O7.c 3 _ rfl, O7.c 4 _ rfl, hcell _ B7⟩
          refine hK _ _ hH ?_
          clear hK
          refine takeH 12 (some 9) (.bool false) rfl rfl (by kernel_rfl) (by kernel_rfl) (by kernel_rfl) (fun _ _ _ h => h) (Or.inl ⟨rfl, fun W hW => by go_simp⟩) hH ?_
          simp only [Act.put, List.setIfInBounds_toArray, List.set_cons_zero, List.set_cons_succ]
          clear hH
          refine wpAnyH_done (by kernel_rfl) ?_ _
          exact CutBANNBANNIN.mk h3 s3 t3 u3 m3 p3 q3 r3 k3 qb6 rfl ⟨B7, N7, O7, R7, X7, oa7, oc7, ap_N_oa, ap_N_oc, ap_O_oc, ap_R_oc, ap_X_oc, ap_oa_oc, lt_O_N, lt_R_N, lt_X_N⟩
        refine AllReadyH.cons rfl (fun K hK => ?_) ?_
        · go_simp
          clear hH
          obtain ⟨w5, hw5⟩ : ∃ v, v = w4.alloc (.cells #[.bool false, .slice none 0 0, .bool false, .slice none 0 0, .int .i64 0] 30) := ⟨_, rfl⟩
          have bb5 : Below w4.heap.size w4 w5 := by rw [hw5]; exact below1 _ _
          obtain ⟨qb5, hq5⟩ : ∃ v, v = w4.heap.size := ⟨_, rfl⟩
          have N5 : BoxL w5 w.heap.size qb5 [.bool false, .slice none 0 0, .bool false, .slice none 0 0, .int .i64 0] := by rw [hw5, hq5]; exact (BoxL.made w4 [.bool false, .slice none 0 0, .bool false, .slice none 0 0, .int .i64 0] 30).mono B4.size
          have sn5 : w5.heap.size = qb5 + 1 := by rw [hw5, hq5]; simp
          rw [← hw5]
          (try rw [← hq5])
          clear hw5
          have B5 := B4.trans (bb5.mono B4.size)
          have X5 := X4.below bb5 (Nat.le_refl _)
          have R5 := R4.below bb5 (Nat.le_refl _)
          have O5 := O4.below bb5 (Nat.le_refl _)
          have oa5 := ownsP.below oa4 bb5 (Nat.le_refl _)
          have lt_X_N : w.heap.size < qb5 := by rw [hq5]; exact X4.hi
          have lt_R_N : w.heap.size + 1 < qb5 := by rw [hq5]; exact R4.hi
          have lt_O_N : qb2 < qb5 := by rw [hq5]; exact O4.hi
          have ap_N_oa : Apart (blkP (.agg #[.bool h2, .slice s2 t2 u2, .bool m2, .slice p2 q2 r2, .int .i64 k2])) [qb5] := apart_one fun q hq => by have h1 := (ownsP.ltb oa4 q hq).2; omega
          clear bb5 hq5 sn5
          have hH : (fun W : World => W.cell? ⟨qb2, 0, none⟩ = some (.bool h2) ∧ W.cell? ⟨qb2, 1, none⟩ = some (.slice s2 t2 u2) ∧ W.cell? ⟨qb2, 2, none⟩ = some (.bool m2) ∧ W.cell? ⟨qb2, 3, none⟩ = some (.slice p2 q2 r2) ∧ W.cell? ⟨qb2, 4, none⟩ = some (.int .i64 k2) ∧ W.cell? ⟨g0, o0 + k, none⟩ = some (.int .i64 d)) w5 := ⟨O5.c 0 _ rfl, O5.c 1 _ rfl, O5.c 2 _ rfl, O5.c 3 _ rfl, O5.c 4 _ rfl, hcell _ B5⟩
          refine hK.out _ _ hH (fun _ => ?_)
          clear hK K
          refine oneH 6 rfl (by kernel_rfl) (fun K' hK => ?_)
          go_simp
          refine (kS _ _ oa5.row).mono ?_
          rintro e w6 ⟨v, rfl, oc, bb6⟩
          obtain ⟨h3, s3, t3, u3, m3, p3, q3, r3, eq3⟩ := oc.cell
          obtain ⟨k3, hk3⟩ : ∃ q, c.2 = q := ⟨_, rfl⟩
          rw [hk3] at eq3
          subst eq3
          replace hk3 : Hid (c.2 = k3) := hk3
          have ap_X_oc : Apart (blkP (.agg #[.bool h3, .slice s3 t3 u3, .bool m3, .slice p3 q3 r3, .int .i64 k3])) [w.heap.size] := apart_one fun q hq => by have h1 := (ownsP.ltb oc q hq).1; have h2 := X5.hi; omega
          have ap_R_oc : Apart (blkP (.agg #[.bool h3, .slice s3 t3 u3, .bool m3, .slice p3 q3 r3, .int .i64 k3])) [w.heap.size + 1] := apart_one fun q hq => by have h1 := (ownsP.ltb oc q hq).1; have h2 := R5.hi; omega
          have ap_O_oc : Apart (blkP (.agg #[.bool h3, .slice s3 t3 u3, .bool m3, .slice p3 q3 r3, .int .i64 k3])) [qb2] := apart_one fun q hq => by have h1 := (ownsP.ltb oc q hq).1; have h2 := O5.hi; omega
          have ap_N_oc : Apart (blkP (.agg #[.bool h3, .slice s3 t3 u3, .bool m3, .slice p3 q3 r3, .int .i64 k3])) [qb5] := apart_one fun q hq => by have h1 := (ownsP.ltb oc q hq).1; have h2 := N5.hi; omega
          have ap_oa_oc : Apart (blkP (.agg #[.bool h2, .slice s2 t2 u2, .bool m2, .slice p2 q2 r2, .int .i64 k2])) (blkP (.agg #[.bool h3, .slice s3 t3 u3, .bool m3, .slice p3 q3 r3, .int .i64 k3])) := apart_of (fun k hk => (ownsP.ltb oa5 k hk).2) (fun k hk => (ownsP.ltb oc k hk).1)
          replace oc := ownsP_mono oc B5.size
          have B6 := B5.trans (bb6.mono B5.size)
          have X6 := X5.below bb6 (Nat.le_refl _)
          have R6 := R5.below bb6 (Nat.le_refl _)
          have O6 := O5.below bb6 (Nat.le_refl _)
          have oa6 := ownsP.below oa5 bb6 (Nat.le_refl _)
          have N6 := N5.below bb6 (Nat.le_refl _)
          clear B5 X5 R5 O5 oa5 N5 bb6 hH
          have oc6 := oc
          clear oc
          have hH : (fun W : World => W.cell? ⟨qb2, 0, none⟩ = some (.bool h2) ∧ W.cell? ⟨qb2, 1, none⟩ = some (.slice s2 t2 u2) ∧ W.cell? ⟨qb2, 2, none⟩ = some (.bool m2) ∧ W.cell? ⟨qb2, 3, none⟩ = some (.slice p2 q2 r2) ∧ W.cell? ⟨qb2, 4, none⟩ = some (.int .i64 k2) ∧ W.cell? ⟨g0, o0 + k, none⟩ = some (.int .i64 d)) w6 := ⟨O6.c 0 _ rfl, O6.c 1 _ rfl, O6.c 2 _ rfl, O6.c 3 _ rfl, O6.c 4 _ rfl, hcell _ B6⟩
          refine hK _ _ hH ?_
          clear hK
          refine takeH 7 (some 18) (.tuple #[.agg #[.bool h3, .slice s3 t3 u3, .bool m3, .slice p3 q3 r3, .int .i64 k3], .bool false]) rfl rfl (by kernel_rfl) (by kernel_rfl) (by kernel_rfl) (fun _ _ _ h => h) (Or.inl ⟨rfl, fun W hW => by go_simp⟩) hH ?_
          simp only [Act.put, List.setIfInBounds_toArray, List.set_cons_zero, List.set_cons_succ]
          refine takeH 8 (some 26) (.agg #[.bool h3, .slice s3 t3 u3, .bool m3, .slice p3 q3 r3, .int .i64 k3]) rfl rfl (by kernel_rfl) (by kernel_rfl) (by kernel_rfl) (fun _ _ _ h => h) (Or.inl ⟨rfl, fun W hW => by go_simp⟩) hH ?_
          simp only [Act.put, List.setIfInBounds_toArray, List.set_cons_zero, List.set_cons_succ]
          refine takeH 9 (some 27) (.bool false) rfl rfl (by kernel_rfl) (by kernel_rfl) (by kernel_rfl) (fun _ _ _ h => h) (Or.inl ⟨rfl, fun W hW => by go_simp⟩) hH ?_
          simp only [Act.put, List.setIfInBounds_toArray, List.set_cons_zero, List.set_cons_succ]
          have c_N_0 := N6.c 0 _ rfl
          have f_N_0 := N6.f 0 _ rfl
          have c_N_1 := N6.c 1 _ rfl
          have f_N_1 := N6.f 1 _ rfl
          have c_N_2 := N6.c 2 _ rfl
          have f_N_2 := N6.f 2 _ rfl
          have c_N_3 := N6.c 3 _ rfl
          have f_N_3 := N6.f 3 _ rfl
          have c_N_4 := N6.c 4 _ rfl
          have f_N_4 := N6.f 4 _ rfl
          refine oneH 11 rfl (by kernel_rfl) (fun K' hK => ?_)
          go_simp
          obtain ⟨w7, hw7⟩ : ∃ v, v = ((((w6.setCell ⟨qb5, 0, none⟩ (.bool h3)).setCell ⟨qb5, 1, none⟩ (.slice s3 t3 u3)).setCell ⟨qb5, 2, none⟩ (.bool m3)).setCell ⟨qb5, 3, none⟩ (.slice p3 q3 r3)).setCell ⟨qb5, 4, none⟩ (.int .i64 k3) := ⟨_, rfl⟩
          have tn7 : Tn [qb5] w6 w7 := by rw [hw7]; exact (((((tnL w6 qb5 0 (.bool h3)).trans (tnL _ qb5 1 (.slice s3 t3 u3))).trans (tnL _ qb5 2 (.bool m3))).trans (tnL _ qb5 3 (.slice p3 q3 r3))).trans (tnL _ qb5 4 (.int .i64 k3)))
          have N7 : BoxL w7 w.heap.size qb5 [.bool h3, .slice s3 t3 u3, .bool m3, .slice p3 q3 r3, .int .i64 k3] := by rw [hw7]; exact (((((N6.set 0 (.bool h3) (by simp)).set 1 (.slice s3 t3 u3) (by simp)).set 2 (.bool m3) (by simp)).set 3 (.slice p3 q3 r3) (by simp)).set 4 (.int .i64 k3) (by simp))
          have blo7 := N6.lo
          rw [← hw7]
          clear hw7
          have B7 := tn7.below B6 B6.size (fun q hq => by simp at hq; omega)
          have X7 := X6.tn tn7 (not_one (by omega))
          have R7 := R6.tn tn7 (not_one (by omega))
          have O7 := O6.tn tn7 (not_one (by omega))
          have oa7 := ownsP.tn oa6 tn7 ap_N_oa
          have oc7 := ownsP.tn oc6 tn7 ap_N_oc
          clear B6 X6 R6 O6 oa6 N6 oc6 tn7 blo7
          clear c_N_0 f_N_0 c_N_1 f_N_1 c_N_2 f_N_2 c_N_3 f_N_3 c_N_4 f_N_4
          clear hH
          have hH : (fun W : World => W.cell? ⟨qb2, 0, none⟩ = some (.bool h2) ∧ W.cell? ⟨qb2, 1, none⟩ = some (.slice s2 t2 u2) ∧ W.cell? ⟨qb2, 2, none⟩ = some (.bool m2) ∧ W.cell? ⟨qb2, 3, none⟩ = some (.slice p2 q2 r2) ∧ W.cell? ⟨qb2, 4, none⟩ = some (.int .i64 k2) ∧ W.cell? ⟨g0, o0 + k, none⟩ = some (.int .i64 d)) w7 := ⟨O7.c 0 _ rfl, O7.c 1 _ rfl, O7.c 2 _ rfl, O7.c 3 _ rfl, O7.c 4 _ rfl, hcell _ B7⟩
          refine hK _ _ hH ?_
          clear hK
          refine takeH 12 (some 9) (.bool false) rfl rfl (by kernel_rfl) (by kernel_rfl) (by kernel_rfl) (fun _ _ _ h => h) (Or.inl ⟨rfl, fun W hW => by go_simp⟩) hH ?_
          simp only [Act.put, List.setIfInBounds_toArray, List.set_cons_zero, List.set_cons_succ]
          clear hH
          refine wpAnyH_done (by kernel_rfl) ?_ _
          exact CutBANNBANNIN.mk h3 s3 t3 u3 m3 p3 q3 r3 k3 qb5 rfl ⟨B7, N7, O7, R7, X7, oa7, oc7, ap_N_oa, ap_N_oc, ap_O_oc, ap_R_oc, ap_X_oc, ap_oa_oc, lt_O_N, lt_R_N, lt_X_N⟩
        exact AllReadyH.nil
      case hB =>
        rintro h3 s3 t3 u3 m3 p3 q3 r3 k3 qb6 w8 ⟨B8, N8, O8, R8, X8, oa8, oc8, ap_N_oa, ap_N_oc, ap_O_oc, ap_R_oc, ap_X_oc, ap_oa_oc, lt_O_N, lt_R_N, lt_X_N⟩
        clear kS
        clear oa8 oc8 O8 N8
        have c_X_0 := X8.c 0 _ rfl
        have c_X_1 := X8.c 1 _ rfl
        have c_X_2 := X8.c 2 _ rfl
        have c_X_3 := X8.c 3 _ rfl
        have c_X_4 := X8.c 4 _ rfl
        go_wp2_with fail
        refine (kC _ B8).mono ?_
        rintro e w9 ⟨v, rfl, oz, bb9⟩
        clear c_X_0 c_X_1 c_X_2 c_X_3 c_X_4
        obtain ⟨h4, s4, t4, u4, m4, p4, q4, r4, eq4⟩ := oz.cell
        obtain ⟨k4, hk4⟩ : ∃ q, a.2 = q := ⟨_, rfl⟩
        rw [hk4] at eq4
        subst eq4
        replace hk4 : Hid (a.2 = k4) := hk4
        have ap_X_oz : Apart (blkP (.agg #[.bool h4, .slice s4 t4 u4, .bool m4, .slice p4 q4 r4, .int .i64 k4])) [w.heap.size] := apart_one fun q hq => by have h1 := (ownsP.ltb oz q hq).1; have h2 := X8.hi; omega
        have ap_R_oz : Apart (blkP (.agg #[.bool h4, .slice s4 t4 u4, .bool m4, .slice p4 q4 r4, .int .i64 k4])) [w.heap.size + 1] := apart_one fun q hq => by have h1 := (ownsP.ltb oz q hq).1; have h2 := R8.hi; omega
        replace oz := ownsP_mono oz B8.size
        have B9 := B8.trans (bb9.mono B8.size)
        have X9 := X8.below bb9 (Nat.le_refl _)
        have R9 := R8.below bb9 (Nat.le_refl _)
        clear B8 X8 R8 bb9
        have oz9 := oz
        clear oz
        clear kC
        clear X9
        have c_R_0 := R9.c 0 _ rfl
        have f_R_0 := R9.f 0 _ rfl
        have c_R_1 := R9.c 1 _ rfl
        have f_R_1 := R9.f 1 _ rfl
        have c_R_2 := R9.c 2 _ rfl
        have f_R_2 := R9.f 2 _ rfl
        have c_R_3 := R9.c 3 _ rfl
        have f_R_3 := R9.f 3 _ rfl
        have c_R_4 := R9.c 4 _ rfl
        have f_R_4 := R9.f 4 _ rfl
        obtain ⟨w10, hw10⟩ : ∃ v, v = ((((w9.setCell ⟨w.heap.size + 1, 0, none⟩ (.bool h4)).setCell ⟨w.heap.size + 1, 1, none⟩ (.slice s4 t4 u4)).setCell ⟨w.heap.size + 1, 2, none⟩ (.bool m4)).setCell ⟨w.heap.size + 1, 3, none⟩ (.slice p4 q4 r4)).setCell ⟨w.heap.size + 1, 4, none⟩ (.int .i64 k4) := ⟨_, rfl⟩
        have tn10 : Tn [w.heap.size + 1] w9 w10 := by rw [hw10]; exact (((((tnL w9 (w.heap.size + 1) 0 (.bool h4)).trans (tnL _ (w.heap.size + 1) 1 (.slice s4 t4 u4))).trans (tnL _ (w.heap.size + 1) 2 (.bool m4))).trans (tnL _ (w.heap.size + 1) 3 (.slice p4 q4 r4))).trans (tnL _ (w.heap.size + 1) 4 (.int .i64 k4)))
        have R10 : BoxL w10 w.heap.size (w.heap.size + 1) [.bool h4, .slice s4 t4 u4, .bool m4, .slice p4 q4 r4, .int .i64 k4] := by rw [hw10]; exact (((((R9.set 0 (.bool h4) (by simp)).set 1 (.slice s4 t4 u4) (by simp)).set 2 (.bool m4) (by simp)).set 3 (.slice p4 q4 r4) (by simp)).set 4 (.int .i64 k4) (by simp))
        have blo10 := R9.lo
        have B10 := tn10.below B9 B9.size (fun q hq => by simp at hq; omega)
        have oz10 := ownsP.tn oz9 tn10 ap_R_oz
        clear B9 R9 oz9 tn10 blo10
        subst hw10
        go_wp2
        (try simp only [Exit.inBlock, Exit.then])
        refine bodyPost_ret (v := .tuple #[.agg #[.bool h4, .slice s4 t4 u4, .bool m4, .slice p4 q4 r4, .int .i64 k4], .bool false]) ?_ rfl ⟨_, by rw [HR.out], by rw [HR.out]; exact oz10, B10⟩
        rw [results_cell_tmp rfl]
        go_simp
    · have hr2 := hr.next (by rw [hn.out]; exact hlt) hd hc
      clear hr hc hd
      clear hlt
      go_wp2_with fail
      have hcell := fun W (h : Below w.heap.size w W) => (h.cell (p := ⟨g0, o0 + k, none⟩) hgl).trans hgc
      obtain ⟨w4, hw4⟩ : ∃ v, Hid (v = wr.drew) := ⟨_, rfl⟩
      have bd : Below wr.heap.size wr w4 := by rw [hw4.out]; exact (Below.refl wr.heap.size wr).drew
      have B4 := B3.trans (bd.mono B3.size)
      have X4 := X3.below bd (Nat.le_refl _)
      have R4 := R3.below bd (Nat.le_refl _)
      have O4 := O3.below bd (Nat.le_refl _)
      have oa4 := ownsP.below oa3 bd (Nat.le_refl _)
      clear B3 X3 R3 O3 oa3 bd
      apply wpCutBANNBANNIN (F := fun h3 s3 t3 u3 m3 p3 q3 r3 k3 qb6 W => Below w.heap.size w W  ∧ BoxL W w.heap.size qb6 [.bool h3, .slice s3 t3 u3, .bool m3, .slice p3 q3 r3, .int .i64 k3] ∧ BoxL W w.heap.size qb2 [.bool h2, .slice s2 t2 u2, .bool m2, .slice p2 q2 r2, .int .i64 k2] ∧ BoxL W w.heap.size (w.heap.size + 1) [.bool false, .slice none 0 0, .bool false, .slice none 0 0, .int .i64 0] ∧ BoxL W w.heap.size w.heap.size [.bool gx, .slice ax nx cx, .bool gy, .slice ay ny cy, .int .i64 kx] ∧ ownsP W w.heap.size (.agg #[.bool h2, .slice s2 t2 u2, .bool m2, .slice p2 q2 r2, .int .i64 k2]) b ∧ ownsP W w.heap.size (.agg #[.bool h3, .slice s3 t3 u3, .bool m3, .slice p3 q3 r3, .int .i64 k3]) c ∧ Apart (blkP (.agg #[.bool h2, .slice s2 t2 u2, .bool m2, .slice p2 q2 r2, .int .i64 k2])) [qb6] ∧ Apart (blkP (.agg #[.bool h3, .slice s3 t3 u3, .bool m3, .slice p3 q3 r3, .int .i64 k3])) [qb6] ∧ Apart (blkP (.agg #[.bool h3, .slice s3 t3 u3, .bool m3, .slice p3 q3 r3, .int .i64 k3])) [qb2] ∧ Apart (blkP (.agg #[.bool h3, .slice s3 t3 u3, .bool m3, .slice p3 q3 r3, .int .i64 k3])) [w.heap.size + 1] ∧ Apart (blkP (.agg #[.bool h3, .slice s3 t3 u3, .bool m3, .slice p3 q3 r3, .int .i64 k3])) [w.heap.size] ∧ Apart (blkP (.agg #[.bool h2, .slice s2 t2 u2, .bool m2, .slice p2 q2 r2, .int .i64 k2])) (blkP (.agg #[.bool h3, .slice s3 t3 u3, .bool m3, .slice p3 q3 r3, .int .i64 k3])) ∧ qb2 < qb6 ∧ w.heap.size + 1 < qb6 ∧ w.heap.size < qb6)
      case hA =>
        have hH : (fun W : World => W.cell? ⟨qb2, 0, none⟩ = some (.bool h2) ∧ W.cell? ⟨qb2, 1, none⟩ = some (.slice s2 t2 u2) ∧ W.cell? ⟨qb2, 2, none⟩ = some (.bool m2) ∧ W.cell? ⟨qb2, 3, none⟩ = some (.slice p2 q2 r2) ∧ W.cell? ⟨qb2, 4, none⟩ = some (.int .i64 k2) ∧ W.cell? ⟨g0, o0 + k, none⟩ = some (.int .i64 d)) w4 := ⟨O4.c 0 _ rfl, O4.c 1 _ rfl, O4.c 2 _ rfl, O4.c 3 _ rfl, O4.c 4 _ rfl, hcell _ B4⟩
        refine wp_region_held_drew (S := fun W => W.cell? ⟨qb2, 0, none⟩ = some (.bool h2) ∧ W.cell? ⟨qb2, 1, none⟩ = some (.slice s2 t2 u2) ∧ W.cell? ⟨qb2, 2, none⟩ = some (.bool m2) ∧ W.cell? ⟨qb2, 3, none⟩ = some (.slice p2 q2 r2) ∧ W.cell? ⟨qb2, 4, none⟩ = some (.int .i64 k2) ∧ W.cell? ⟨g0, o0 + k, none⟩ = some (.int .i64 d)) (by kernel_rfl) (by rw [← hw4.out]; exact hH) ?_
        intro _
        rw [← hw4.out]
        refine takeH 0 (some 19) (.agg #[.bool h2, .slice s2 t2 u2, .bool m2, .slice p2 q2 r2, .int .i64 k2]) rfl rfl (by kernel_rfl) (by kernel_rfl) (by kernel_rfl) (fun _ _ _ h => h) (Or.inl ⟨rfl, fun W hW => by obtain ⟨l0, l1, l2, l3, l4, l5⟩ := hW; go_simp⟩) hH ?_
        simp only [Act.put, List.setIfInBounds_toArray, List.set_cons_zero, List.set_cons_succ]
        refine takeH 1 (some 20) (.int .i64 (k : Int)) rfl rfl (by kernel_rfl) (by kernel_rfl) (by kernel_rfl) (fun _ _ _ h => h) (Or.inl ⟨rfl, fun W hW => by go_simp⟩) hH ?_
        simp only [Act.put, List.setIfInBounds_toArray, List.set_cons_zero, List.set_cons_succ]
        refine takeH 2 (some 21) (.slice (some ⟨g0, o0, none⟩) n cap) rfl rfl (by kernel_rfl) (by kernel_rfl) (by kernel_rfl) (fun _ _ _ h => h) (Or.inl ⟨rfl, fun W hW => by go_simp⟩) hH ?_
        simp only [Act.put, List.setIfInBounds_toArray, List.set_cons_zero, List.set_cons_succ]
        refine takeH 3 (some 22) (.int .i64 (k : Int)) rfl rfl (by kernel_rfl) (by kernel_rfl) (by kernel_rfl) (fun _ _ _ h => h) (Or.inl ⟨rfl, fun W hW => by go_simp⟩) hH ?_
        simp only [Act.put, List.setIfInBounds_toArray, List.set_cons_zero, List.set_cons_succ]
        refine takeH 4 (some 23) (.pointer (some ⟨g0, o0 + k, none⟩)) rfl rfl (by kernel_rfl) (by kernel_rfl) (by kernel_rfl) (fun _ _ _ h => h) (Or.inl ⟨rfl, fun W hW => by go_simp⟩) hH ?_
        simp only [Act.put, List.setIfInBounds_toArray, List.set_cons_zero, List.set_cons_succ]
        refine takeH 5 (some 24) (.int .i64 d) rfl rfl (by kernel_rfl) (by kernel_rfl) (by kernel_rfl) (fun _ _ _ h => h) (Or.inl ⟨rfl, fun W hW => by obtain ⟨l0, l1, l2, l3, l4, l5⟩ := hW; go_simp⟩) hH ?_
        simp only [Act.put, List.setIfInBounds_toArray, List.set_cons_zero, List.set_cons_succ]
        refine wpAnyH_ready (rs := [6, 10]) (by kernel_rfl) (by simp) ?_
        refine AllReadyH.cons rfl (fun K hK => ?_) ?_
        · go_simp
          refine (kS _ _ oa4.row).mono ?_
          rintro e w5 ⟨v, rfl, oc, bb5⟩
          obtain ⟨h3, s3, t3, u3, m3, p3, q3, r3, eq3⟩ := oc.cell
          obtain ⟨k3, hk3⟩ : ∃ q, c.2 = q := ⟨_, rfl⟩
          rw [hk3] at eq3
          subst eq3
          replace hk3 : Hid (c.2 = k3) := hk3
          have ap_X_oc : Apart (blkP (.agg #[.bool h3, .slice s3 t3 u3, .bool m3, .slice p3 q3 r3, .int .i64 k3])) [w.heap.size] := apart_one fun q hq => by have h1 := (ownsP.ltb oc q hq).1; have h2 := X4.hi; omega
          have ap_R_oc : Apart (blkP (.agg #[.bool h3, .slice s3 t3 u3, .bool m3, .slice p3 q3 r3, .int .i64 k3])) [w.heap.size + 1] := apart_one fun q hq => by have h1 := (ownsP.ltb oc q hq).1; have h2 := R4.hi; omega
          have ap_O_oc : Apart (blkP (.agg #[.bool h3, .slice s3 t3 u3, .bool m3, .slice p3 q3 r3, .int .i64 k3])) [qb2] := apart_one fun q hq => by have h1 := (ownsP.ltb oc q hq).1; have h2 := O4.hi; omega
          have ap_oa_oc : Apart (blkP (.agg #[.bool h2, .slice s2 t2 u2, .bool m2, .slice p2 q2 r2, .int .i64 k2])) (blkP (.agg #[.bool h3, .slice s3 t3 u3, .bool m3, .slice p3 q3 r3, .int .i64 k3])) := apart_of (fun k hk => (ownsP.ltb oa4 k hk).2) (fun k hk => (ownsP.ltb oc k hk).1)
          replace oc := ownsP_mono oc B4.size
          have B5 := B4.trans (bb5.mono B4.size)
          have X5 := X4.below bb5 (Nat.le_refl _)
          have R5 := R4.below bb5 (Nat.le_refl _)
          have O5 := O4.below bb5 (Nat.le_refl _)
          have oa5 := ownsP.below oa4 bb5 (Nat.le_refl _)
          clear bb5 hH
          have oc5 := oc
          clear oc
          have hH : (fun W : World => W.cell? ⟨qb2, 0, none⟩ = some (.bool h2) ∧ W.cell? ⟨qb2, 1, none⟩ = some (.slice s2 t2 u2) ∧ W.cell? ⟨qb2, 2, none⟩ = some (.bool m2) ∧ W.cell? ⟨qb2, 3, none⟩ = some (.slice p2 q2 r2) ∧ W.cell? ⟨qb2, 4, none⟩ = some (.int .i64 k2) ∧ W.cell? ⟨g0, o0 + k, none⟩ = some (.int .i64 d)) w5 := ⟨O5.c 0 _ rfl, O5.c 1 _ rfl, O5.c 2 _ rfl, O5.c 3 _ rfl, O5.c 4 _ rfl, hcell _ B5⟩
          refine hK.out _ _ hH (fun _ => ?_)
          clear hK K
          refine takeH 7 (some 18) (.tuple #[.agg #[.bool h3, .slice s3 t3 u3, .bool m3, .slice p3 q3 r3, .int .i64 k3], .bool true]) rfl rfl (by kernel_rfl) (by kernel_rfl) (by kernel_rfl) (fun _ _ _ h => h) (Or.inl ⟨rfl, fun W hW => by go_simp⟩) hH ?_
          simp only [Act.put, List.setIfInBounds_toArray, List.set_cons_zero, List.set_cons_succ]
          refine takeH 8 (some 26) (.agg #[.bool h3, .slice s3 t3 u3, .bool m3, .slice p3 q3 r3, .int .i64 k3]) rfl rfl (by kernel_rfl) (by kernel_rfl) (by kernel_rfl) (fun _ _ _ h => h) (Or.inl ⟨rfl, fun W hW => by go_simp⟩) hH ?_
          simp only [Act.put, List.setIfInBounds_toArray, List.set_cons_zero, List.set_cons_succ]
          refine takeH 9 (some 27) (.bool true) rfl rfl (by kernel_rfl) (by kernel_rfl) (by kernel_rfl) (fun _ _ _ h => h) (Or.inl ⟨rfl, fun W hW => by go_simp⟩) hH ?_
          simp only [Act.put, List.setIfInBounds_toArray, List.set_cons_zero, List.set_cons_succ]
          refine oneH 10 rfl (by kernel_rfl) (fun K' hK => ?_)
          go_simp
          clear hH
          obtain ⟨w6, hw6⟩ : ∃ v, v = w5.alloc (.cells #[.bool false, .slice none 0 0, .bool false, .slice none 0 0, .int .i64 0] 30) := ⟨_, rfl⟩
          have bb6 : Below w5.heap.size w5 w6 := by rw [hw6]; exact below1 _ _
          obtain ⟨qb6, hq6⟩ : ∃ v, v = w5.heap.size := ⟨_, rfl⟩
          have N6 : BoxL w6 w.heap.size qb6 [.bool false, .slice none 0 0, .bool false, .slice none 0 0, .int .i64 0] := by rw [hw6, hq6]; exact (BoxL.made w5 [.bool false, .slice none 0 0, .bool false, .slice none 0 0, .int .i64 0] 30).mono B5.size
          have sn6 : w6.heap.size = qb6 + 1 := by rw [hw6, hq6]; simp
          rw [← hw6]
          (try rw [← hq6])
          clear hw6
          have B6 := B5.trans (bb6.mono B5.size)
          have X6 := X5.below bb6 (Nat.le_refl _)
          have R6 := R5.below bb6 (Nat.le_refl _)
          have O6 := O5.below bb6 (Nat.le_refl _)
          have oa6 := ownsP.below oa5 bb6 (Nat.le_refl _)
          have oc6 := ownsP.below oc5 bb6 (Nat.le_refl _)
          have lt_X_N : w.heap.size < qb6 := by rw [hq6]; exact X5.hi
          have lt_R_N : w.heap.size + 1 < qb6 := by rw [hq6]; exact R5.hi
          have lt_O_N : qb2 < qb6 := by rw [hq6]; exact O5.hi
          have ap_N_oa : Apart (blkP (.agg #[.bool h2, .slice s2 t2 u2, .bool m2, .slice p2 q2 r2, .int .i64 k2])) [qb6] := apart_one fun q hq => by have h1 := (ownsP.ltb oa5 q hq).2; omega
          have ap_N_oc : Apart (blkP (.agg #[.bool h3, .slice s3 t3 u3, .bool m3, .slice p3 q3 r3, .int .i64 k3])) [qb6] := apart_one fun q hq => by have h1 := (ownsP.ltb oc5 q hq).2; omega
          clear B5 X5 R5 O5 oa5 oc5 bb6 hq6 sn6
          have hH : (fun W : World => W.cell? ⟨qb2, 0, none⟩ = some (.bool h2) ∧ W.cell? ⟨qb2, 1, none⟩ = some (.slice s2 t2 u2) ∧ W.cell? ⟨qb2, 2, none⟩ = some (.bool m2) ∧ W.cell? ⟨qb2, 3, none⟩ = some (.slice p2 q2 r2) ∧ W.cell? ⟨qb2, 4, none⟩ = some (.int .i64 k2) ∧ W.cell? ⟨g0, o0 + k, none⟩ = some (.int .i64 d)) w6 := ⟨O6.c 0 _ rfl, O6.c 1 _ rfl, O6.c 2 _ rfl, O6.c 3 _ rfl, O6.c 4 _ rfl, hcell _ B6⟩
          refine hK _ _ hH ?_
          clear hK
          have c_N_0 := N6.c 0 _ rfl
          have f_N_0 := N6.f 0 _ rfl
          have c_N_1 := N6.c 1 _ rfl
          have f_N_1 := N6.f 1 _ rfl
          have c_N_2 := N6.c 2 _ rfl
          have f_N_2 := N6.f 2 _ rfl
          have c_N_3 := N6.c 3 _ rfl
          have f_N_3 := N6.f 3 _ rfl
          have c_N_4 := N6.c 4 _ rfl
          have f_N_4 := N6.f 4 _ rfl
          refine oneH 11 rfl (by kernel_rfl) (fun K' hK => ?_)
          go_simp
          obtain ⟨w7, hw7⟩ : ∃ v, v = ((((w6.setCell ⟨qb6, 0, none⟩ (.bool h3)).setCell ⟨qb6, 1, none⟩ (.slice s3 t3 u3)).setCell ⟨qb6, 2, none⟩ (.bool m3)).setCell ⟨qb6, 3, none⟩ (.slice p3 q3 r3)).setCell ⟨qb6, 4, none⟩ (.int .i64 k3) := ⟨_, rfl⟩
          have tn7 : Tn [qb6] w6 w7 := by rw [hw7]; exact (((((tnL w6 qb6 0 (.bool h3)).trans (tnL _ qb6 1 (.slice s3 t3 u3))).trans (tnL _ qb6 2 (.bool m3))).trans (tnL _ qb6 3 (.slice p3 q3 r3))).trans (tnL _ qb6 4 (.int .i64 k3)))
          have N7 : BoxL w7 w.heap.size qb6 [.bool h3, .slice s3 t3 u3, .bool m3, .slice p3 q3 r3, .int .i64 k3] := by rw [hw7]; exact (((((N6.set 0 (.bool h3) (by simp)).set 1 (.slice s3 t3 u3) (by simp)).set 2 (.bool m3) (by simp)).set 3 (.slice p3 q3 r3) (by simp)).set 4 (.int .i64 k3) (by simp))
          have blo7 := N6.lo
          rw [← hw7]
          clear hw7
          have B7 := tn7.below B6 B6.size (fun q hq => by simp at hq; omega)
          have X7 := X6.tn tn7 (not_one (by omega))
          have R7 := R6.tn tn7 (not_one (by omega))
          have O7 := O6.tn tn7 (not_one (by omega))
          have oa7 := ownsP.tn oa6 tn7 ap_N_oa
          have oc7 := ownsP.tn oc6 tn7 ap_N_oc
          clear B6 X6 R6 O6 oa6 oc6 N6 tn7 blo7
          clear c_N_0 f_N_0 c_N_1 f_N_1 c_N_2 f_N_2 c_N_3 f_N_3 c_N_4 f_N_4
          clear hH
          have hH : (fun W : World => W.cell? ⟨qb2, 0, none⟩ = some (.bool h2) ∧ W.cell? ⟨qb2, 1, none⟩ = some (.slice s2 t2 u2) ∧ W.cell? ⟨qb2, 2, none⟩ = some (.bool m2) ∧ W.cell? ⟨qb2, 3, none⟩ = some (.slice p2 q2 r2) ∧ W.cell? ⟨qb2, 4, none⟩ = some (.int .i64 k2) ∧ W.cell? ⟨g0, o0 + k, none⟩ = some (.int .i64 d)) w7 := ⟨O7.c 0 _ rfl, O7.c 1 _ rfl, O7.c 2 _ rfl, O7.c 3 _ rfl, O7.c 4 _ rfl, hcell _ B7⟩
          refine hK _ _ hH ?_
          clear hK
          refine takeH 12 (some 9) (.bool true) rfl rfl (by kernel_rfl) (by kernel_rfl) (by kernel_rfl) (fun _ _ _ h => h) (Or.inl ⟨rfl, fun W hW => by go_simp⟩) hH ?_
          simp only [Act.put, List.setIfInBounds_toArray, List.set_cons_zero, List.set_cons_succ]
          clear hH
          refine wpAnyH_done (by kernel_rfl) ?_ _
          exact CutBANNBANNIN.mk h3 s3 t3 u3 m3 p3 q3 r3 k3 qb6 rfl ⟨B7, N7, O7, R7, X7, oa7, oc7, ap_N_oa, ap_N_oc, ap_O_oc, ap_R_oc, ap_X_oc, ap_oa_oc, lt_O_N, lt_R_N, lt_X_N⟩
        refine AllReadyH.cons rfl (fun K hK => ?_) ?_
        · go_simp
          clear hH
          obtain ⟨w5, hw5⟩ : ∃ v, v = w4.alloc (.cells #[.bool false, .slice none 0 0, .bool false, .slice none 0 0, .int .i64 0] 30) := ⟨_, rfl⟩
          have bb5 : Below w4.heap.size w4 w5 := by rw [hw5]; exact below1 _ _
          obtain ⟨qb5, hq5⟩ : ∃ v, v = w4.heap.size := ⟨_, rfl⟩
          have N5 : BoxL w5 w.heap.size qb5 [.bool false, .slice none 0 0, .bool false, .slice none 0 0, .int .i64 0] := by rw [hw5, hq5]; exact (BoxL.made w4 [.bool false, .slice none 0 0, .bool false, .slice none 0 0, .int .i64 0] 30).mono B4.size
          have sn5 : w5.heap.size = qb5 + 1 := by rw [hw5, hq5]; simp
          rw [← hw5]
          (try rw [← hq5])
          clear hw5
          have B5 := B4.trans (bb5.mono B4.size)
          have X5 := X4.below bb5 (Nat.le_refl _)
          have R5 := R4.below bb5 (Nat.le_refl _)
          have O5 := O4.below bb5 (Nat.le_refl _)
          have oa5 := ownsP.below oa4 bb5 (Nat.le_refl _)
          have lt_X_N : w.heap.size < qb5 := by rw [hq5]; exact X4.hi
          have lt_R_N : w.heap.size + 1 < qb5 := by rw [hq5]; exact R4.hi
          have lt_O_N : qb2 < qb5 := by rw [hq5]; exact O4.hi
          have ap_N_oa : Apart (blkP (.agg #[.bool h2, .slice s2 t2 u2, .bool m2, .slice p2 q2 r2, .int .i64 k2])) [qb5] := apart_one fun q hq => by have h1 := (ownsP.ltb oa4 q hq).2; omega
          clear bb5 hq5 sn5
          have hH : (fun W : World => W.cell? ⟨qb2, 0, none⟩ = some (.bool h2) ∧ W.cell? ⟨qb2, 1, none⟩ = some (.slice s2 t2 u2) ∧ W.cell? ⟨qb2, 2, none⟩ = some (.bool m2) ∧ W.cell? ⟨qb2, 3, none⟩ = some (.slice p2 q2 r2) ∧ W.cell? ⟨qb2, 4, none⟩ = some (.int .i64 k2) ∧ W.cell? ⟨g0, o0 + k, none⟩ = some (.int .i64 d)) w5 := ⟨O5.c 0 _ rfl, O5.c 1 _ rfl, O5.c 2 _ rfl, O5.c 3 _ rfl, O5.c 4 _ rfl, hcell _ B5⟩
          refine hK.out _ _ hH (fun _ => ?_)
          clear hK K
          refine oneH 6 rfl (by kernel_rfl) (fun K' hK => ?_)
          go_simp
          refine (kS _ _ oa5.row).mono ?_
          rintro e w6 ⟨v, rfl, oc, bb6⟩
          obtain ⟨h3, s3, t3, u3, m3, p3, q3, r3, eq3⟩ := oc.cell
          obtain ⟨k3, hk3⟩ : ∃ q, c.2 = q := ⟨_, rfl⟩
          rw [hk3] at eq3
          subst eq3
          replace hk3 : Hid (c.2 = k3) := hk3
          have ap_X_oc : Apart (blkP (.agg #[.bool h3, .slice s3 t3 u3, .bool m3, .slice p3 q3 r3, .int .i64 k3])) [w.heap.size] := apart_one fun q hq => by have h1 := (ownsP.ltb oc q hq).1; have h2 := X5.hi; omega
          have ap_R_oc : Apart (blkP (.agg #[.bool h3, .slice s3 t3 u3, .bool m3, .slice p3 q3 r3, .int .i64 k3])) [w.heap.size + 1] := apart_one fun q hq => by have h1 := (ownsP.ltb oc q hq).1; have h2 := R5.hi; omega
          have ap_O_oc : Apart (blkP (.agg #[.bool h3, .slice s3 t3 u3, .bool m3, .slice p3 q3 r3, .int .i64 k3])) [qb2] := apart_one fun q hq => by have h1 := (ownsP.ltb oc q hq).1; have h2 := O5.hi; omega
          have ap_N_oc : Apart (blkP (.agg #[.bool h3, .slice s3 t3 u3, .bool m3, .slice p3 q3 r3, .int .i64 k3])) [qb5] := apart_one fun q hq => by have h1 := (ownsP.ltb oc q hq).1; have h2 := N5.hi; omega
          have ap_oa_oc : Apart (blkP (.agg #[.bool h2, .slice s2 t2 u2, .bool m2, .slice p2 q2 r2, .int .i64 k2])) (blkP (.agg #[.bool h3, .slice s3 t3 u3, .bool m3, .slice p3 q3 r3, .int .i64 k3])) := apart_of (fun k hk => (ownsP.ltb oa5 k hk).2) (fun k hk => (ownsP.ltb oc k hk).1)
          replace oc := ownsP_mono oc B5.size
          have B6 := B5.trans (bb6.mono B5.size)
          have X6 := X5.below bb6 (Nat.le_refl _)
          have R6 := R5.below bb6 (Nat.le_refl _)
          have O6 := O5.below bb6 (Nat.le_refl _)
          have oa6 := ownsP.below oa5 bb6 (Nat.le_refl _)
          have N6 := N5.below bb6 (Nat.le_refl _)
          clear B5 X5 R5 O5 oa5 N5 bb6 hH
          have oc6 := oc
          clear oc
          have hH : (fun W : World => W.cell? ⟨qb2, 0, none⟩ = some (.bool h2) ∧ W.cell? ⟨qb2, 1, none⟩ = some (.slice s2 t2 u2) ∧ W.cell? ⟨qb2, 2, none⟩ = some (.bool m2) ∧ W.cell? ⟨qb2, 3, none⟩ = some (.slice p2 q2 r2) ∧ W.cell? ⟨qb2, 4, none⟩ = some (.int .i64 k2) ∧ W.cell? ⟨g0, o0 + k, none⟩ = some (.int .i64 d)) w6 := ⟨O6.c 0 _ rfl, O6.c 1 _ rfl, O6.c 2 _ rfl, O6.c 3 _ rfl, O6.c 4 _ rfl, hcell _ B6⟩
          refine hK _ _ hH ?_
          clear hK
          refine takeH 7 (some 18) (.tuple #[.agg #[.bool h3, .slice s3 t3 u3, .bool m3, .slice p3 q3 r3, .int .i64 k3], .bool true]) rfl rfl (by kernel_rfl) (by kernel_rfl) (by kernel_rfl) (fun _ _ _ h => h) (Or.inl ⟨rfl, fun W hW => by go_simp⟩) hH ?_
          simp only [Act.put, List.setIfInBounds_toArray, List.set_cons_zero, List.set_cons_succ]
          refine takeH 8 (some 26) (.agg #[.bool h3, .slice s3 t3 u3, .bool m3, .slice p3 q3 r3, .int .i64 k3]) rfl rfl (by kernel_rfl) (by kernel_rfl) (by kernel_rfl) (fun _ _ _ h => h) (Or.inl ⟨rfl, fun W hW => by go_simp⟩) hH ?_
          simp only [Act.put, List.setIfInBounds_toArray, List.set_cons_zero, List.set_cons_succ]
          refine takeH 9 (some 27) (.bool true) rfl rfl (by kernel_rfl) (by kernel_rfl) (by kernel_rfl) (fun _ _ _ h => h) (Or.inl ⟨rfl, fun W hW => by go_simp⟩) hH ?_
          simp only [Act.put, List.setIfInBounds_toArray, List.set_cons_zero, List.set_cons_succ]
          have c_N_0 := N6.c 0 _ rfl
          have f_N_0 := N6.f 0 _ rfl
          have c_N_1 := N6.c 1 _ rfl
          have f_N_1 := N6.f 1 _ rfl
          have c_N_2 := N6.c 2 _ rfl
          have f_N_2 := N6.f 2 _ rfl
          have c_N_3 := N6.c 3 _ rfl
          have f_N_3 := N6.f 3 _ rfl
          have c_N_4 := N6.c 4 _ rfl
          have f_N_4 := N6.f 4 _ rfl
          refine oneH 11 rfl (by kernel_rfl) (fun K' hK => ?_)
          go_simp
          obtain ⟨w7, hw7⟩ : ∃ v, v = ((((w6.setCell ⟨qb5, 0, none⟩ (.bool h3)).setCell ⟨qb5, 1, none⟩ (.slice s3 t3 u3)).setCell ⟨qb5, 2, none⟩ (.bool m3)).setCell ⟨qb5, 3, none⟩ (.slice p3 q3 r3)).setCell ⟨qb5, 4, none⟩ (.int .i64 k3) := ⟨_, rfl⟩
          have tn7 : Tn [qb5] w6 w7 := by rw [hw7]; exact (((((tnL w6 qb5 0 (.bool h3)).trans (tnL _ qb5 1 (.slice s3 t3 u3))).trans (tnL _ qb5 2 (.bool m3))).trans (tnL _ qb5 3 (.slice p3 q3 r3))).trans (tnL _ qb5 4 (.int .i64 k3)))
          have N7 : BoxL w7 w.heap.size qb5 [.bool h3, .slice s3 t3 u3, .bool m3, .slice p3 q3 r3, .int .i64 k3] := by rw [hw7]; exact (((((N6.set 0 (.bool h3) (by simp)).set 1 (.slice s3 t3 u3) (by simp)).set 2 (.bool m3) (by simp)).set 3 (.slice p3 q3 r3) (by simp)).set 4 (.int .i64 k3) (by simp))
          have blo7 := N6.lo
          rw [← hw7]
          clear hw7
          have B7 := tn7.below B6 B6.size (fun q hq => by simp at hq; omega)
          have X7 := X6.tn tn7 (not_one (by omega))
          have R7 := R6.tn tn7 (not_one (by omega))
          have O7 := O6.tn tn7 (not_one (by omega))
          have oa7 := ownsP.tn oa6 tn7 ap_N_oa
          have oc7 := ownsP.tn oc6 tn7 ap_N_oc
          clear B6 X6 R6 O6 oa6 N6 oc6 tn7 blo7
          clear c_N_0 f_N_0 c_N_1 f_N_1 c_N_2 f_N_2 c_N_3 f_N_3 c_N_4 f_N_4
          clear hH
          have hH : (fun W : World => W.cell? ⟨qb2, 0, none⟩ = some (.bool h2) ∧ W.cell? ⟨qb2, 1, none⟩ = some (.slice s2 t2 u2) ∧ W.cell? ⟨qb2, 2, none⟩ = some (.bool m2) ∧ W.cell? ⟨qb2, 3, none⟩ = some (.slice p2 q2 r2) ∧ W.cell? ⟨qb2, 4, none⟩ = some (.int .i64 k2) ∧ W.cell? ⟨g0, o0 + k, none⟩ = some (.int .i64 d)) w7 := ⟨O7.c 0 _ rfl, O7.c 1 _ rfl, O7.c 2 _ rfl, O7.c 3 _ rfl, O7.c 4 _ rfl, hcell _ B7⟩
          refine hK _ _ hH ?_
          clear hK
          refine takeH 12 (some 9) (.bool true) rfl rfl (by kernel_rfl) (by kernel_rfl) (by kernel_rfl) (fun _ _ _ h => h) (Or.inl ⟨rfl, fun W hW => by go_simp⟩) hH ?_
          simp only [Act.put, List.setIfInBounds_toArray, List.set_cons_zero, List.set_cons_succ]
          clear hH
          refine wpAnyH_done (by kernel_rfl) ?_ _
          exact CutBANNBANNIN.mk h3 s3 t3 u3 m3 p3 q3 r3 k3 qb5 rfl ⟨B7, N7, O7, R7, X7, oa7, oc7, ap_N_oa, ap_N_oc, ap_O_oc, ap_R_oc, ap_X_oc, ap_oa_oc, lt_O_N, lt_R_N, lt_X_N⟩
        exact AllReadyH.nil
      case hB =>
        rintro h3 s3 t3 u3 m3 p3 q3 r3 k3 qb6 w8 ⟨B8, N8, O8, R8, X8, oa8, oc8, ap_N_oa, ap_N_oc, ap_O_oc, ap_R_oc, ap_X_oc, ap_oa_oc, lt_O_N, lt_R_N, lt_X_N⟩
        clear kS
        clear oa8
        have hk3 : Hid (c.2 = k3) := ownsP.key oc8
        have c_N_0 := N8.c 0 _ rfl
        have c_N_1 := N8.c 1 _ rfl
        have c_N_2 := N8.c 2 _ rfl
        have c_N_3 := N8.c 3 _ rfl
        have c_N_4 := N8.c 4 _ rfl
        have c_O_0 := O8.c 0 _ rfl
        have f_O_0 := O8.f 0 _ rfl
        have c_O_1 := O8.c 1 _ rfl
        have f_O_1 := O8.f 1 _ rfl
        have c_O_2 := O8.c 2 _ rfl
        have f_O_2 := O8.f 2 _ rfl
        have c_O_3 := O8.c 3 _ rfl
        have f_O_3 := O8.f 3 _ rfl
        have c_O_4 := O8.c 4 _ rfl
        have f_O_4 := O8.f 4 _ rfl
        obtain ⟨w9, hw9⟩ : ∃ v, v = ((((w8.setCell ⟨qb2, 0, none⟩ (.bool h3)).setCell ⟨qb2, 1, none⟩ (.slice s3 t3 u3)).setCell ⟨qb2, 2, none⟩ (.bool m3)).setCell ⟨qb2, 3, none⟩ (.slice p3 q3 r3)).setCell ⟨qb2, 4, none⟩ (.int .i64 k3) := ⟨_, rfl⟩
        have tn9 : Tn [qb2] w8 w9 := by rw [hw9]; exact (((((tnL w8 qb2 0 (.bool h3)).trans (tnL _ qb2 1 (.slice s3 t3 u3))).trans (tnL _ qb2 2 (.bool m3))).trans (tnL _ qb2 3 (.slice p3 q3 r3))).trans (tnL _ qb2 4 (.int .i64 k3)))
        have O9 : BoxL w9 w.heap.size qb2 [.bool h3, .slice s3 t3 u3, .bool m3, .slice p3 q3 r3, .int .i64 k3] := by rw [hw9]; exact (((((O8.set 0 (.bool h3) (by simp)).set 1 (.slice s3 t3 u3) (by simp)).set 2 (.bool m3) (by simp)).set 3 (.slice p3 q3 r3) (by simp)).set 4 (.int .i64 k3) (by simp))
        have blo9 := O8.lo
        have B9 := tn9.below B8 B8.size (fun q hq => by simp at hq; omega)
        have X9 := X8.tn tn9 (not_one (by omega))
        have R9 := R8.tn tn9 (not_one (by omega))
        have oc9 := ownsP.tn oc8 tn9 ap_O_oc
        have N9 := N8.tn tn9 (not_one (by omega))
        clear B8 X8 R8 O8 oc8 N8 tn9 blo9
        subst hw9
        go_wp2
        go_roundw
        case rel => exact ⟨k + 1, c, h3, s3, t3, u3, m3, p3, q3, r3, k3, by omega, hr2, hk3, by go_num, O9, R9, X9, oc9, ap_X_oc, ap_R_oc, ap_O_oc, B9⟩
        case measure => simp [intOf]; omega

end Go.Proofs.Ytkbnfillbdjboaa
