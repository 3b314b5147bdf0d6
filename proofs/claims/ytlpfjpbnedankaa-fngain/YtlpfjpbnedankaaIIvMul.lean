/- IvMul of the program, by its contract. -/
import Derived.Test.YtlpfjpbnedankaaMulR
import Derived.Test.YtlpfjpbnedankaaMulSp
import Derived.Test.YtlpfjpbnedankaaITwoSp
import Derived.Test.YtlpfjpbnedankaaSIvOk
import Derived.Test.YtlpfjpbnedankaaNB
import Derived.Test.YtlpfjpbnedankaaFB
namespace Go.Proofs.Ytlpfjpbnedankaa
open Go.RowKit
set_option linter.unusedSimpArgs false
set_option linter.unusedVariables false

set_option maxRecDepth 20000 in
set_option maxHeartbeats 6400000 in
theorem iIvMul (va : Value) (vb : Value) (a : Vh) (b : Vh) (p : Int) (w : World) (ha : rowV w va a) (hb : rowV w vb b) (hla0 : a.1.2.length ≤ 1048576) (hla1 : a.2.2.length ≤ 1048576) (hlb0 : b.1.2.length ≤ 1048576) (hlb1 : b.2.2.length ≤ 1048576) :
    Calls Try.prog 10 #[va, vb, .int .i64 p] w fun e w' => ∃ v, e = .returned (.tuple #[v, .bool (ivMulR a b p).2]) ∧ ownsV w' w.heap.size v (ivMulR a b p).1 ∧ Below w.heap.size w w' := by
  have kT := fun W (h : Below w.heap.size w W) => twoSpans_c va vb a b W (ha.below h (Nat.le_refl _)) (hb.below h (Nat.le_refl _)) hla0 hla1 hlb0 hlb1
  unfold spansA at kT
  have kI := fun W => placesAt_b p W
  by_cases c0 : okV a = true ∧ okV b = true
  case neg =>
    have hand : (okV a && okV b) = false := by
      cases h5 : okV a
      · rfl
      · cases h6 : okV b
        · rfl
        · exact absurd ⟨h5, h6⟩ c0
    rw [hand] at kT
    clear hand
    have HR : Hid (ivMulR a b p = (((false, []), (false, [])), false)) := by show _ = _; unfold ivMulR; rw [if_neg (fun h => c0 ⟨h.1, h.2.1⟩)]
    obtain ⟨rr, hrr⟩ : ∃ r, ivMulR a b p = r := ⟨_, rfl⟩
    rw [hrr] at HR
    rw [hrr]
    clear hrr
    clear c0
    obtain ⟨gx1, ax1, nx1, cx1, gy1, ay1, ny1, cy1, eq1, hgx1, hgy1⟩ := ha.cell
    subst eq1
    replace hgx1 : Hid (gx1 = _) := hgx1
    replace hgy1 : Hid (gy1 = _) := hgy1
    obtain ⟨gx2, ax2, nx2, cx2, gy2, ay2, ny2, cy2, eq2, hgx2, hgy2⟩ := hb.cell
    subst eq2
    replace hgx2 : Hid (gx2 = _) := hgx2
    replace hgy2 : Hid (gy2 = _) := hgy2
    clear ha hla0 hla1 hb hlb0 hlb1 kI
    have B0_0 : Below w.heap.size w w := Below.refl _ _
    obtain ⟨ww1, hww1⟩ : ∃ v, v = w.alloc (.cells #[.bool gx1, .slice ax1 nx1 cx1, .bool gy1, .slice ay1 ny1 cy1] 29) := ⟨_, rfl⟩
    have sz1 : ww1.heap.size = w.heap.size + 1 := by rw [hww1]; simp
    have bw1 : Below w.heap.size w ww1 := by rw [hww1]; exact below1 _ _
    have B0_1 := B0_0.trans (bw1.mono B0_0.size)
    have X0_1 : BoxL ww1 w.heap.size w.heap.size [.bool gx1, .slice ax1 nx1 cx1, .bool gy1, .slice ay1 ny1 cy1] := by rw [hww1]; have h := BoxL.made w [.bool gx1, .slice ax1 nx1 cx1, .bool gy1, .slice ay1 ny1 cy1] 29; exact h
    obtain ⟨ww2, hww2⟩ : ∃ v, v = ww1.alloc (.cells #[.bool gx2, .slice ax2 nx2 cx2, .bool gy2, .slice ay2 ny2 cy2] 29) := ⟨_, rfl⟩
    have sz2 : ww2.heap.size = w.heap.size + 1 + 1 := by rw [hww2]; simp [sz1]
    have bw2 : Below ww1.heap.size ww1 ww2 := by rw [hww2]; exact below1 _ _
    have B0_2 := B0_1.trans (bw2.mono B0_1.size)
    have X0_2 := X0_1.below bw2 (Nat.le_refl _)
    have Y0_2 : BoxL ww2 (w.heap.size + 1) (w.heap.size + 1) [.bool gx2, .slice ax2 nx2 cx2, .bool gy2, .slice ay2 ny2 cy2] := by rw [hww2]; have h := BoxL.made ww1 [.bool gx2, .slice ax2 nx2 cx2, .bool gy2, .slice ay2 ny2 cy2] 29; rw [sz1] at h; exact h
    obtain ⟨ww3, hww3⟩ : ∃ v, v = ww2.alloc (.cells #[.bool false, .slice none 0 0, .bool false, .slice none 0 0] 29) := ⟨_, rfl⟩
    have sz3 : ww3.heap.size = w.heap.size + 1 + 1 + 1 := by rw [hww3]; simp [sz2]
    have bw3 : Below ww2.heap.size ww2 ww3 := by rw [hww3]; exact below1 _ _
    have B0_3 := B0_2.trans (bw3.mono B0_2.size)
    have X0_3 := X0_2.below bw3 (Nat.le_refl _)
    have Y0_3 := Y0_2.below bw3 (Nat.le_refl _)
    have R0_3 : BoxL ww3 (w.heap.size + 1 + 1) (w.heap.size + 1 + 1) [.bool false, .slice none 0 0, .bool false, .slice none 0 0] := by rw [hww3]; have h := BoxL.made ww2 [.bool false, .slice none 0 0, .bool false, .slice none 0 0] 29; rw [sz2] at h; exact h
    have X0 := X0_3
    have Y0 := Y0_3.mono (by omega : w.heap.size ≤ w.heap.size + 1)
    have R0 := R0_3.mono (by omega : w.heap.size ≤ w.heap.size + 1 + 1)
    have B0 := B0_3
    clear B0_0 B0_1 B0_2 B0_3 bw1 bw2 bw3 X0_1 X0_2 X0_3 Y0_2 Y0_3 R0_3
    go_enter Try.func10, Try.ntmps10
    go_wp2_with fail
    have hvv : ((w.alloc (.cells #[.bool gx1, .slice ax1 nx1 cx1, .bool gy1, .slice ay1 ny1 cy1] 29)).alloc (.cells #[.bool gx2, .slice ax2 nx2 cx2, .bool gy2, .slice ay2 ny2 cy2] 29)).alloc (.cells #[.bool false, .slice none 0 0, .bool false, .slice none 0 0] 29) = ww3 := by rw [hww3]; rw [hww2]; rw [hww1]
    rw [hvv]
    clear hvv hww1 hww2 hww3 sz1 sz2
    clear ww1 ww2
    have hz0 : w.heap.size + 3 ≤ ww3.heap.size := by omega
    clear sz3
    refine (kT _ B0).mono ?_
    rintro e w1 ⟨ox1, oy1, ox2, oy2, rfl, bb1, hXY⟩
    have B1 := B0.trans (bb1.mono B0.size)
    have X1 := X0.below bb1 (Nat.le_refl _)
    have Y1 := Y0.below bb1 (Nat.le_refl _)
    have R1 := R0.below bb1 (Nat.le_refl _)
    clear B0 X0 Y0 R0 bb1
    clear kT hXY
    clear X1 Y1
    obtain ⟨y1, hy1⟩ : ∃ v, v = w1.alloc (.cells #[.pointer ox1, .pointer oy1] 52) := ⟨_, rfl⟩
    have by1 : Below w1.heap.size w1 y1 := by rw [hy1]; exact below1 _ _
    have Ry1 := R1.below by1 (Nat.le_refl _)
    have By1 := B1.trans (by1.mono B1.size)
    obtain ⟨y2, hy2⟩ : ∃ v, v = y1.alloc (.cells #[.pointer ox2, .pointer oy2] 52) := ⟨_, rfl⟩
    have by2 : Below y1.heap.size y1 y2 := by rw [hy2]; exact below1 _ _
    have Ry2 := Ry1.below by2 (Nat.le_refl _)
    have By2 := By1.trans (by2.mono By1.size)
    clear by1 by2 B1 By1 Ry1
    have hlt : w.heap.size + 1 + 1 < w1.heap.size := R1.hi
    have c_R_0 := Ry2.c 0 _ rfl
    have f_R_0 := Ry2.f 0 _ rfl
    have c_R_1 := Ry2.c 1 _ rfl
    have f_R_1 := Ry2.f 1 _ rfl
    have c_R_2 := Ry2.c 2 _ rfl
    have f_R_2 := Ry2.f 2 _ rfl
    have c_R_3 := Ry2.c 3 _ rfl
    have f_R_3 := Ry2.f 3 _ rfl
    have HB : Hid (Below w.heap.size w _) := ((((By2.setCell (p := ⟨w.heap.size + 1 + 1, 0, none⟩) (by show w.heap.size ≤ w.heap.size + 1 + 1; omega) (.bool false)).setCell (p := ⟨w.heap.size + 1 + 1, 1, none⟩) (by show w.heap.size ≤ w.heap.size + 1 + 1; omega) (.slice none 0 0)).setCell (p := ⟨w.heap.size + 1 + 1, 2, none⟩) (by show w.heap.size ≤ w.heap.size + 1 + 1; omega) (.bool false)).setCell (p := ⟨w.heap.size + 1 + 1, 3, none⟩) (by show w.heap.size ≤ w.heap.size + 1 + 1; omega) (.slice none 0 0))
    subst hy2 hy1
    clear By2 Ry2 R1
    go_wp2
    (try simp only [Exit.inBlock, Exit.then])
    refine bodyPost_ret (v := .tuple #[.agg #[.bool false, .slice none 0 0, .bool false, .slice none 0 0], .bool false]) ?_ rfl ⟨_, by rw [HR.out], by rw [HR.out]; exact nilV _ _, HB.out⟩
    rw [results_cell_tmp rfl]
    go_simp
  rw [c0.1, c0.2] at kT
  have za := okV_yes c0.1
  have la0 := okW_lenV za.1
  have la1 := okW_lenV za.2.1
  have lea := za.2.2
  have zb := okV_yes c0.2
  have lb0 := okW_lenV zb.1
  have lb1 := okW_lenV zb.2.1
  have leb := zb.2.2
  by_cases c1 : 0 ≤ p ∧ p ≤ 480
  case neg =>
    have HR : Hid (ivMulR a b p = (((false, []), (false, [])), false)) := by show _ = _; unfold ivMulR; rw [if_neg (fun h => c1 h.2.2)]
    obtain ⟨rr, hrr⟩ : ∃ r, ivMulR a b p = r := ⟨_, rfl⟩
    rw [hrr] at HR
    rw [hrr]
    clear hrr
    rw [decide_eq_false c1] at kI
    clear c0 c1
    obtain ⟨gx1, ax1, nx1, cx1, gy1, ay1, ny1, cy1, eq1, hgx1, hgy1⟩ := ha.cell
    subst eq1
    replace hgx1 : Hid (gx1 = _) := hgx1
    replace hgy1 : Hid (gy1 = _) := hgy1
    obtain ⟨gx2, ax2, nx2, cx2, gy2, ay2, ny2, cy2, eq2, hgx2, hgy2⟩ := hb.cell
    subst eq2
    replace hgx2 : Hid (gx2 = _) := hgx2
    replace hgy2 : Hid (gy2 = _) := hgy2
    clear ha hla0 hla1 za la0 la1 lea hb hlb0 hlb1 zb lb0 lb1 leb
    generalize valW a.1 = x1 at *
    generalize valW a.2 = y1 at *
    generalize valW b.1 = x2 at *
    generalize valW b.2 = y2 at *
    have B0_0 : Below w.heap.size w w := Below.refl _ _
    obtain ⟨ww1, hww1⟩ : ∃ v, v = w.alloc (.cells #[.bool gx1, .slice ax1 nx1 cx1, .bool gy1, .slice ay1 ny1 cy1] 29) := ⟨_, rfl⟩
    have sz1 : ww1.heap.size = w.heap.size + 1 := by rw [hww1]; simp
    have bw1 : Below w.heap.size w ww1 := by rw [hww1]; exact below1 _ _
    have B0_1 := B0_0.trans (bw1.mono B0_0.size)
    have X0_1 : BoxL ww1 w.heap.size w.heap.size [.bool gx1, .slice ax1 nx1 cx1, .bool gy1, .slice ay1 ny1 cy1] := by rw [hww1]; have h := BoxL.made w [.bool gx1, .slice ax1 nx1 cx1, .bool gy1, .slice ay1 ny1 cy1] 29; exact h
    obtain ⟨ww2, hww2⟩ : ∃ v, v = ww1.alloc (.cells #[.bool gx2, .slice ax2 nx2 cx2, .bool gy2, .slice ay2 ny2 cy2] 29) := ⟨_, rfl⟩
    have sz2 : ww2.heap.size = w.heap.size + 1 + 1 := by rw [hww2]; simp [sz1]
    have bw2 : Below ww1.heap.size ww1 ww2 := by rw [hww2]; exact below1 _ _
    have B0_2 := B0_1.trans (bw2.mono B0_1.size)
    have X0_2 := X0_1.below bw2 (Nat.le_refl _)
    have Y0_2 : BoxL ww2 (w.heap.size + 1) (w.heap.size + 1) [.bool gx2, .slice ax2 nx2 cx2, .bool gy2, .slice ay2 ny2 cy2] := by rw [hww2]; have h := BoxL.made ww1 [.bool gx2, .slice ax2 nx2 cx2, .bool gy2, .slice ay2 ny2 cy2] 29; rw [sz1] at h; exact h
    obtain ⟨ww3, hww3⟩ : ∃ v, v = ww2.alloc (.cells #[.bool false, .slice none 0 0, .bool false, .slice none 0 0] 29) := ⟨_, rfl⟩
    have sz3 : ww3.heap.size = w.heap.size + 1 + 1 + 1 := by rw [hww3]; simp [sz2]
    have bw3 : Below ww2.heap.size ww2 ww3 := by rw [hww3]; exact below1 _ _
    have B0_3 := B0_2.trans (bw3.mono B0_2.size)
    have X0_3 := X0_2.below bw3 (Nat.le_refl _)
    have Y0_3 := Y0_2.below bw3 (Nat.le_refl _)
    have R0_3 : BoxL ww3 (w.heap.size + 1 + 1) (w.heap.size + 1 + 1) [.bool false, .slice none 0 0, .bool false, .slice none 0 0] := by rw [hww3]; have h := BoxL.made ww2 [.bool false, .slice none 0 0, .bool false, .slice none 0 0] 29; rw [sz2] at h; exact h
    have X0 := X0_3
    have Y0 := Y0_3.mono (by omega : w.heap.size ≤ w.heap.size + 1)
    have R0 := R0_3.mono (by omega : w.heap.size ≤ w.heap.size + 1 + 1)
    have B0 := B0_3
    clear B0_0 B0_1 B0_2 B0_3 bw1 bw2 bw3 X0_1 X0_2 X0_3 Y0_2 Y0_3 R0_3
    go_enter Try.func10, Try.ntmps10
    go_wp2_with fail
    have hvv : ((w.alloc (.cells #[.bool gx1, .slice ax1 nx1 cx1, .bool gy1, .slice ay1 ny1 cy1] 29)).alloc (.cells #[.bool gx2, .slice ax2 nx2 cx2, .bool gy2, .slice ay2 ny2 cy2] 29)).alloc (.cells #[.bool false, .slice none 0 0, .bool false, .slice none 0 0] 29) = ww3 := by rw [hww3]; rw [hww2]; rw [hww1]
    rw [hvv]
    clear hvv hww1 hww2 hww3 sz1 sz2
    clear ww1 ww2
    have hz0 : w.heap.size + 3 ≤ ww3.heap.size := by omega
    clear sz3
    refine (kT _ B0).mono ?_
    rintro e w1 ⟨ox1, oy1, ox2, oy2, rfl, bb1, hXY⟩
    obtain ⟨p1, q1, p2, q2, rfl, rfl, rfl, rfl, sp, sq, sr, ss, -⟩ := hXY (by first | exact trivial | rfl) (by first | exact trivial | rfl)
    have B1 := B0.trans (bb1.mono B0.size)
    have X1 := X0.below bb1 (Nat.le_refl _)
    have Y1 := Y0.below bb1 (Nat.le_refl _)
    have R1 := R0.below bb1 (Nat.le_refl _)
    clear B0 X0 Y0 R0 bb1
    have sp1 := sp
    clear sp
    have sq1 := sq
    clear sq
    have sr1 := sr
    clear sr
    have ss1 := ss
    clear ss
    clear kT
    clear X1 Y1
    go_wp2_with fail
    obtain ⟨w2, hw2⟩ : ∃ v, v = w1.alloc (.cells #[.pointer (some ⟨p1, 0, none⟩), .pointer (some ⟨q1, 0, none⟩)] 52) := ⟨_, rfl⟩
    have bb2 : Below w1.heap.size w1 w2 := by rw [hw2]; exact below1 _ _
    obtain ⟨qb2, hq2⟩ : ∃ v, v = w1.heap.size := ⟨_, rfl⟩
    have E2 : BoxL w2 w.heap.size qb2 [.pointer (some ⟨p1, 0, none⟩), .pointer (some ⟨q1, 0, none⟩)] := by rw [hw2, hq2]; exact (BoxL.made w1 [.pointer (some ⟨p1, 0, none⟩), .pointer (some ⟨q1, 0, none⟩)] 52).mono B1.size
    have sn2 : w2.heap.size = qb2 + 1 := by rw [hw2, hq2]; simp
    rw [← hw2]
    (try rw [← hq2])
    clear hw2
    have B2 := B1.trans (bb2.mono B1.size)
    have R2 := R1.below bb2 (Nat.le_refl _)
    have sp2 := sp1.below bb2 sp1.lt
    have sq2 := sq1.below bb2 sq1.lt
    have sr2 := sr1.below bb2 sr1.lt
    have ss2 := ss1.below bb2 ss1.lt
    have lt_R_E : w.heap.size + 1 + 1 < qb2 := by rw [hq2]; exact R1.hi
    have ne_E_sp : ¬ (p1 = qb2) := fun e => by have h1 := sp1.lt; omega
    have ne_E_sq : ¬ (q1 = qb2) := fun e => by have h1 := sq1.lt; omega
    have ne_E_sr : ¬ (p2 = qb2) := fun e => by have h1 := sr1.lt; omega
    have ne_E_ss : ¬ (q2 = qb2) := fun e => by have h1 := ss1.lt; omega
    clear B1 R1 sp1 sq1 sr1 ss1 bb2 hq2
    obtain ⟨w3, hw3⟩ : ∃ v, v = w2.alloc (.cells #[.pointer (some ⟨p2, 0, none⟩), .pointer (some ⟨q2, 0, none⟩)] 52) := ⟨_, rfl⟩
    have bb3 : Below w2.heap.size w2 w3 := by rw [hw3]; exact below1 _ _
    have sn3 : w3.heap.size = qb2 + 1 + 1 := by rw [hw3]; simp [sn2]
    have G3 : BoxL w3 w.heap.size (qb2 + 1) [.pointer (some ⟨p2, 0, none⟩), .pointer (some ⟨q2, 0, none⟩)] := by rw [hw3]; have h := (BoxL.made w2 [.pointer (some ⟨p2, 0, none⟩), .pointer (some ⟨q2, 0, none⟩)] 52).mono B2.size; rw [sn2] at h; exact h
    rw [← hw3]
    clear hw3
    have B3 := B2.trans (bb3.mono B2.size)
    have R3 := R2.below bb3 (Nat.le_refl _)
    have sp3 := sp2.below bb3 sp2.lt
    have sq3 := sq2.below bb3 sq2.lt
    have sr3 := sr2.below bb3 sr2.lt
    have ss3 := ss2.below bb3 ss2.lt
    have E3 := E2.below bb3 (Nat.le_refl _)
    have lt_R_G : w.heap.size + 1 + 1 < qb2 + 1 := by have h := R2.hi; omega
    have ne_G_sp : ¬ (p1 = qb2 + 1) := fun e => by have h1 := sp2.lt; omega
    have ne_G_sq : ¬ (q1 = qb2 + 1) := fun e => by have h1 := sq2.lt; omega
    have ne_G_sr : ¬ (p2 = qb2 + 1) := fun e => by have h1 := sr2.lt; omega
    have ne_G_ss : ¬ (q2 = qb2 + 1) := fun e => by have h1 := ss2.lt; omega
    have lt_E_G : qb2 < qb2 + 1 := by have h := E2.hi; omega
    clear B2 R2 sp2 sq2 sr2 ss2 E2 bb3 sn2
    clear sn3
    refine (kI _).mono ?_
    rintro e w4 ⟨rfl, bb4⟩
    have B4 := B3.trans (bb4.mono B3.size)
    have R4 := R3.below bb4 (Nat.le_refl _)
    have sp4 := sp3.below bb4 sp3.lt
    have sq4 := sq3.below bb4 sq3.lt
    have sr4 := sr3.below bb4 sr3.lt
    have ss4 := ss3.below bb4 ss3.lt
    have E4 := E3.below bb4 (Nat.le_refl _)
    have G4 := G3.below bb4 (Nat.le_refl _)
    clear B3 R3 sp3 sq3 sr3 ss3 E3 G3 bb4
    clear kI
    clear sp4 sq4 sr4 ss4 E4 G4
    have c_R_0 := R4.c 0 _ rfl
    have f_R_0 := R4.f 0 _ rfl
    have c_R_1 := R4.c 1 _ rfl
    have f_R_1 := R4.f 1 _ rfl
    have c_R_2 := R4.c 2 _ rfl
    have f_R_2 := R4.f 2 _ rfl
    have c_R_3 := R4.c 3 _ rfl
    have f_R_3 := R4.f 3 _ rfl
    obtain ⟨w5, hw5⟩ : ∃ v, v = (((w4.setCell ⟨w.heap.size + 1 + 1, 0, none⟩ (.bool false)).setCell ⟨w.heap.size + 1 + 1, 1, none⟩ (.slice none 0 0)).setCell ⟨w.heap.size + 1 + 1, 2, none⟩ (.bool false)).setCell ⟨w.heap.size + 1 + 1, 3, none⟩ (.slice none 0 0) := ⟨_, rfl⟩
    have tn5 : Tn [w.heap.size + 1 + 1] w4 w5 := by rw [hw5]; exact ((((tnL w4 (w.heap.size + 1 + 1) 0 (.bool false)).trans (tnL _ (w.heap.size + 1 + 1) 1 (.slice none 0 0))).trans (tnL _ (w.heap.size + 1 + 1) 2 (.bool false))).trans (tnL _ (w.heap.size + 1 + 1) 3 (.slice none 0 0)))
    have R5 : BoxL w5 w.heap.size (w.heap.size + 1 + 1) [.bool false, .slice none 0 0, .bool false, .slice none 0 0] := by rw [hw5]; exact ((((R4.set 0 (.bool false) (by simp)).set 1 (.slice none 0 0) (by simp)).set 2 (.bool false) (by simp)).set 3 (.slice none 0 0) (by simp))
    have blo5 := R4.lo
    have B5 := tn5.below B4 B4.size (fun q hq => by simp at hq; omega)
    clear B4 R4 tn5 blo5
    subst hw5
    go_wp2
    (try simp only [Exit.inBlock, Exit.then])
    refine bodyPost_ret (v := .tuple #[.agg #[.bool false, .slice none 0 0, .bool false, .slice none 0 0], .bool false]) ?_ rfl ⟨_, by rw [HR.out], by rw [HR.out]; exact nilV _ _, B5⟩
    rw [results_cell_tmp rfl]
    go_simp
  rw [decide_eq_true c1] at kI
  have HR : Hid (ivMulR a b p = fitV (prLo (valW a.1) (valW a.2) (valW b.1) (valW b.2) / 2 ^ p.toNat) (-(-prHi (valW a.1) (valW a.2) (valW b.1) (valW b.2) / 2 ^ p.toNat))) := by show _ = _; unfold ivMulR; rw [if_pos ⟨c0.1, c0.2, c1⟩]
  obtain ⟨rr, hrr⟩ : ∃ r, ivMulR a b p = r := ⟨_, rfl⟩
  rw [hrr] at HR
  rw [hrr]
  clear hrr
  obtain ⟨k, rfl⟩ : ∃ k : Nat, p = (k : Int) := ⟨p.toNat, by omega⟩
  rw [Int.toNat_natCast] at HR
  obtain ⟨gx1, ax1, nx1, cx1, gy1, ay1, ny1, cy1, eq1, hgx1, hgy1⟩ := ha.cell
  subst eq1
  replace hgx1 : Hid (gx1 = _) := hgx1
  replace hgy1 : Hid (gy1 = _) := hgy1
  obtain ⟨gx2, ax2, nx2, cx2, gy2, ay2, ny2, cy2, eq2, hgx2, hgy2⟩ := hb.cell
  subst eq2
  replace hgx2 : Hid (gx2 = _) := hgx2
  replace hgy2 : Hid (gy2 = _) := hgy2
  have kV := fun p1 q1 p2 q2 W h1 h2 h3 h4 => mulSpans_c p1 q1 p2 q2 (valW a.1) (valW a.2) (valW b.1) (valW b.2) k W h1 h2 h3 h4 lea leb (by omega) (by omega) (by omega) (by omega) (by omega)
  unfold spanF at kV
  have kf := fun p q W h1 h2 => ivFrom_c p q (prLo (valW a.1) (valW a.2) (valW b.1) (valW b.2) / 2 ^ k) (-(-prHi (valW a.1) (valW a.2) (valW b.1) (valW b.2) / 2 ^ k)) W h1 h2
  generalize fitV (prLo (valW a.1) (valW a.2) (valW b.1) (valW b.2) / 2 ^ k) (-(-prHi (valW a.1) (valW a.2) (valW b.1) (valW b.2) / 2 ^ k)) = fw at *
  generalize prLo (valW a.1) (valW a.2) (valW b.1) (valW b.2) / 2 ^ k = d1 at *
  generalize -(-prHi (valW a.1) (valW a.2) (valW b.1) (valW b.2) / 2 ^ k) = d2 at *
  clear ha hla0 hla1 za la0 la1 lea hb hlb0 hlb1 zb lb0 lb1 leb c0 c1
  generalize valW a.1 = x1 at *
  generalize valW a.2 = y1 at *
  generalize valW b.1 = x2 at *
  generalize valW b.2 = y2 at *
  have B0_0 : Below w.heap.size w w := Below.refl _ _
  obtain ⟨ww1, hww1⟩ : ∃ v, v = w.alloc (.cells #[.bool gx1, .slice ax1 nx1 cx1, .bool gy1, .slice ay1 ny1 cy1] 29) := ⟨_, rfl⟩
  have sz1 : ww1.heap.size = w.heap.size + 1 := by rw [hww1]; simp
  have bw1 : Below w.heap.size w ww1 := by rw [hww1]; exact below1 _ _
  have B0_1 := B0_0.trans (bw1.mono B0_0.size)
  have X0_1 : BoxL ww1 w.heap.size w.heap.size [.bool gx1, .slice ax1 nx1 cx1, .bool gy1, .slice ay1 ny1 cy1] := by rw [hww1]; have h := BoxL.made w [.bool gx1, .slice ax1 nx1 cx1, .bool gy1, .slice ay1 ny1 cy1] 29; exact h
  obtain ⟨ww2, hww2⟩ : ∃ v, v = ww1.alloc (.cells #[.bool gx2, .slice ax2 nx2 cx2, .bool gy2, .slice ay2 ny2 cy2] 29) := ⟨_, rfl⟩
  have sz2 : ww2.heap.size = w.heap.size + 1 + 1 := by rw [hww2]; simp [sz1]
  have bw2 : Below ww1.heap.size ww1 ww2 := by rw [hww2]; exact below1 _ _
  have B0_2 := B0_1.trans (bw2.mono B0_1.size)
  have X0_2 := X0_1.below bw2 (Nat.le_refl _)
  have Y0_2 : BoxL ww2 (w.heap.size + 1) (w.heap.size + 1) [.bool gx2, .slice ax2 nx2 cx2, .bool gy2, .slice ay2 ny2 cy2] := by rw [hww2]; have h := BoxL.made ww1 [.bool gx2, .slice ax2 nx2 cx2, .bool gy2, .slice ay2 ny2 cy2] 29; rw [sz1] at h; exact h
  obtain ⟨ww3, hww3⟩ : ∃ v, v = ww2.alloc (.cells #[.bool false, .slice none 0 0, .bool false, .slice none 0 0] 29) := ⟨_, rfl⟩
  have sz3 : ww3.heap.size = w.heap.size + 1 + 1 + 1 := by rw [hww3]; simp [sz2]
  have bw3 : Below ww2.heap.size ww2 ww3 := by rw [hww3]; exact below1 _ _
  have B0_3 := B0_2.trans (bw3.mono B0_2.size)
  have X0_3 := X0_2.below bw3 (Nat.le_refl _)
  have Y0_3 := Y0_2.below bw3 (Nat.le_refl _)
  have R0_3 : BoxL ww3 (w.heap.size + 1 + 1) (w.heap.size + 1 + 1) [.bool false, .slice none 0 0, .bool false, .slice none 0 0] := by rw [hww3]; have h := BoxL.made ww2 [.bool false, .slice none 0 0, .bool false, .slice none 0 0] 29; rw [sz2] at h; exact h
  have X0 := X0_3
  have Y0 := Y0_3.mono (by omega : w.heap.size ≤ w.heap.size + 1)
  have R0 := R0_3.mono (by omega : w.heap.size ≤ w.heap.size + 1 + 1)
  have B0 := B0_3
  clear B0_0 B0_1 B0_2 B0_3 bw1 bw2 bw3 X0_1 X0_2 X0_3 Y0_2 Y0_3 R0_3
  go_enter Try.func10, Try.ntmps10
  go_wp2_with fail
  have hvv : ((w.alloc (.cells #[.bool gx1, .slice ax1 nx1 cx1, .bool gy1, .slice ay1 ny1 cy1] 29)).alloc (.cells #[.bool gx2, .slice ax2 nx2 cx2, .bool gy2, .slice ay2 ny2 cy2] 29)).alloc (.cells #[.bool false, .slice none 0 0, .bool false, .slice none 0 0] 29) = ww3 := by rw [hww3]; rw [hww2]; rw [hww1]
  rw [hvv]
  clear hvv hww1 hww2 hww3 sz1 sz2
  clear ww1 ww2
  have hz0 : w.heap.size + 3 ≤ ww3.heap.size := by omega
  clear sz3
  refine (kT _ B0).mono ?_
  rintro e w1 ⟨ox1, oy1, ox2, oy2, rfl, bb1, hXY⟩
  obtain ⟨p1, q1, p2, q2, rfl, rfl, rfl, rfl, sp, sq, sr, ss, -⟩ := hXY (by first | exact trivial | rfl) (by first | exact trivial | rfl)
  have B1 := B0.trans (bb1.mono B0.size)
  have X1 := X0.below bb1 (Nat.le_refl _)
  have Y1 := Y0.below bb1 (Nat.le_refl _)
  have R1 := R0.below bb1 (Nat.le_refl _)
  clear B0 X0 Y0 R0 bb1
  have sp1 := sp
  clear sp
  have sq1 := sq
  clear sq
  have sr1 := sr
  clear sr
  have ss1 := ss
  clear ss
  clear kT
  clear X1 Y1
  go_wp2_with fail
  obtain ⟨w2, hw2⟩ : ∃ v, v = w1.alloc (.cells #[.pointer (some ⟨p1, 0, none⟩), .pointer (some ⟨q1, 0, none⟩)] 52) := ⟨_, rfl⟩
  have bb2 : Below w1.heap.size w1 w2 := by rw [hw2]; exact below1 _ _
  obtain ⟨qb2, hq2⟩ : ∃ v, v = w1.heap.size := ⟨_, rfl⟩
  have E2 : BoxL w2 w.heap.size qb2 [.pointer (some ⟨p1, 0, none⟩), .pointer (some ⟨q1, 0, none⟩)] := by rw [hw2, hq2]; exact (BoxL.made w1 [.pointer (some ⟨p1, 0, none⟩), .pointer (some ⟨q1, 0, none⟩)] 52).mono B1.size
  have sn2 : w2.heap.size = qb2 + 1 := by rw [hw2, hq2]; simp
  rw [← hw2]
  (try rw [← hq2])
  clear hw2
  have B2 := B1.trans (bb2.mono B1.size)
  have R2 := R1.below bb2 (Nat.le_refl _)
  have sp2 := sp1.below bb2 sp1.lt
  have sq2 := sq1.below bb2 sq1.lt
  have sr2 := sr1.below bb2 sr1.lt
  have ss2 := ss1.below bb2 ss1.lt
  have lt_R_E : w.heap.size + 1 + 1 < qb2 := by rw [hq2]; exact R1.hi
  have ne_E_sp : ¬ (p1 = qb2) := fun e => by have h1 := sp1.lt; omega
  have ne_E_sq : ¬ (q1 = qb2) := fun e => by have h1 := sq1.lt; omega
  have ne_E_sr : ¬ (p2 = qb2) := fun e => by have h1 := sr1.lt; omega
  have ne_E_ss : ¬ (q2 = qb2) := fun e => by have h1 := ss1.lt; omega
  clear B1 R1 sp1 sq1 sr1 ss1 bb2 hq2
  obtain ⟨w3, hw3⟩ : ∃ v, v = w2.alloc (.cells #[.pointer (some ⟨p2, 0, none⟩), .pointer (some ⟨q2, 0, none⟩)] 52) := ⟨_, rfl⟩
  have bb3 : Below w2.heap.size w2 w3 := by rw [hw3]; exact below1 _ _
  have sn3 : w3.heap.size = qb2 + 1 + 1 := by rw [hw3]; simp [sn2]
  have G3 : BoxL w3 w.heap.size (qb2 + 1) [.pointer (some ⟨p2, 0, none⟩), .pointer (some ⟨q2, 0, none⟩)] := by rw [hw3]; have h := (BoxL.made w2 [.pointer (some ⟨p2, 0, none⟩), .pointer (some ⟨q2, 0, none⟩)] 52).mono B2.size; rw [sn2] at h; exact h
  rw [← hw3]
  clear hw3
  have B3 := B2.trans (bb3.mono B2.size)
  have R3 := R2.below bb3 (Nat.le_refl _)
  have sp3 := sp2.below bb3 sp2.lt
  have sq3 := sq2.below bb3 sq2.lt
  have sr3 := sr2.below bb3 sr2.lt
  have ss3 := ss2.below bb3 ss2.lt
  have E3 := E2.below bb3 (Nat.le_refl _)
  have lt_R_G : w.heap.size + 1 + 1 < qb2 + 1 := by have h := R2.hi; omega
  have ne_G_sp : ¬ (p1 = qb2 + 1) := fun e => by have h1 := sp2.lt; omega
  have ne_G_sq : ¬ (q1 = qb2 + 1) := fun e => by have h1 := sq2.lt; omega
  have ne_G_sr : ¬ (p2 = qb2 + 1) := fun e => by have h1 := sr2.lt; omega
  have ne_G_ss : ¬ (q2 = qb2 + 1) := fun e => by have h1 := ss2.lt; omega
  have lt_E_G : qb2 < qb2 + 1 := by have h := E2.hi; omega
  clear B2 R2 sp2 sq2 sr2 ss2 E2 bb3 sn2
  clear sn3
  refine (kI _).mono ?_
  rintro e w4 ⟨rfl, bb4⟩
  have B4 := B3.trans (bb4.mono B3.size)
  have R4 := R3.below bb4 (Nat.le_refl _)
  have sp4 := sp3.below bb4 sp3.lt
  have sq4 := sq3.below bb4 sq3.lt
  have sr4 := sr3.below bb4 sr3.lt
  have ss4 := ss3.below bb4 ss3.lt
  have E4 := E3.below bb4 (Nat.le_refl _)
  have G4 := G3.below bb4 (Nat.le_refl _)
  clear B3 R3 sp3 sq3 sr3 ss3 E3 G3 bb4
  clear kI
  have c_E_0 := E4.c 0 _ rfl
  have c_E_1 := E4.c 1 _ rfl
  have c_G_0 := G4.c 0 _ rfl
  have c_G_1 := G4.c 1 _ rfl
  go_wp2_with fail
  refine (kV _ _ _ _ _ sp4 sq4 sr4 ss4).mono ?_
  rintro e w5 ⟨c, d, rfl, sx, sy, bb5, hc, hd⟩
  clear c_E_0 c_E_1 c_G_0 c_G_1
  have B5 := B4.trans (bb5.mono B4.size)
  have R5 := R4.below bb5 (Nat.le_refl _)
  have sp5 := sp4.below bb5 sp4.lt
  have sq5 := sq4.below bb5 sq4.lt
  have sr5 := sr4.below bb5 sr4.lt
  have ss5 := ss4.below bb5 ss4.lt
  have E5 := E4.below bb5 (Nat.le_refl _)
  have G5 := G4.below bb5 (Nat.le_refl _)
  clear B4 R4 sp4 sq4 sr4 ss4 E4 G4 bb5
  have sx5 := sx
  clear sx
  have sy5 := sy
  clear sy
  clear kV
  clear sp5 sq5 sr5 ss5 E5 G5
  go_wp2_with fail
  refine (kf _ _ _ sx5 sy5).mono ?_
  rintro e w6 ⟨v9, rfl, of, bb6⟩
  obtain ⟨h5, s5, t5, u5, h6, s6, t6, u6, rfl⟩ := of.cell
  have ap_R_of : Apart (blkV (.agg #[.bool h5, .slice s5 t5 u5, .bool h6, .slice s6 t6 u6])) [w.heap.size + 1 + 1] := apart_one fun q hq => by have h1 := (ownsV.ltb of q hq).1; have h2 := R5.hi; omega
  replace of := ownsV_mono of B5.size
  have B6 := B5.trans (bb6.mono B5.size)
  have R6 := R5.below bb6 (Nat.le_refl _)
  have sx6 := sx5.below bb6 sx5.lt
  have sy6 := sy5.below bb6 sy5.lt
  clear B5 R5 sx5 sy5 bb6
  have of6 := of
  clear of
  clear sx6 sy6
  clear kf
  have c_R_0 := R6.c 0 _ rfl
  have f_R_0 := R6.f 0 _ rfl
  have c_R_1 := R6.c 1 _ rfl
  have f_R_1 := R6.f 1 _ rfl
  have c_R_2 := R6.c 2 _ rfl
  have f_R_2 := R6.f 2 _ rfl
  have c_R_3 := R6.c 3 _ rfl
  have f_R_3 := R6.f 3 _ rfl
  obtain ⟨w7, hw7⟩ : ∃ v, v = (((w6.setCell ⟨w.heap.size + 1 + 1, 0, none⟩ (.bool h5)).setCell ⟨w.heap.size + 1 + 1, 1, none⟩ (.slice s5 t5 u5)).setCell ⟨w.heap.size + 1 + 1, 2, none⟩ (.bool h6)).setCell ⟨w.heap.size + 1 + 1, 3, none⟩ (.slice s6 t6 u6) := ⟨_, rfl⟩
  have tn7 : Tn [w.heap.size + 1 + 1] w6 w7 := by rw [hw7]; exact ((((tnL w6 (w.heap.size + 1 + 1) 0 (.bool h5)).trans (tnL _ (w.heap.size + 1 + 1) 1 (.slice s5 t5 u5))).trans (tnL _ (w.heap.size + 1 + 1) 2 (.bool h6))).trans (tnL _ (w.heap.size + 1 + 1) 3 (.slice s6 t6 u6)))
  have R7 : BoxL w7 w.heap.size (w.heap.size + 1 + 1) [.bool h5, .slice s5 t5 u5, .bool h6, .slice s6 t6 u6] := by rw [hw7]; exact ((((R6.set 0 (.bool h5) (by simp)).set 1 (.slice s5 t5 u5) (by simp)).set 2 (.bool h6) (by simp)).set 3 (.slice s6 t6 u6) (by simp))
  have blo7 := R6.lo
  have B7 := tn7.below B6 B6.size (fun q hq => by simp at hq; omega)
  have of7 := ownsV.tn of6 tn7 ap_R_of
  clear B6 R6 of6 tn7 blo7
  subst hw7
  go_wp2
  (try simp only [Exit.inBlock, Exit.then])
  refine bodyPost_ret (v := .tuple #[.agg #[.bool h5, .slice s5 t5 u5, .bool h6, .slice s6 t6 u6], .bool fw.2]) ?_ rfl ⟨_, by rw [HR.out], by rw [HR.out]; exact of7, B7⟩
  rw [results_cell_tmp rfl]
  go_simp

end Go.Proofs.Ytlpfjpbnedankaa
