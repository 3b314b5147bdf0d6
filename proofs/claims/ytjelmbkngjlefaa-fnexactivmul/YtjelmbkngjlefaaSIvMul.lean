/- IvMul of the specification, by its contract. -/
import Derived.Test.YtjelmbkngjlefaaMulR
import Derived.Test.YtjelmbkngjlefaaVMul
import Derived.Test.YtjelmbkngjlefaaSVFits
import Derived.Test.YtjelmbkngjlefaaSIvOk
import Derived.Test.YtjelmbkngjlefaaPAt
import Derived.Test.YtjelmbkngjlefaaFrS
namespace Go.Proofs.Ytjelmbkngjlefaa
open Go.RowKit
set_option linter.unusedSimpArgs false
set_option linter.unusedVariables false

set_option maxRecDepth 20000 in
set_option maxHeartbeats 6400000 in
theorem sIvMul (va : Value) (vb : Value) (a : Vh) (b : Vh) (p : Int) (w : World) (ha : rowV w va a) (hb : rowV w vb b) (hla0 : a.1.2.length ≤ 1048576) (hla1 : a.2.2.length ≤ 1048576) (hlb0 : b.1.2.length ≤ 1048576) (hlb1 : b.2.2.length ≤ 1048576) :
    Calls Try.prog 6 #[va, vb, .int .i64 p] w fun e w' => ∃ v, e = .returned (.tuple #[v, .bool (ivMulR a b p).2]) ∧ ownsV w' w.heap.size v (ivMulR a b p).1 ∧ Below w.heap.size w w' := by
  by_cases c0 : okV a = true
  case neg =>
    have HR : Hid (ivMulR a b p = (((false, []), (false, [])), false)) := by show _ = _; unfold ivMulR; rw [if_neg (fun h => c0 h.1)]
    obtain ⟨rr, hrr⟩ : ∃ r, ivMulR a b p = r := ⟨_, rfl⟩
    rw [hrr] at HR
    rw [hrr]
    clear hrr
    have ka := fun W (h : Below w.heap.size w W) => sIvOk va a W (ha.below h (Nat.le_refl _)) hla0 hla1
    have hf : okV a = false := by simpa using c0
    rw [hf] at ka
    clear hf
    obtain ⟨gx1, ax1, nx1, cx1, gy1, ay1, ny1, cy1, eq1, hgx1, hgy1⟩ := ha.cell
    subst eq1
    replace hgx1 : Hid (gx1 = _) := hgx1
    replace hgy1 : Hid (gy1 = _) := hgy1
    obtain ⟨gx2, ax2, nx2, cx2, gy2, ay2, ny2, cy2, eq2, hgx2, hgy2⟩ := hb.cell
    subst eq2
    replace hgx2 : Hid (gx2 = _) := hgx2
    replace hgy2 : Hid (gy2 = _) := hgy2
    clear ha hla0 hla1 hb hlb0 hlb1  c0
    have B0_0 : Below w.heap.size w w := Below.refl _ _
    obtain ⟨ww1, hww1⟩ : ∃ v, v = w.alloc (.cells #[.bool gx1, .slice ax1 nx1 cx1, .bool gy1, .slice ay1 ny1 cy1] 30) := ⟨_, rfl⟩
    have sz1 : ww1.heap.size = w.heap.size + 1 := by rw [hww1]; simp
    have bw1 : Below w.heap.size w ww1 := by rw [hww1]; exact below1 _ _
    have B0_1 := B0_0.trans (bw1.mono B0_0.size)
    have X0_1 : BoxL ww1 w.heap.size w.heap.size [.bool gx1, .slice ax1 nx1 cx1, .bool gy1, .slice ay1 ny1 cy1] := by rw [hww1]; have h := BoxL.made w [.bool gx1, .slice ax1 nx1 cx1, .bool gy1, .slice ay1 ny1 cy1] 30; exact h
    obtain ⟨ww2, hww2⟩ : ∃ v, v = ww1.alloc (.cells #[.bool gx2, .slice ax2 nx2 cx2, .bool gy2, .slice ay2 ny2 cy2] 30) := ⟨_, rfl⟩
    have sz2 : ww2.heap.size = w.heap.size + 1 + 1 := by rw [hww2]; simp [sz1]
    have bw2 : Below ww1.heap.size ww1 ww2 := by rw [hww2]; exact below1 _ _
    have B0_2 := B0_1.trans (bw2.mono B0_1.size)
    have X0_2 := X0_1.below bw2 (Nat.le_refl _)
    have Y0_2 : BoxL ww2 (w.heap.size + 1) (w.heap.size + 1) [.bool gx2, .slice ax2 nx2 cx2, .bool gy2, .slice ay2 ny2 cy2] := by rw [hww2]; have h := BoxL.made ww1 [.bool gx2, .slice ax2 nx2 cx2, .bool gy2, .slice ay2 ny2 cy2] 30; rw [sz1] at h; exact h
    obtain ⟨ww3, hww3⟩ : ∃ v, v = ww2.alloc (.cells #[.bool false, .slice none 0 0, .bool false, .slice none 0 0] 30) := ⟨_, rfl⟩
    have sz3 : ww3.heap.size = w.heap.size + 1 + 1 + 1 := by rw [hww3]; simp [sz2]
    have bw3 : Below ww2.heap.size ww2 ww3 := by rw [hww3]; exact below1 _ _
    have B0_3 := B0_2.trans (bw3.mono B0_2.size)
    have X0_3 := X0_2.below bw3 (Nat.le_refl _)
    have Y0_3 := Y0_2.below bw3 (Nat.le_refl _)
    have R0_3 : BoxL ww3 (w.heap.size + 1 + 1) (w.heap.size + 1 + 1) [.bool false, .slice none 0 0, .bool false, .slice none 0 0] := by rw [hww3]; have h := BoxL.made ww2 [.bool false, .slice none 0 0, .bool false, .slice none 0 0] 30; rw [sz2] at h; exact h
    have X0 := X0_3
    have Y0 := Y0_3.mono (by omega : w.heap.size ≤ w.heap.size + 1)
    have R0 := R0_3.mono (by omega : w.heap.size ≤ w.heap.size + 1 + 1)
    have B0 := B0_3
    clear B0_0 B0_1 B0_2 B0_3 bw1 bw2 bw3 X0_1 X0_2 X0_3 Y0_2 Y0_3 R0_3
    go_enter Try.func6, Try.ntmps6
    go_wp2_with fail
    have hvv : ((w.alloc (.cells #[.bool gx1, .slice ax1 nx1 cx1, .bool gy1, .slice ay1 ny1 cy1] 30)).alloc (.cells #[.bool gx2, .slice ax2 nx2 cx2, .bool gy2, .slice ay2 ny2 cy2] 30)).alloc (.cells #[.bool false, .slice none 0 0, .bool false, .slice none 0 0] 30) = ww3 := by rw [hww3]; rw [hww2]; rw [hww1]
    rw [hvv]
    clear hvv hww1 hww2 hww3 sz1 sz2
    clear ww1 ww2
    have hz0 : w.heap.size + 3 ≤ ww3.heap.size := by omega
    clear sz3
    refine (ka _ B0).mono ?_
    rintro e w1 ⟨rfl, bb1⟩
    have B1 := B0.trans (bb1.mono B0.size)
    have X1 := X0.below bb1 (Nat.le_refl _)
    have Y1 := Y0.below bb1 (Nat.le_refl _)
    have R1 := R0.below bb1 (Nat.le_refl _)
    clear B0 X0 Y0 R0 bb1
    clear X1 Y1
    clear ka
    have c_R_0 := R1.c 0 _ rfl
    have f_R_0 := R1.f 0 _ rfl
    have c_R_1 := R1.c 1 _ rfl
    have f_R_1 := R1.f 1 _ rfl
    have c_R_2 := R1.c 2 _ rfl
    have f_R_2 := R1.f 2 _ rfl
    have c_R_3 := R1.c 3 _ rfl
    have f_R_3 := R1.f 3 _ rfl
    obtain ⟨w2, hw2⟩ : ∃ v, v = (((w1.setCell ⟨w.heap.size + 1 + 1, 0, none⟩ (.bool false)).setCell ⟨w.heap.size + 1 + 1, 1, none⟩ (.slice none 0 0)).setCell ⟨w.heap.size + 1 + 1, 2, none⟩ (.bool false)).setCell ⟨w.heap.size + 1 + 1, 3, none⟩ (.slice none 0 0) := ⟨_, rfl⟩
    have tn2 : Tn [w.heap.size + 1 + 1] w1 w2 := by rw [hw2]; exact ((((tnL w1 (w.heap.size + 1 + 1) 0 (.bool false)).trans (tnL _ (w.heap.size + 1 + 1) 1 (.slice none 0 0))).trans (tnL _ (w.heap.size + 1 + 1) 2 (.bool false))).trans (tnL _ (w.heap.size + 1 + 1) 3 (.slice none 0 0)))
    have R2 : BoxL w2 w.heap.size (w.heap.size + 1 + 1) [.bool false, .slice none 0 0, .bool false, .slice none 0 0] := by rw [hw2]; exact ((((R1.set 0 (.bool false) (by simp)).set 1 (.slice none 0 0) (by simp)).set 2 (.bool false) (by simp)).set 3 (.slice none 0 0) (by simp))
    have blo2 := R1.lo
    have B2 := tn2.below B1 B1.size (fun q hq => by simp at hq; omega)
    clear B1 R1 tn2 blo2
    subst hw2
    go_wp2
    (try simp only [Exit.inBlock, Exit.then])
    refine bodyPost_ret (v := .tuple #[.agg #[.bool false, .slice none 0 0, .bool false, .slice none 0 0], .bool false]) ?_ rfl ⟨_, by rw [HR.out], by rw [HR.out]; exact nilV _ _, B2⟩
    rw [results_cell_tmp rfl]
    go_simp
  by_cases c1 : okV b = true
  case neg =>
    have HR : Hid (ivMulR a b p = (((false, []), (false, [])), false)) := by show _ = _; unfold ivMulR; rw [if_neg (fun h => c1 h.2.1)]
    obtain ⟨rr, hrr⟩ : ∃ r, ivMulR a b p = r := ⟨_, rfl⟩
    rw [hrr] at HR
    rw [hrr]
    clear hrr
    have ka := fun W (h : Below w.heap.size w W) => sIvOk va a W (ha.below h (Nat.le_refl _)) hla0 hla1
    have kb := fun W (h : Below w.heap.size w W) => sIvOk vb b W (hb.below h (Nat.le_refl _)) hlb0 hlb1
    have za := okV_yes c0
    have la0 := okW_lenV za.1
    have la1 := okW_lenV za.2.1
    have lea := za.2.2
    have ea : a = (mkW (valW a.1), mkW (valW a.2)) := Prod.ext (mkW_of za.1) (mkW_of za.2.1)
    have ra : rowV w va (mkW (valW a.1), mkW (valW a.2)) := by rw [← ea]; exact ha
    rw [c0] at ka
    have hf : okV b = false := by simpa using c1
    rw [hf] at kb
    clear hf
    obtain ⟨gx1, ax1, nx1, cx1, gy1, ay1, ny1, cy1, eq1, hgx1, hgy1⟩ := ha.cell
    subst eq1
    replace hgx1 : Hid (gx1 = _) := hgx1
    replace hgy1 : Hid (gy1 = _) := hgy1
    obtain ⟨gx2, ax2, nx2, cx2, gy2, ay2, ny2, cy2, eq2, hgx2, hgy2⟩ := hb.cell
    subst eq2
    replace hgx2 : Hid (gx2 = _) := hgx2
    replace hgy2 : Hid (gy2 = _) := hgy2
    clear ha hla0 hla1 hb hlb0 hlb1 za la0 la1 lea ea ra c0 c1
    have B0_0 : Below w.heap.size w w := Below.refl _ _
    obtain ⟨ww1, hww1⟩ : ∃ v, v = w.alloc (.cells #[.bool gx1, .slice ax1 nx1 cx1, .bool gy1, .slice ay1 ny1 cy1] 30) := ⟨_, rfl⟩
    have sz1 : ww1.heap.size = w.heap.size + 1 := by rw [hww1]; simp
    have bw1 : Below w.heap.size w ww1 := by rw [hww1]; exact below1 _ _
    have B0_1 := B0_0.trans (bw1.mono B0_0.size)
    have X0_1 : BoxL ww1 w.heap.size w.heap.size [.bool gx1, .slice ax1 nx1 cx1, .bool gy1, .slice ay1 ny1 cy1] := by rw [hww1]; have h := BoxL.made w [.bool gx1, .slice ax1 nx1 cx1, .bool gy1, .slice ay1 ny1 cy1] 30; exact h
    obtain ⟨ww2, hww2⟩ : ∃ v, v = ww1.alloc (.cells #[.bool gx2, .slice ax2 nx2 cx2, .bool gy2, .slice ay2 ny2 cy2] 30) := ⟨_, rfl⟩
    have sz2 : ww2.heap.size = w.heap.size + 1 + 1 := by rw [hww2]; simp [sz1]
    have bw2 : Below ww1.heap.size ww1 ww2 := by rw [hww2]; exact below1 _ _
    have B0_2 := B0_1.trans (bw2.mono B0_1.size)
    have X0_2 := X0_1.below bw2 (Nat.le_refl _)
    have Y0_2 : BoxL ww2 (w.heap.size + 1) (w.heap.size + 1) [.bool gx2, .slice ax2 nx2 cx2, .bool gy2, .slice ay2 ny2 cy2] := by rw [hww2]; have h := BoxL.made ww1 [.bool gx2, .slice ax2 nx2 cx2, .bool gy2, .slice ay2 ny2 cy2] 30; rw [sz1] at h; exact h
    obtain ⟨ww3, hww3⟩ : ∃ v, v = ww2.alloc (.cells #[.bool false, .slice none 0 0, .bool false, .slice none 0 0] 30) := ⟨_, rfl⟩
    have sz3 : ww3.heap.size = w.heap.size + 1 + 1 + 1 := by rw [hww3]; simp [sz2]
    have bw3 : Below ww2.heap.size ww2 ww3 := by rw [hww3]; exact below1 _ _
    have B0_3 := B0_2.trans (bw3.mono B0_2.size)
    have X0_3 := X0_2.below bw3 (Nat.le_refl _)
    have Y0_3 := Y0_2.below bw3 (Nat.le_refl _)
    have R0_3 : BoxL ww3 (w.heap.size + 1 + 1) (w.heap.size + 1 + 1) [.bool false, .slice none 0 0, .bool false, .slice none 0 0] := by rw [hww3]; have h := BoxL.made ww2 [.bool false, .slice none 0 0, .bool false, .slice none 0 0] 30; rw [sz2] at h; exact h
    have X0 := X0_3
    have Y0 := Y0_3.mono (by omega : w.heap.size ≤ w.heap.size + 1)
    have R0 := R0_3.mono (by omega : w.heap.size ≤ w.heap.size + 1 + 1)
    have B0 := B0_3
    clear B0_0 B0_1 B0_2 B0_3 bw1 bw2 bw3 X0_1 X0_2 X0_3 Y0_2 Y0_3 R0_3
    go_enter Try.func6, Try.ntmps6
    go_wp2_with fail
    have hvv : ((w.alloc (.cells #[.bool gx1, .slice ax1 nx1 cx1, .bool gy1, .slice ay1 ny1 cy1] 30)).alloc (.cells #[.bool gx2, .slice ax2 nx2 cx2, .bool gy2, .slice ay2 ny2 cy2] 30)).alloc (.cells #[.bool false, .slice none 0 0, .bool false, .slice none 0 0] 30) = ww3 := by rw [hww3]; rw [hww2]; rw [hww1]
    rw [hvv]
    clear hvv hww1 hww2 hww3 sz1 sz2
    clear ww1 ww2
    have hz0 : w.heap.size + 3 ≤ ww3.heap.size := by omega
    clear sz3
    refine (ka _ B0).mono ?_
    rintro e w1 ⟨rfl, bb1⟩
    have B1 := B0.trans (bb1.mono B0.size)
    have X1 := X0.below bb1 (Nat.le_refl _)
    have Y1 := Y0.below bb1 (Nat.le_refl _)
    have R1 := R0.below bb1 (Nat.le_refl _)
    clear B0 X0 Y0 R0 bb1
    have c_X_0 := X1.c 0 _ rfl
    have c_X_1 := X1.c 1 _ rfl
    have c_X_2 := X1.c 2 _ rfl
    have c_X_3 := X1.c 3 _ rfl
    have c_Y_0 := Y1.c 0 _ rfl
    have c_Y_1 := Y1.c 1 _ rfl
    have c_Y_2 := Y1.c 2 _ rfl
    have c_Y_3 := Y1.c 3 _ rfl
    go_wp2_with fail
    refine (kb _ B1).mono ?_
    rintro e w2 ⟨rfl, bb2⟩
    clear c_X_0 c_X_1 c_X_2 c_X_3 c_Y_0 c_Y_1 c_Y_2 c_Y_3
    have B2 := B1.trans (bb2.mono B1.size)
    have X2 := X1.below bb2 (Nat.le_refl _)
    have Y2 := Y1.below bb2 (Nat.le_refl _)
    have R2 := R1.below bb2 (Nat.le_refl _)
    clear B1 X1 Y1 R1 bb2
    clear X2 Y2
    clear ka kb
    have c_R_0 := R2.c 0 _ rfl
    have f_R_0 := R2.f 0 _ rfl
    have c_R_1 := R2.c 1 _ rfl
    have f_R_1 := R2.f 1 _ rfl
    have c_R_2 := R2.c 2 _ rfl
    have f_R_2 := R2.f 2 _ rfl
    have c_R_3 := R2.c 3 _ rfl
    have f_R_3 := R2.f 3 _ rfl
    obtain ⟨w3, hw3⟩ : ∃ v, v = (((w2.setCell ⟨w.heap.size + 1 + 1, 0, none⟩ (.bool false)).setCell ⟨w.heap.size + 1 + 1, 1, none⟩ (.slice none 0 0)).setCell ⟨w.heap.size + 1 + 1, 2, none⟩ (.bool false)).setCell ⟨w.heap.size + 1 + 1, 3, none⟩ (.slice none 0 0) := ⟨_, rfl⟩
    have tn3 : Tn [w.heap.size + 1 + 1] w2 w3 := by rw [hw3]; exact ((((tnL w2 (w.heap.size + 1 + 1) 0 (.bool false)).trans (tnL _ (w.heap.size + 1 + 1) 1 (.slice none 0 0))).trans (tnL _ (w.heap.size + 1 + 1) 2 (.bool false))).trans (tnL _ (w.heap.size + 1 + 1) 3 (.slice none 0 0)))
    have R3 : BoxL w3 w.heap.size (w.heap.size + 1 + 1) [.bool false, .slice none 0 0, .bool false, .slice none 0 0] := by rw [hw3]; exact ((((R2.set 0 (.bool false) (by simp)).set 1 (.slice none 0 0) (by simp)).set 2 (.bool false) (by simp)).set 3 (.slice none 0 0) (by simp))
    have blo3 := R2.lo
    have B3 := tn3.below B2 B2.size (fun q hq => by simp at hq; omega)
    clear B2 R2 tn3 blo3
    subst hw3
    go_wp2
    (try simp only [Exit.inBlock, Exit.then])
    refine bodyPost_ret (v := .tuple #[.agg #[.bool false, .slice none 0 0, .bool false, .slice none 0 0], .bool false]) ?_ rfl ⟨_, by rw [HR.out], by rw [HR.out]; exact nilV _ _, B3⟩
    rw [results_cell_tmp rfl]
    go_simp
  by_cases c2 : 0 ≤ p ∧ p ≤ 480
  case neg =>
    have HR : Hid (ivMulR a b p = (((false, []), (false, [])), false)) := by show _ = _; unfold ivMulR; rw [if_neg (fun h => c2 h.2.2)]
    obtain ⟨rr, hrr⟩ : ∃ r, ivMulR a b p = r := ⟨_, rfl⟩
    rw [hrr] at HR
    rw [hrr]
    clear hrr
    have ka := fun W (h : Below w.heap.size w W) => sIvOk va a W (ha.below h (Nat.le_refl _)) hla0 hla1
    have kb := fun W (h : Below w.heap.size w W) => sIvOk vb b W (hb.below h (Nat.le_refl _)) hlb0 hlb1
    have za := okV_yes c0
    have la0 := okW_lenV za.1
    have la1 := okW_lenV za.2.1
    have lea := za.2.2
    have ea : a = (mkW (valW a.1), mkW (valW a.2)) := Prod.ext (mkW_of za.1) (mkW_of za.2.1)
    have ra : rowV w va (mkW (valW a.1), mkW (valW a.2)) := by rw [← ea]; exact ha
    have zb := okV_yes c1
    have lb0 := okW_lenV zb.1
    have lb1 := okW_lenV zb.2.1
    have leb := zb.2.2
    have eb : b = (mkW (valW b.1), mkW (valW b.2)) := Prod.ext (mkW_of zb.1) (mkW_of zb.2.1)
    have rb : rowV w vb (mkW (valW b.1), mkW (valW b.2)) := by rw [← eb]; exact hb
    rw [c0] at ka
    rw [c1] at kb
    obtain ⟨gx1, ax1, nx1, cx1, gy1, ay1, ny1, cy1, eq1, hgx1, hgy1⟩ := ha.cell
    subst eq1
    replace hgx1 : Hid (gx1 = _) := hgx1
    replace hgy1 : Hid (gy1 = _) := hgy1
    obtain ⟨gx2, ax2, nx2, cx2, gy2, ay2, ny2, cy2, eq2, hgx2, hgy2⟩ := hb.cell
    subst eq2
    replace hgx2 : Hid (gx2 = _) := hgx2
    replace hgy2 : Hid (gy2 = _) := hgy2
    have kI := fun W => pAt_b p W
    rw [decide_eq_false c2] at kI
    clear ha hla0 hla1 hb hlb0 hlb1 za la0 la1 lea ea ra zb lb0 lb1 leb eb rb c0 c1 c2
    have B0_0 : Below w.heap.size w w := Below.refl _ _
    obtain ⟨ww1, hww1⟩ : ∃ v, v = w.alloc (.cells #[.bool gx1, .slice ax1 nx1 cx1, .bool gy1, .slice ay1 ny1 cy1] 30) := ⟨_, rfl⟩
    have sz1 : ww1.heap.size = w.heap.size + 1 := by rw [hww1]; simp
    have bw1 : Below w.heap.size w ww1 := by rw [hww1]; exact below1 _ _
    have B0_1 := B0_0.trans (bw1.mono B0_0.size)
    have X0_1 : BoxL ww1 w.heap.size w.heap.size [.bool gx1, .slice ax1 nx1 cx1, .bool gy1, .slice ay1 ny1 cy1] := by rw [hww1]; have h := BoxL.made w [.bool gx1, .slice ax1 nx1 cx1, .bool gy1, .slice ay1 ny1 cy1] 30; exact h
    obtain ⟨ww2, hww2⟩ : ∃ v, v = ww1.alloc (.cells #[.bool gx2, .slice ax2 nx2 cx2, .bool gy2, .slice ay2 ny2 cy2] 30) := ⟨_, rfl⟩
    have sz2 : ww2.heap.size = w.heap.size + 1 + 1 := by rw [hww2]; simp [sz1]
    have bw2 : Below ww1.heap.size ww1 ww2 := by rw [hww2]; exact below1 _ _
    have B0_2 := B0_1.trans (bw2.mono B0_1.size)
    have X0_2 := X0_1.below bw2 (Nat.le_refl _)
    have Y0_2 : BoxL ww2 (w.heap.size + 1) (w.heap.size + 1) [.bool gx2, .slice ax2 nx2 cx2, .bool gy2, .slice ay2 ny2 cy2] := by rw [hww2]; have h := BoxL.made ww1 [.bool gx2, .slice ax2 nx2 cx2, .bool gy2, .slice ay2 ny2 cy2] 30; rw [sz1] at h; exact h
    obtain ⟨ww3, hww3⟩ : ∃ v, v = ww2.alloc (.cells #[.bool false, .slice none 0 0, .bool false, .slice none 0 0] 30) := ⟨_, rfl⟩
    have sz3 : ww3.heap.size = w.heap.size + 1 + 1 + 1 := by rw [hww3]; simp [sz2]
    have bw3 : Below ww2.heap.size ww2 ww3 := by rw [hww3]; exact below1 _ _
    have B0_3 := B0_2.trans (bw3.mono B0_2.size)
    have X0_3 := X0_2.below bw3 (Nat.le_refl _)
    have Y0_3 := Y0_2.below bw3 (Nat.le_refl _)
    have R0_3 : BoxL ww3 (w.heap.size + 1 + 1) (w.heap.size + 1 + 1) [.bool false, .slice none 0 0, .bool false, .slice none 0 0] := by rw [hww3]; have h := BoxL.made ww2 [.bool false, .slice none 0 0, .bool false, .slice none 0 0] 30; rw [sz2] at h; exact h
    have X0 := X0_3
    have Y0 := Y0_3.mono (by omega : w.heap.size ≤ w.heap.size + 1)
    have R0 := R0_3.mono (by omega : w.heap.size ≤ w.heap.size + 1 + 1)
    have B0 := B0_3
    clear B0_0 B0_1 B0_2 B0_3 bw1 bw2 bw3 X0_1 X0_2 X0_3 Y0_2 Y0_3 R0_3
    go_enter Try.func6, Try.ntmps6
    go_wp2_with fail
    have hvv : ((w.alloc (.cells #[.bool gx1, .slice ax1 nx1 cx1, .bool gy1, .slice ay1 ny1 cy1] 30)).alloc (.cells #[.bool gx2, .slice ax2 nx2 cx2, .bool gy2, .slice ay2 ny2 cy2] 30)).alloc (.cells #[.bool false, .slice none 0 0, .bool false, .slice none 0 0] 30) = ww3 := by rw [hww3]; rw [hww2]; rw [hww1]
    rw [hvv]
    clear hvv hww1 hww2 hww3 sz1 sz2
    clear ww1 ww2
    have hz0 : w.heap.size + 3 ≤ ww3.heap.size := by omega
    clear sz3
    refine (ka _ B0).mono ?_
    rintro e w1 ⟨rfl, bb1⟩
    have B1 := B0.trans (bb1.mono B0.size)
    have X1 := X0.below bb1 (Nat.le_refl _)
    have Y1 := Y0.below bb1 (Nat.le_refl _)
    have R1 := R0.below bb1 (Nat.le_refl _)
    clear B0 X0 Y0 R0 bb1
    have c_X_0 := X1.c 0 _ rfl
    have c_X_1 := X1.c 1 _ rfl
    have c_X_2 := X1.c 2 _ rfl
    have c_X_3 := X1.c 3 _ rfl
    have c_Y_0 := Y1.c 0 _ rfl
    have c_Y_1 := Y1.c 1 _ rfl
    have c_Y_2 := Y1.c 2 _ rfl
    have c_Y_3 := Y1.c 3 _ rfl
    go_wp2_with fail
    refine (kb _ B1).mono ?_
    rintro e w2 ⟨rfl, bb2⟩
    clear c_X_0 c_X_1 c_X_2 c_X_3 c_Y_0 c_Y_1 c_Y_2 c_Y_3
    have B2 := B1.trans (bb2.mono B1.size)
    have X2 := X1.below bb2 (Nat.le_refl _)
    have Y2 := Y1.below bb2 (Nat.le_refl _)
    have R2 := R1.below bb2 (Nat.le_refl _)
    clear B1 X1 Y1 R1 bb2
    have c_X_0 := X2.c 0 _ rfl
    have c_X_1 := X2.c 1 _ rfl
    have c_X_2 := X2.c 2 _ rfl
    have c_X_3 := X2.c 3 _ rfl
    have c_Y_0 := Y2.c 0 _ rfl
    have c_Y_1 := Y2.c 1 _ rfl
    have c_Y_2 := Y2.c 2 _ rfl
    have c_Y_3 := Y2.c 3 _ rfl
    go_wp2_with fail
    refine (kI _).mono ?_
    rintro e w3 ⟨rfl, bb3⟩
    clear c_X_0 c_X_1 c_X_2 c_X_3 c_Y_0 c_Y_1 c_Y_2 c_Y_3
    have B3 := B2.trans (bb3.mono B2.size)
    have X3 := X2.below bb3 (Nat.le_refl _)
    have Y3 := Y2.below bb3 (Nat.le_refl _)
    have R3 := R2.below bb3 (Nat.le_refl _)
    clear B2 X2 Y2 R2 bb3
    clear X3 Y3
    clear ka kb kI
    have c_R_0 := R3.c 0 _ rfl
    have f_R_0 := R3.f 0 _ rfl
    have c_R_1 := R3.c 1 _ rfl
    have f_R_1 := R3.f 1 _ rfl
    have c_R_2 := R3.c 2 _ rfl
    have f_R_2 := R3.f 2 _ rfl
    have c_R_3 := R3.c 3 _ rfl
    have f_R_3 := R3.f 3 _ rfl
    obtain ⟨w4, hw4⟩ : ∃ v, v = (((w3.setCell ⟨w.heap.size + 1 + 1, 0, none⟩ (.bool false)).setCell ⟨w.heap.size + 1 + 1, 1, none⟩ (.slice none 0 0)).setCell ⟨w.heap.size + 1 + 1, 2, none⟩ (.bool false)).setCell ⟨w.heap.size + 1 + 1, 3, none⟩ (.slice none 0 0) := ⟨_, rfl⟩
    have tn4 : Tn [w.heap.size + 1 + 1] w3 w4 := by rw [hw4]; exact ((((tnL w3 (w.heap.size + 1 + 1) 0 (.bool false)).trans (tnL _ (w.heap.size + 1 + 1) 1 (.slice none 0 0))).trans (tnL _ (w.heap.size + 1 + 1) 2 (.bool false))).trans (tnL _ (w.heap.size + 1 + 1) 3 (.slice none 0 0)))
    have R4 : BoxL w4 w.heap.size (w.heap.size + 1 + 1) [.bool false, .slice none 0 0, .bool false, .slice none 0 0] := by rw [hw4]; exact ((((R3.set 0 (.bool false) (by simp)).set 1 (.slice none 0 0) (by simp)).set 2 (.bool false) (by simp)).set 3 (.slice none 0 0) (by simp))
    have blo4 := R3.lo
    have B4 := tn4.below B3 B3.size (fun q hq => by simp at hq; omega)
    clear B3 R3 tn4 blo4
    subst hw4
    go_wp2
    (try simp only [Exit.inBlock, Exit.then])
    refine bodyPost_ret (v := .tuple #[.agg #[.bool false, .slice none 0 0, .bool false, .slice none 0 0], .bool false]) ?_ rfl ⟨_, by rw [HR.out], by rw [HR.out]; exact nilV _ _, B4⟩
    rw [results_cell_tmp rfl]
    go_simp
  have ka := fun W (h : Below w.heap.size w W) => sIvOk va a W (ha.below h (Nat.le_refl _)) hla0 hla1
  have kb := fun W (h : Below w.heap.size w W) => sIvOk vb b W (hb.below h (Nat.le_refl _)) hlb0 hlb1
  have za := okV_yes c0
  have la0 := okW_lenV za.1
  have la1 := okW_lenV za.2.1
  have lea := za.2.2
  have ea : a = (mkW (valW a.1), mkW (valW a.2)) := Prod.ext (mkW_of za.1) (mkW_of za.2.1)
  have ra : rowV w va (mkW (valW a.1), mkW (valW a.2)) := by rw [← ea]; exact ha
  have zb := okV_yes c1
  have lb0 := okW_lenV zb.1
  have lb1 := okW_lenV zb.2.1
  have leb := zb.2.2
  have eb : b = (mkW (valW b.1), mkW (valW b.2)) := Prod.ext (mkW_of zb.1) (mkW_of zb.2.1)
  have rb : rowV w vb (mkW (valW b.1), mkW (valW b.2)) := by rw [← eb]; exact hb
  rw [c0] at ka
  rw [c1] at kb
  have HR : Hid (ivMulR a b p = fitV (prLo (valW a.1) (valW a.2) (valW b.1) (valW b.2) / 2 ^ p.toNat) (-(-prHi (valW a.1) (valW a.2) (valW b.1) (valW b.2) / 2 ^ p.toNat))) := by show _ = _; unfold ivMulR; rw [if_pos ⟨c0, c1, c2⟩]
  obtain ⟨rr, hrr⟩ : ∃ r, ivMulR a b p = r := ⟨_, rfl⟩
  rw [hrr] at HR
  rw [hrr]
  clear hrr
  obtain ⟨gx1, ax1, nx1, cx1, gy1, ay1, ny1, cy1, eq1, hgx1, hgy1⟩ := ha.cell
  subst eq1
  replace hgx1 : Hid (gx1 = _) := hgx1
  replace hgy1 : Hid (gy1 = _) := hgy1
  obtain ⟨gx2, ax2, nx2, cx2, gy2, ay2, ny2, cy2, eq2, hgx2, hgy2⟩ := hb.cell
  subst eq2
  replace hgx2 : Hid (gx2 = _) := hgx2
  replace hgy2 : Hid (gy2 = _) := hgy2
  have kI := fun W => pAt_b p W
  rw [decide_eq_true c2] at kI
  obtain ⟨k, rfl⟩ : ∃ k : Nat, p = (k : Int) := ⟨p.toNat, by omega⟩
  rw [Int.toNat_natCast] at HR
  have kV := fun W (h : Below w.heap.size w W) => sVMul _ _ _ _ _ _ _ _ _ _ _ _ _ _ _ _ (valW a.1) (valW a.2) (valW b.1) (valW b.2) k W (ra.below h (Nat.le_refl _)) (rb.below h (Nat.le_refl _)) (by omega) (by omega) (by omega) (by omega) (by omega)
  have kf := fun va base W h => sVFits va (prLo (valW a.1) (valW a.2) (valW b.1) (valW b.2) / 2 ^ k) (-(-prHi (valW a.1) (valW a.2) (valW b.1) (valW b.2) / 2 ^ k)) base W h
  generalize fitV (prLo (valW a.1) (valW a.2) (valW b.1) (valW b.2) / 2 ^ k) (-(-prHi (valW a.1) (valW a.2) (valW b.1) (valW b.2) / 2 ^ k)) = fw at *
  generalize prLo (valW a.1) (valW a.2) (valW b.1) (valW b.2) / 2 ^ k = d1 at *
  generalize -(-prHi (valW a.1) (valW a.2) (valW b.1) (valW b.2) / 2 ^ k) = d2 at *
  clear ha hla0 hla1 za la0 la1 lea ea ra hb hlb0 hlb1 zb lb0 lb1 leb eb rb c0 c1 c2
  have B0_0 : Below w.heap.size w w := Below.refl _ _
  obtain ⟨ww1, hww1⟩ : ∃ v, v = w.alloc (.cells #[.bool gx1, .slice ax1 nx1 cx1, .bool gy1, .slice ay1 ny1 cy1] 30) := ⟨_, rfl⟩
  have sz1 : ww1.heap.size = w.heap.size + 1 := by rw [hww1]; simp
  have bw1 : Below w.heap.size w ww1 := by rw [hww1]; exact below1 _ _
  have B0_1 := B0_0.trans (bw1.mono B0_0.size)
  have X0_1 : BoxL ww1 w.heap.size w.heap.size [.bool gx1, .slice ax1 nx1 cx1, .bool gy1, .slice ay1 ny1 cy1] := by rw [hww1]; have h := BoxL.made w [.bool gx1, .slice ax1 nx1 cx1, .bool gy1, .slice ay1 ny1 cy1] 30; exact h
  obtain ⟨ww2, hww2⟩ : ∃ v, v = ww1.alloc (.cells #[.bool gx2, .slice ax2 nx2 cx2, .bool gy2, .slice ay2 ny2 cy2] 30) := ⟨_, rfl⟩
  have sz2 : ww2.heap.size = w.heap.size + 1 + 1 := by rw [hww2]; simp [sz1]
  have bw2 : Below ww1.heap.size ww1 ww2 := by rw [hww2]; exact below1 _ _
  have B0_2 := B0_1.trans (bw2.mono B0_1.size)
  have X0_2 := X0_1.below bw2 (Nat.le_refl _)
  have Y0_2 : BoxL ww2 (w.heap.size + 1) (w.heap.size + 1) [.bool gx2, .slice ax2 nx2 cx2, .bool gy2, .slice ay2 ny2 cy2] := by rw [hww2]; have h := BoxL.made ww1 [.bool gx2, .slice ax2 nx2 cx2, .bool gy2, .slice ay2 ny2 cy2] 30; rw [sz1] at h; exact h
  obtain ⟨ww3, hww3⟩ : ∃ v, v = ww2.alloc (.cells #[.bool false, .slice none 0 0, .bool false, .slice none 0 0] 30) := ⟨_, rfl⟩
  have sz3 : ww3.heap.size = w.heap.size + 1 + 1 + 1 := by rw [hww3]; simp [sz2]
  have bw3 : Below ww2.heap.size ww2 ww3 := by rw [hww3]; exact below1 _ _
  have B0_3 := B0_2.trans (bw3.mono B0_2.size)
  have X0_3 := X0_2.below bw3 (Nat.le_refl _)
  have Y0_3 := Y0_2.below bw3 (Nat.le_refl _)
  have R0_3 : BoxL ww3 (w.heap.size + 1 + 1) (w.heap.size + 1 + 1) [.bool false, .slice none 0 0, .bool false, .slice none 0 0] := by rw [hww3]; have h := BoxL.made ww2 [.bool false, .slice none 0 0, .bool false, .slice none 0 0] 30; rw [sz2] at h; exact h
  have X0 := X0_3
  have Y0 := Y0_3.mono (by omega : w.heap.size ≤ w.heap.size + 1)
  have R0 := R0_3.mono (by omega : w.heap.size ≤ w.heap.size + 1 + 1)
  have B0 := B0_3
  clear B0_0 B0_1 B0_2 B0_3 bw1 bw2 bw3 X0_1 X0_2 X0_3 Y0_2 Y0_3 R0_3
  go_enter Try.func6, Try.ntmps6
  go_wp2_with fail
  have hvv : ((w.alloc (.cells #[.bool gx1, .slice ax1 nx1 cx1, .bool gy1, .slice ay1 ny1 cy1] 30)).alloc (.cells #[.bool gx2, .slice ax2 nx2 cx2, .bool gy2, .slice ay2 ny2 cy2] 30)).alloc (.cells #[.bool false, .slice none 0 0, .bool false, .slice none 0 0] 30) = ww3 := by rw [hww3]; rw [hww2]; rw [hww1]
  rw [hvv]
  clear hvv hww1 hww2 hww3 sz1 sz2
  clear ww1 ww2
  have hz0 : w.heap.size + 3 ≤ ww3.heap.size := by omega
  clear sz3
  refine (ka _ B0).mono ?_
  rintro e w1 ⟨rfl, bb1⟩
  have B1 := B0.trans (bb1.mono B0.size)
  have X1 := X0.below bb1 (Nat.le_refl _)
  have Y1 := Y0.below bb1 (Nat.le_refl _)
  have R1 := R0.below bb1 (Nat.le_refl _)
  clear B0 X0 Y0 R0 bb1
  have c_X_0 := X1.c 0 _ rfl
  have c_X_1 := X1.c 1 _ rfl
  have c_X_2 := X1.c 2 _ rfl
  have c_X_3 := X1.c 3 _ rfl
  have c_Y_0 := Y1.c 0 _ rfl
  have c_Y_1 := Y1.c 1 _ rfl
  have c_Y_2 := Y1.c 2 _ rfl
  have c_Y_3 := Y1.c 3 _ rfl
  go_wp2_with fail
  refine (kb _ B1).mono ?_
  rintro e w2 ⟨rfl, bb2⟩
  clear c_X_0 c_X_1 c_X_2 c_X_3 c_Y_0 c_Y_1 c_Y_2 c_Y_3
  have B2 := B1.trans (bb2.mono B1.size)
  have X2 := X1.below bb2 (Nat.le_refl _)
  have Y2 := Y1.below bb2 (Nat.le_refl _)
  have R2 := R1.below bb2 (Nat.le_refl _)
  clear B1 X1 Y1 R1 bb2
  have c_X_0 := X2.c 0 _ rfl
  have c_X_1 := X2.c 1 _ rfl
  have c_X_2 := X2.c 2 _ rfl
  have c_X_3 := X2.c 3 _ rfl
  have c_Y_0 := Y2.c 0 _ rfl
  have c_Y_1 := Y2.c 1 _ rfl
  have c_Y_2 := Y2.c 2 _ rfl
  have c_Y_3 := Y2.c 3 _ rfl
  go_wp2_with fail
  refine (kI _).mono ?_
  rintro e w3 ⟨rfl, bb3⟩
  clear c_X_0 c_X_1 c_X_2 c_X_3 c_Y_0 c_Y_1 c_Y_2 c_Y_3
  have B3 := B2.trans (bb3.mono B2.size)
  have X3 := X2.below bb3 (Nat.le_refl _)
  have Y3 := Y2.below bb3 (Nat.le_refl _)
  have R3 := R2.below bb3 (Nat.le_refl _)
  clear B2 X2 Y2 R2 bb3
  clear ka kb kI
  have c_X_0 := X3.c 0 _ rfl
  have c_X_1 := X3.c 1 _ rfl
  have c_X_2 := X3.c 2 _ rfl
  have c_X_3 := X3.c 3 _ rfl
  have c_Y_0 := Y3.c 0 _ rfl
  have c_Y_1 := Y3.c 1 _ rfl
  have c_Y_2 := Y3.c 2 _ rfl
  have c_Y_3 := Y3.c 3 _ rfl
  go_wp2_with fail
  refine (kV _ B3).mono ?_
  rintro e w4 ⟨v8, rfl, oc, bb4⟩
  clear c_X_0 c_X_1 c_X_2 c_X_3 c_Y_0 c_Y_1 c_Y_2 c_Y_3
  have ge_oc : w.heap.size ≤ w3.heap.size := B3.size
  have szoc : w3.heap.size ≤ w4.heap.size := bb4.size
  have lt_X_oc : w.heap.size < w3.heap.size := X3.hi
  have lt_Y_oc : w.heap.size + 1 < w3.heap.size := Y3.hi
  have lt_R_oc : w.heap.size + 1 + 1 < w3.heap.size := R3.hi
  have ap_X_oc : Apart (blkV v8) [w.heap.size] := apart_one fun q hq => by have h1 := (ownsV.ltb oc q hq).1; have h2 := X3.hi; omega
  have ap_Y_oc : Apart (blkV v8) [w.heap.size + 1] := apart_one fun q hq => by have h1 := (ownsV.ltb oc q hq).1; have h2 := Y3.hi; omega
  have ap_R_oc : Apart (blkV v8) [w.heap.size + 1 + 1] := apart_one fun q hq => by have h1 := (ownsV.ltb oc q hq).1; have h2 := R3.hi; omega
  have B4 := B3.trans (bb4.mono B3.size)
  have X4 := X3.below bb4 (Nat.le_refl _)
  have Y4 := Y3.below bb4 (Nat.le_refl _)
  have R4 := R3.below bb4 (Nat.le_refl _)
  clear B3 X3 Y3 R3 bb4
  have oc4 := oc
  clear oc
  clear kV
  clear X4 Y4
  go_wp2_with fail
  have hmin : w3.heap.size ≤ min w3.heap.size w4.heap.size := Nat.le_min.2 ⟨Nat.le_refl _, szoc⟩
  refine (kf _ w3.heap.size _ oc4).mono ?_
  rintro e w5 ⟨v9, rfl, of, bb5⟩
  replace of := ownsV_mono of hmin
  obtain ⟨h5, s5, t5, u5, h6, s6, t6, u6, rfl⟩ := of.cell
  have ap_R_of : Apart (blkV (.agg #[.bool h5, .slice s5 t5 u5, .bool h6, .slice s6 t6 u6])) [w.heap.size + 1 + 1] := apart_one fun q hq => by have h1 := (ownsV.ltb of q hq).1; omega
  have B5 := B4.trans (bb5.mono B4.size)
  have R5 := R4.below bb5 (Nat.le_refl _)
  have oc5 := ownsV.below oc4 bb5 (Nat.le_refl _)
  clear B4 R4 oc4 bb5
  have of5 := of
  clear of
  clear oc5
  clear kf
  have c_R_0 := R5.c 0 _ rfl
  have f_R_0 := R5.f 0 _ rfl
  have c_R_1 := R5.c 1 _ rfl
  have f_R_1 := R5.f 1 _ rfl
  have c_R_2 := R5.c 2 _ rfl
  have f_R_2 := R5.f 2 _ rfl
  have c_R_3 := R5.c 3 _ rfl
  have f_R_3 := R5.f 3 _ rfl
  obtain ⟨w6, hw6⟩ : ∃ v, v = (((w5.setCell ⟨w.heap.size + 1 + 1, 0, none⟩ (.bool h5)).setCell ⟨w.heap.size + 1 + 1, 1, none⟩ (.slice s5 t5 u5)).setCell ⟨w.heap.size + 1 + 1, 2, none⟩ (.bool h6)).setCell ⟨w.heap.size + 1 + 1, 3, none⟩ (.slice s6 t6 u6) := ⟨_, rfl⟩
  have tn6 : Tn [w.heap.size + 1 + 1] w5 w6 := by rw [hw6]; exact ((((tnL w5 (w.heap.size + 1 + 1) 0 (.bool h5)).trans (tnL _ (w.heap.size + 1 + 1) 1 (.slice s5 t5 u5))).trans (tnL _ (w.heap.size + 1 + 1) 2 (.bool h6))).trans (tnL _ (w.heap.size + 1 + 1) 3 (.slice s6 t6 u6)))
  have R6 : BoxL w6 w.heap.size (w.heap.size + 1 + 1) [.bool h5, .slice s5 t5 u5, .bool h6, .slice s6 t6 u6] := by rw [hw6]; exact ((((R5.set 0 (.bool h5) (by simp)).set 1 (.slice s5 t5 u5) (by simp)).set 2 (.bool h6) (by simp)).set 3 (.slice s6 t6 u6) (by simp))
  have blo6 := R5.lo
  have B6 := tn6.below B5 B5.size (fun q hq => by simp at hq; omega)
  have of6 := ownsV.tn of5 tn6 ap_R_of
  clear B5 R5 of5 tn6 blo6
  subst hw6
  go_wp2
  (try simp only [Exit.inBlock, Exit.then])
  refine bodyPost_ret (v := .tuple #[.agg #[.bool h5, .slice s5 t5 u5, .bool h6, .slice s6 t6 u6], .bool fw.2]) ?_ rfl ⟨_, by rw [HR.out], by rw [HR.out]; exact ownsV_mono of6 ge_oc, B6⟩
  rw [results_cell_tmp rfl]
  go_simp

end Go.Proofs.Ytjelmbkngjlefaa
