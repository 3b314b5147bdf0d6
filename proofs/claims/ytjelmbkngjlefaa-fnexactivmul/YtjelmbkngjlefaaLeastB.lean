/- The specification's least and greatest of a short list, by their contracts. -/
import Derived.Test.YtjelmbkngjlefaaFrS
import Derived.Test.YtjelmbkngjlefaaProdB0
import Derived.Test.YtjelmbkngjlefaaWB
namespace Go.Proofs.Ytjelmbkngjlefaa
open Go.RowKit
set_option linter.unusedSimpArgs false
set_option linter.unusedVariables false

theorem cmpLt {x y : Int} (h : x < y) : cmpZ x y = -1 := by unfold cmpZ; rw [if_pos h]
theorem cmpGe {x y : Int} (h : ¬ x < y) : 0 ≤ cmpZ x y ∧ cmpZ x y ≤ 1 := by unfold cmpZ; rw [if_neg h]; split <;> omega
theorem cmpGt {x y : Int} (h : y < x) : cmpZ x y = 1 := by unfold cmpZ; rw [if_neg (by omega), if_pos h]
theorem cmpLe {x y : Int} (h : ¬ y < x) : -1 ≤ cmpZ x y ∧ cmpZ x y ≤ 0 := by unfold cmpZ; rw [if_neg h]; split <;> omega
theorem lesser_len {a b : Int} {m : Nat} (h : (limbs a.natAbs).length ≤ m) (k : (limbs b.natAbs).length ≤ m) : (limbs (lesserI a b).natAbs).length ≤ m := by unfold lesserI; split <;> assumption
theorem more_len {a b : Int} {m : Nat} (h : (limbs a.natAbs).length ≤ m) (k : (limbs b.natAbs).length ≤ m) : (limbs (moreI a b).natAbs).length ≤ m := by unfold moreI; split <;> assumption
theorem lesserY_yes {a b c : Int} (h : b < a) (e : c = lesserI a b) : c = b := by rw [e]; unfold lesserI; rw [if_pos h]
theorem lesserY_no {a b c : Int} (h : ¬ b < a) (e : c = lesserI a b) : c = a := by rw [e]; unfold lesserI; rw [if_neg h]
theorem moreY_yes {a b c : Int} (h : a < b) (e : c = moreI a b) : c = b := by rw [e]; unfold moreI; rw [if_pos h]
theorem moreY_no {a b c : Int} (h : ¬ a < b) (e : c = moreI a b) : c = a := by rw [e]; unfold moreI; rw [if_neg h]

def least2K (z0 z1 : Int) : Nat → Int
  | 0 => z0
  | _ => lesserI z0 z1
set_option maxRecDepth 20000 in
set_option maxHeartbeats 6400000 in
theorem least2 (T : Nat) (g0 g1 : Bool) (a0 a1 : Option Addr) (n0 c0 n1 c1 : Nat) (z0 z1 : Int) (w : World) (hT : BoxL w 0 T [.bool g0, .slice a0 n0 c0, .bool g1, .slice a1 n1 c1]) (r0 : rowW w (.agg #[.bool g0, .slice a0 n0 c0]) (mkW z0)) (r1 : rowW w (.agg #[.bool g1, .slice a1 n1 c1]) (mkW z1)) (m0 : (limbs z0.natAbs).length ≤ 1000) (m1 : (limbs z1.natAbs).length ≤ 1000) :
    Calls Try.prog 37 #[.slice (some ⟨T, 0, none⟩) 2 2] w fun e w' => ∃ v, e = .returned v ∧ rowW w v (mkW (lesserI z0 z1)) ∧ Hid ((v = .agg #[.bool g0, .slice a0 n0 c0] ∧ lesserI z0 z1 = z0) ∨ (v = .agg #[.bool g1, .slice a1 n1 c1] ∧ lesserI z0 z1 = z1)) ∧ Below w.heap.size w w' := by
  have kl : ∀ k, (limbs (least2K z0 z1 k).natAbs).length ≤ 1000 := by
    intro k
    match k with
    | 0 => exact m0
    | _ + 1 => exact (lesser_len m0 m1)
  have B0_0 : Below w.heap.size w w := Below.refl _ _
  obtain ⟨ww1, hww1⟩ : ∃ v, v = w.alloc (.cells #[.bool false, .slice none 0 0] 28) := ⟨_, rfl⟩
  have sz1 : ww1.heap.size = w.heap.size + 1 := by rw [hww1]; simp
  have bw1 : Below w.heap.size w ww1 := by rw [hww1]; exact below1 _ _
  have B0_1 := B0_0.trans (bw1.mono B0_0.size)
  have R0_1 : BoxL ww1 w.heap.size w.heap.size [.bool false, .slice none 0 0] := by rw [hww1]; have h := BoxL.made w [.bool false, .slice none 0 0] 28; exact h
  obtain ⟨ww2, hww2⟩ : ∃ v, v = ww1.alloc (.cells #[.bool g0, .slice a0 n0 c0] 28) := ⟨_, rfl⟩
  have sz2 : ww2.heap.size = w.heap.size + 1 + 1 := by rw [hww2]; simp [sz1]
  have bw2 : Below ww1.heap.size ww1 ww2 := by rw [hww2]; exact below1 _ _
  have B0_2 := B0_1.trans (bw2.mono B0_1.size)
  have R0_2 := R0_1.below bw2 (Nat.le_refl _)
  have O0_2 : BoxL ww2 (w.heap.size + 1) (w.heap.size + 1) [.bool g0, .slice a0 n0 c0] := by rw [hww2]; have h := BoxL.made ww1 [.bool g0, .slice a0 n0 c0] 28; rw [sz1] at h; exact h
  have R0 := R0_2
  have O0 := O0_2.mono (by omega : w.heap.size ≤ w.heap.size + 1)
  have B0 := B0_2
  have T0 := hT.below B0 (Nat.le_refl _)
  have lt_T := hT.hi
  clear B0_0 B0_1 B0_2 bw1 bw2 R0_1 R0_2 O0_2
  have hW := hT
  have c_w0 := hW.c 0 _ rfl
  have c_w1 := hW.c 1 _ rfl
  go_enter Try.func37, Try.ntmps37
  go_wp2_with fail
  have hvv : (w.alloc (.cells #[.bool false, .slice none 0 0] 28)).alloc (.cells #[.bool g0, .slice a0 n0 c0] 28) = ww2 := by rw [hww2]; rw [hww1]
  rw [hvv]
  clear hvv hww1 hww2 sz1 ww1 c_w0 c_w1 hW hT
  have hz0 : w.heap.size + 2 ≤ ww2.heap.size := by omega
  clear sz2
  go_loopw [4] (fun i wr => ∃ (k : Nat) (ug : Bool) (ua : Option Addr) (un uc : Nat), k ≤ 1 ∧ i = .int .i64 ((k : Int) + 1) ∧ BoxL wr w.heap.size (w.heap.size + 1) [.bool ug, .slice ua un uc] ∧ rowW w (.agg #[.bool ug, .slice ua un uc]) (mkW (least2K z0 z1 k)) ∧ BoxL wr w.heap.size w.heap.size [.bool false, .slice none 0 0] ∧ Hid ((Value.agg #[.bool ug, .slice ua un uc] = .agg #[.bool g0, .slice a0 n0 c0] ∧ least2K z0 z1 k = z0) ∨ (Value.agg #[.bool ug, .slice ua un uc] = .agg #[.bool g1, .slice a1 n1 c1] ∧ least2K z0 z1 k = z1)) ∧ BoxL wr 0 T [.bool g0, .slice a0 n0 c0, .bool g1, .slice a1 n1 c1] ∧ Below w.heap.size w wr) (fun i _ => 2 - (intOf i).toNat)
  case atStart => exact ⟨0, g0, a0, n0, c0, by omega, rfl, O0, r0, R0, Or.inl ⟨rfl, rfl⟩, T0, B0⟩
  case round =>
    clear O0 R0 T0 B0
    obtain ⟨k, ug, ua, un, uc, hk, rfl, O0, ru, R0, hU, T0, B0⟩ := hrel
    rcases (by omega : k = 0 ∨ k = 1) with rfl | rfl
    · obtain ⟨lo, hlo⟩ : ∃ z, least2K z0 z1 0 = z := ⟨_, rfl⟩
      have ll := kl 0
      rw [hlo] at ru ll hU
      have HL : Hid (least2K z0 z1 1 = lesserI lo z1) := by show _ = _; rw [← hlo]; rfl
      clear hlo
      have kC := fun W (h : Below w.heap.size w W) => sWCmp _ _ z1 lo W (r1.below h (Nat.le_refl _)) (ru.below h (Nat.le_refl _)) (by omega) (by omega)
      by_cases hl : z1 < lo
      · have HE := lesserY_yes hl HL.out
        replace HE : Hid (_ = _) := HE
        rw [cmpLt hl] at kC
        clear hl HL
        go_wp2_with fail
        obtain ⟨w1, hw1⟩ : ∃ v, Hid (v = wr.drew) := ⟨_, rfl⟩
        have bd : Below wr.heap.size wr w1 := by rw [hw1.out]; exact (Below.refl wr.heap.size wr).drew
        have B1 := B0.trans (bd.mono B0.size)
        have R1 := R0.below bd (Nat.le_refl _)
        have O1 := O0.below bd (Nat.le_refl _)
        have T1 := T0.below bd (Nat.le_refl _)
        clear B0 R0 O0 T0 bd
        have hH : (fun W : World => W.cell? ⟨T, 0, none⟩ = some (.bool g0) ∧ W.cell? ⟨T, 1, none⟩ = some (.slice a0 n0 c0) ∧ W.cell? ⟨T, 2, none⟩ = some (.bool g1) ∧ W.cell? ⟨T, 3, none⟩ = some (.slice a1 n1 c1) ∧ W.cell? ⟨w.heap.size + 1, 0, none⟩ = some (.bool ug) ∧ W.cell? ⟨w.heap.size + 1, 1, none⟩ = some (.slice ua un uc)) w1 := ⟨T1.c 0 _ rfl, T1.c 1 _ rfl, T1.c 2 _ rfl, T1.c 3 _ rfl, O1.c 0 _ rfl, O1.c 1 _ rfl⟩
        refine wp_region_held_drew (S := fun W => W.cell? ⟨T, 0, none⟩ = some (.bool g0) ∧ W.cell? ⟨T, 1, none⟩ = some (.slice a0 n0 c0) ∧ W.cell? ⟨T, 2, none⟩ = some (.bool g1) ∧ W.cell? ⟨T, 3, none⟩ = some (.slice a1 n1 c1) ∧ W.cell? ⟨w.heap.size + 1, 0, none⟩ = some (.bool ug) ∧ W.cell? ⟨w.heap.size + 1, 1, none⟩ = some (.slice ua un uc)) (by kernel_rfl) (by rw [← hw1.out]; exact hH) ?_
        intro _
        rw [← hw1.out]
        clear hw1
        refine takeH 0 (some 14) (.slice (some ⟨T, 0, none⟩) 2 2) rfl rfl (by kernel_rfl) (by kernel_rfl) (by kernel_rfl) (fun _ _ _ h => h) (Or.inl ⟨rfl, fun W hW => by go_simp⟩) hH ?_
        simp only [Act.put, List.setIfInBounds_toArray, List.set_cons_zero, List.set_cons_succ]
        refine takeH 1 (some 15) (.int .i64 1) rfl rfl (by kernel_rfl) (by kernel_rfl) (by kernel_rfl) (fun _ _ _ h => h) (Or.inl ⟨rfl, fun W hW => by go_simp⟩) hH ?_
        simp only [Act.put, List.setIfInBounds_toArray, List.set_cons_zero, List.set_cons_succ]
        refine takeH 2 (some 16) (.pointer (some ⟨T, 2, none⟩)) rfl rfl (by kernel_rfl) (by kernel_rfl) (by kernel_rfl) (fun _ _ _ h => h) (Or.inl ⟨rfl, fun W hW => by go_simp⟩) hH ?_
        simp only [Act.put, List.setIfInBounds_toArray, List.set_cons_zero, List.set_cons_succ]
        refine takeH 3 (some 17) (.agg #[.bool g1, .slice a1 n1 c1]) rfl rfl (by kernel_rfl) (by kernel_rfl) (by kernel_rfl) (fun _ _ _ h => h) (Or.inl ⟨rfl, fun W hW => by obtain ⟨l0, l1, l2, l3, l4, l5⟩ := hW; go_simp⟩) hH ?_
        simp only [Act.put, List.setIfInBounds_toArray, List.set_cons_zero, List.set_cons_succ]
        refine takeH 4 (some 18) (.agg #[.bool ug, .slice ua un uc]) rfl rfl (by kernel_rfl) (by kernel_rfl) (by kernel_rfl) (fun _ _ _ h => h) (Or.inl ⟨rfl, fun W hW => by obtain ⟨l0, l1, l2, l3, l4, l5⟩ := hW; go_simp⟩) hH ?_
        simp only [Act.put, List.setIfInBounds_toArray, List.set_cons_zero, List.set_cons_succ]
        refine oneH 5 rfl (by kernel_rfl) (fun K' hK => ?_)
        go_simp
        refine (kC _ B1).mono ?_
        rintro e w2 ⟨rfl, bb2⟩
        have B2 := B1.trans (bb2.mono B1.size)
        have R2 := R1.below bb2 (Nat.le_refl _)
        have O2 := O1.below bb2 (Nat.le_refl _)
        have T2 := T1.below bb2 (Nat.le_refl _)
        clear B1 R1 O1 T1 bb2 hH
        have hH : (fun W : World => W.cell? ⟨T, 0, none⟩ = some (.bool g0) ∧ W.cell? ⟨T, 1, none⟩ = some (.slice a0 n0 c0) ∧ W.cell? ⟨T, 2, none⟩ = some (.bool g1) ∧ W.cell? ⟨T, 3, none⟩ = some (.slice a1 n1 c1) ∧ W.cell? ⟨w.heap.size + 1, 0, none⟩ = some (.bool ug) ∧ W.cell? ⟨w.heap.size + 1, 1, none⟩ = some (.slice ua un uc)) w2 := ⟨T2.c 0 _ rfl, T2.c 1 _ rfl, T2.c 2 _ rfl, T2.c 3 _ rfl, O2.c 0 _ rfl, O2.c 1 _ rfl⟩
        refine hK _ _ hH ?_
        clear hK
        refine takeH 6 (some 20) (.bool true) rfl rfl (by kernel_rfl) (by kernel_rfl) (by kernel_rfl) (fun _ _ _ h => h) (Or.inl ⟨rfl, fun W hW => by go_simp⟩) hH ?_
        simp only [Act.put, List.setIfInBounds_toArray, List.set_cons_zero, List.set_cons_succ]
        clear hH
        refine wpAnyH_done (by kernel_rfl) ?_ _
        clear kC
        have c_T_0 := T2.c 0 _ rfl
        have f_T_0 := T2.f 0 _ rfl
        have c_T_1 := T2.c 1 _ rfl
        have f_T_1 := T2.f 1 _ rfl
        have c_T_2 := T2.c 2 _ rfl
        have f_T_2 := T2.f 2 _ rfl
        have c_T_3 := T2.c 3 _ rfl
        have f_T_3 := T2.f 3 _ rfl
        have c_O_0 := O2.c 0 _ rfl
        have f_O_0 := O2.f 0 _ rfl
        have c_O_1 := O2.c 1 _ rfl
        have f_O_1 := O2.f 1 _ rfl
        obtain ⟨w3, hw3⟩ : ∃ v, v = (w2.setCell ⟨w.heap.size + 1, 0, none⟩ (.bool g1)).setCell ⟨w.heap.size + 1, 1, none⟩ (.slice a1 n1 c1) := ⟨_, rfl⟩
        have tn3 : Tn [w.heap.size + 1] w2 w3 := by rw [hw3]; exact ((tnL w2 (w.heap.size + 1) 0 (.bool g1)).trans (tnL _ (w.heap.size + 1) 1 (.slice a1 n1 c1)))
        have O3 : BoxL w3 w.heap.size (w.heap.size + 1) [.bool g1, .slice a1 n1 c1] := by rw [hw3]; exact ((O2.set 0 (.bool g1) (by simp)).set 1 (.slice a1 n1 c1) (by simp))
        have blo3 := O2.lo
        have B3 := tn3.below B2 B2.size (fun q hq => by simp at hq; omega)
        have R3 := R2.tn tn3 (not_one (by omega))
        have T3 := T2.tn tn3 (not_one (by omega))
        clear B2 R2 O2 T2 tn3 blo3
        subst hw3
        go_wp2
        go_roundw
        case rel => exact ⟨1, g1, a1, n1, c1, by omega, by first | rfl | go_num, O3, by rw [HE.out]; exact r1, R3, Or.inr ⟨rfl, HE.out⟩, T3, B3⟩
        case measure => simp [intOf]
      · have HE := lesserY_no hl HL.out
        replace HE : Hid (_ = _) := HE
        have hc := cmpGe hl
        obtain ⟨cv, hcv⟩ : ∃ c, cmpZ z1 lo = c := ⟨_, rfl⟩
        rw [hcv] at kC hc
        obtain ⟨hc1, hc2⟩ := hc
        have hc3 : decide (cv < 0) = false := decide_eq_false (by omega)
        clear hl HL hcv
        go_wp2_with fail
        obtain ⟨w1, hw1⟩ : ∃ v, Hid (v = wr.drew) := ⟨_, rfl⟩
        have bd : Below wr.heap.size wr w1 := by rw [hw1.out]; exact (Below.refl wr.heap.size wr).drew
        have B1 := B0.trans (bd.mono B0.size)
        have R1 := R0.below bd (Nat.le_refl _)
        have O1 := O0.below bd (Nat.le_refl _)
        have T1 := T0.below bd (Nat.le_refl _)
        clear B0 R0 O0 T0 bd
        have hH : (fun W : World => W.cell? ⟨T, 0, none⟩ = some (.bool g0) ∧ W.cell? ⟨T, 1, none⟩ = some (.slice a0 n0 c0) ∧ W.cell? ⟨T, 2, none⟩ = some (.bool g1) ∧ W.cell? ⟨T, 3, none⟩ = some (.slice a1 n1 c1) ∧ W.cell? ⟨w.heap.size + 1, 0, none⟩ = some (.bool ug) ∧ W.cell? ⟨w.heap.size + 1, 1, none⟩ = some (.slice ua un uc)) w1 := ⟨T1.c 0 _ rfl, T1.c 1 _ rfl, T1.c 2 _ rfl, T1.c 3 _ rfl, O1.c 0 _ rfl, O1.c 1 _ rfl⟩
        refine wp_region_held_drew (S := fun W => W.cell? ⟨T, 0, none⟩ = some (.bool g0) ∧ W.cell? ⟨T, 1, none⟩ = some (.slice a0 n0 c0) ∧ W.cell? ⟨T, 2, none⟩ = some (.bool g1) ∧ W.cell? ⟨T, 3, none⟩ = some (.slice a1 n1 c1) ∧ W.cell? ⟨w.heap.size + 1, 0, none⟩ = some (.bool ug) ∧ W.cell? ⟨w.heap.size + 1, 1, none⟩ = some (.slice ua un uc)) (by kernel_rfl) (by rw [← hw1.out]; exact hH) ?_
        intro _
        rw [← hw1.out]
        clear hw1
        refine takeH 0 (some 14) (.slice (some ⟨T, 0, none⟩) 2 2) rfl rfl (by kernel_rfl) (by kernel_rfl) (by kernel_rfl) (fun _ _ _ h => h) (Or.inl ⟨rfl, fun W hW => by go_simp⟩) hH ?_
        simp only [Act.put, List.setIfInBounds_toArray, List.set_cons_zero, List.set_cons_succ]
        refine takeH 1 (some 15) (.int .i64 1) rfl rfl (by kernel_rfl) (by kernel_rfl) (by kernel_rfl) (fun _ _ _ h => h) (Or.inl ⟨rfl, fun W hW => by go_simp⟩) hH ?_
        simp only [Act.put, List.setIfInBounds_toArray, List.set_cons_zero, List.set_cons_succ]
        refine takeH 2 (some 16) (.pointer (some ⟨T, 2, none⟩)) rfl rfl (by kernel_rfl) (by kernel_rfl) (by kernel_rfl) (fun _ _ _ h => h) (Or.inl ⟨rfl, fun W hW => by go_simp⟩) hH ?_
        simp only [Act.put, List.setIfInBounds_toArray, List.set_cons_zero, List.set_cons_succ]
        refine takeH 3 (some 17) (.agg #[.bool g1, .slice a1 n1 c1]) rfl rfl (by kernel_rfl) (by kernel_rfl) (by kernel_rfl) (fun _ _ _ h => h) (Or.inl ⟨rfl, fun W hW => by obtain ⟨l0, l1, l2, l3, l4, l5⟩ := hW; go_simp⟩) hH ?_
        simp only [Act.put, List.setIfInBounds_toArray, List.set_cons_zero, List.set_cons_succ]
        refine takeH 4 (some 18) (.agg #[.bool ug, .slice ua un uc]) rfl rfl (by kernel_rfl) (by kernel_rfl) (by kernel_rfl) (fun _ _ _ h => h) (Or.inl ⟨rfl, fun W hW => by obtain ⟨l0, l1, l2, l3, l4, l5⟩ := hW; go_simp⟩) hH ?_
        simp only [Act.put, List.setIfInBounds_toArray, List.set_cons_zero, List.set_cons_succ]
        refine oneH 5 rfl (by kernel_rfl) (fun K' hK => ?_)
        go_simp
        refine (kC _ B1).mono ?_
        rintro e w2 ⟨rfl, bb2⟩
        have B2 := B1.trans (bb2.mono B1.size)
        have R2 := R1.below bb2 (Nat.le_refl _)
        have O2 := O1.below bb2 (Nat.le_refl _)
        have T2 := T1.below bb2 (Nat.le_refl _)
        clear B1 R1 O1 T1 bb2 hH
        have hH : (fun W : World => W.cell? ⟨T, 0, none⟩ = some (.bool g0) ∧ W.cell? ⟨T, 1, none⟩ = some (.slice a0 n0 c0) ∧ W.cell? ⟨T, 2, none⟩ = some (.bool g1) ∧ W.cell? ⟨T, 3, none⟩ = some (.slice a1 n1 c1) ∧ W.cell? ⟨w.heap.size + 1, 0, none⟩ = some (.bool ug) ∧ W.cell? ⟨w.heap.size + 1, 1, none⟩ = some (.slice ua un uc)) w2 := ⟨T2.c 0 _ rfl, T2.c 1 _ rfl, T2.c 2 _ rfl, T2.c 3 _ rfl, O2.c 0 _ rfl, O2.c 1 _ rfl⟩
        refine hK _ _ hH ?_
        clear hK
        refine takeH 6 (some 20) (.bool false) rfl rfl (by kernel_rfl) (by kernel_rfl) (by kernel_rfl) (fun _ _ _ h => h) (Or.inl ⟨rfl, fun W hW => by go_simp⟩) hH ?_
        simp only [Act.put, List.setIfInBounds_toArray, List.set_cons_zero, List.set_cons_succ]
        clear hH
        refine wpAnyH_done (by kernel_rfl) ?_ _
        clear kC
        go_wp2
        go_roundw
        case rel => exact ⟨1, ug, ua, un, uc, by omega, by first | rfl | go_num, O2, by rw [HE.out]; exact ru, R2, hU.out.elim (fun h => Or.inl ⟨h.1, HE.out.trans h.2⟩) (fun h => Or.inr ⟨h.1, HE.out.trans h.2⟩), T2, B2⟩
        case measure => simp [intOf]
    · replace hU : Hid ((Value.agg #[.bool ug, .slice ua un uc] = .agg #[.bool g0, .slice a0 n0 c0] ∧ lesserI z0 z1 = z0) ∨ (Value.agg #[.bool ug, .slice ua un uc] = .agg #[.bool g1, .slice a1 n1 c1] ∧ lesserI z0 z1 = z1)) := hU
      replace ru : rowW w (.agg #[.bool ug, .slice ua un uc]) (mkW (lesserI z0 z1)) := ru
      have c_O_0 := O0.c 0 _ rfl
      have c_O_1 := O0.c 1 _ rfl
      have c_R_0 := R0.c 0 _ rfl
      have f_R_0 := R0.f 0 _ rfl
      have c_R_1 := R0.c 1 _ rfl
      have f_R_1 := R0.f 1 _ rfl
      obtain ⟨w1, hw1⟩ : ∃ v, v = (wr.setCell ⟨w.heap.size, 0, none⟩ (.bool ug)).setCell ⟨w.heap.size, 1, none⟩ (.slice ua un uc) := ⟨_, rfl⟩
      have tn1 : Tn [w.heap.size] wr w1 := by rw [hw1]; exact ((tnL wr w.heap.size 0 (.bool ug)).trans (tnL _ w.heap.size 1 (.slice ua un uc)))
      have R1 : BoxL w1 w.heap.size w.heap.size [.bool ug, .slice ua un uc] := by rw [hw1]; exact ((R0.set 0 (.bool ug) (by simp)).set 1 (.slice ua un uc) (by simp))
      have blo1 := R0.lo
      have B1 := tn1.below B0 B0.size (fun q hq => by simp at hq; omega)
      have O1 := O0.tn tn1 (not_one (by omega))
      have T1 := T0.tn tn1 (not_one (by omega))
      clear B0 R0 O0 T0 tn1 blo1
      subst hw1
      go_wp2
      (try simp only [Exit.inBlock, Exit.then])
      refine bodyPost_ret (v := .agg #[.bool ug, .slice ua un uc]) ?_ rfl ⟨_, rfl, ru, hU, B1⟩
      rw [results_cell1 rfl]
      go_simp

def least4K (z0 z1 z2 z3 : Int) : Nat → Int
  | 0 => z0
  | 1 => lesserI z0 z1
  | 2 => lesserI (lesserI z0 z1) z2
  | _ => lesserI (lesserI (lesserI z0 z1) z2) z3
set_option maxRecDepth 20000 in
set_option maxHeartbeats 6400000 in
theorem least4 (T : Nat) (g0 g1 g2 g3 : Bool) (a0 a1 a2 a3 : Option Addr) (n0 c0 n1 c1 n2 c2 n3 c3 : Nat) (z0 z1 z2 z3 : Int) (w : World) (hT : BoxL w 0 T [.bool g0, .slice a0 n0 c0, .bool g1, .slice a1 n1 c1, .bool g2, .slice a2 n2 c2, .bool g3, .slice a3 n3 c3]) (r0 : rowW w (.agg #[.bool g0, .slice a0 n0 c0]) (mkW z0)) (r1 : rowW w (.agg #[.bool g1, .slice a1 n1 c1]) (mkW z1)) (r2 : rowW w (.agg #[.bool g2, .slice a2 n2 c2]) (mkW z2)) (r3 : rowW w (.agg #[.bool g3, .slice a3 n3 c3]) (mkW z3)) (m0 : (limbs z0.natAbs).length ≤ 1000) (m1 : (limbs z1.natAbs).length ≤ 1000) (m2 : (limbs z2.natAbs).length ≤ 1000) (m3 : (limbs z3.natAbs).length ≤ 1000) :
    Calls Try.prog 37 #[.slice (some ⟨T, 0, none⟩) 4 4] w fun e w' => ∃ v, e = .returned v ∧ rowW w v (mkW (lesserI (lesserI (lesserI z0 z1) z2) z3)) ∧ Below w.heap.size w w' := by
  have kl : ∀ k, (limbs (least4K z0 z1 z2 z3 k).natAbs).length ≤ 1000 := by
    intro k
    match k with
    | 0 => exact m0
    | 1 => exact (lesser_len m0 m1)
    | 2 => exact (lesser_len (lesser_len m0 m1) m2)
    | _ + 3 => exact (lesser_len (lesser_len (lesser_len m0 m1) m2) m3)
  have B0_0 : Below w.heap.size w w := Below.refl _ _
  obtain ⟨ww1, hww1⟩ : ∃ v, v = w.alloc (.cells #[.bool false, .slice none 0 0] 28) := ⟨_, rfl⟩
  have sz1 : ww1.heap.size = w.heap.size + 1 := by rw [hww1]; simp
  have bw1 : Below w.heap.size w ww1 := by rw [hww1]; exact below1 _ _
  have B0_1 := B0_0.trans (bw1.mono B0_0.size)
  have R0_1 : BoxL ww1 w.heap.size w.heap.size [.bool false, .slice none 0 0] := by rw [hww1]; have h := BoxL.made w [.bool false, .slice none 0 0] 28; exact h
  obtain ⟨ww2, hww2⟩ : ∃ v, v = ww1.alloc (.cells #[.bool g0, .slice a0 n0 c0] 28) := ⟨_, rfl⟩
  have sz2 : ww2.heap.size = w.heap.size + 1 + 1 := by rw [hww2]; simp [sz1]
  have bw2 : Below ww1.heap.size ww1 ww2 := by rw [hww2]; exact below1 _ _
  have B0_2 := B0_1.trans (bw2.mono B0_1.size)
  have R0_2 := R0_1.below bw2 (Nat.le_refl _)
  have O0_2 : BoxL ww2 (w.heap.size + 1) (w.heap.size + 1) [.bool g0, .slice a0 n0 c0] := by rw [hww2]; have h := BoxL.made ww1 [.bool g0, .slice a0 n0 c0] 28; rw [sz1] at h; exact h
  have R0 := R0_2
  have O0 := O0_2.mono (by omega : w.heap.size ≤ w.heap.size + 1)
  have B0 := B0_2
  have T0 := hT.below B0 (Nat.le_refl _)
  have lt_T := hT.hi
  clear B0_0 B0_1 B0_2 bw1 bw2 R0_1 R0_2 O0_2
  have hW := hT
  have c_w0 := hW.c 0 _ rfl
  have c_w1 := hW.c 1 _ rfl
  go_enter Try.func37, Try.ntmps37
  go_wp2_with fail
  have hvv : (w.alloc (.cells #[.bool false, .slice none 0 0] 28)).alloc (.cells #[.bool g0, .slice a0 n0 c0] 28) = ww2 := by rw [hww2]; rw [hww1]
  rw [hvv]
  clear hvv hww1 hww2 sz1 ww1 c_w0 c_w1 hW hT
  have hz0 : w.heap.size + 2 ≤ ww2.heap.size := by omega
  clear sz2
  go_loopw [4] (fun i wr => ∃ (k : Nat) (ug : Bool) (ua : Option Addr) (un uc : Nat), k ≤ 3 ∧ i = .int .i64 ((k : Int) + 1) ∧ BoxL wr w.heap.size (w.heap.size + 1) [.bool ug, .slice ua un uc] ∧ rowW w (.agg #[.bool ug, .slice ua un uc]) (mkW (least4K z0 z1 z2 z3 k)) ∧ BoxL wr w.heap.size w.heap.size [.bool false, .slice none 0 0] ∧ BoxL wr 0 T [.bool g0, .slice a0 n0 c0, .bool g1, .slice a1 n1 c1, .bool g2, .slice a2 n2 c2, .bool g3, .slice a3 n3 c3] ∧ Below w.heap.size w wr) (fun i _ => 4 - (intOf i).toNat)
  case atStart => exact ⟨0, g0, a0, n0, c0, by omega, rfl, O0, r0, R0, T0, B0⟩
  case round =>
    clear O0 R0 T0 B0
    obtain ⟨k, ug, ua, un, uc, hk, rfl, O0, ru, R0, T0, B0⟩ := hrel
    rcases (by omega : k = 0 ∨ k = 1 ∨ k = 2 ∨ k = 3) with rfl | rfl | rfl | rfl
    · obtain ⟨lo, hlo⟩ : ∃ z, least4K z0 z1 z2 z3 0 = z := ⟨_, rfl⟩
      have ll := kl 0
      rw [hlo] at ru ll
      have HL : Hid (least4K z0 z1 z2 z3 1 = lesserI lo z1) := by show _ = _; rw [← hlo]; rfl
      clear hlo
      have kC := fun W (h : Below w.heap.size w W) => sWCmp _ _ z1 lo W (r1.below h (Nat.le_refl _)) (ru.below h (Nat.le_refl _)) (by omega) (by omega)
      by_cases hl : z1 < lo
      · have HE := lesserY_yes hl HL.out
        replace HE : Hid (_ = _) := HE
        rw [cmpLt hl] at kC
        clear hl HL
        go_wp2_with fail
        obtain ⟨w1, hw1⟩ : ∃ v, Hid (v = wr.drew) := ⟨_, rfl⟩
        have bd : Below wr.heap.size wr w1 := by rw [hw1.out]; exact (Below.refl wr.heap.size wr).drew
        have B1 := B0.trans (bd.mono B0.size)
        have R1 := R0.below bd (Nat.le_refl _)
        have O1 := O0.below bd (Nat.le_refl _)
        have T1 := T0.below bd (Nat.le_refl _)
        clear B0 R0 O0 T0 bd
        have hH : (fun W : World => W.cell? ⟨T, 0, none⟩ = some (.bool g0) ∧ W.cell? ⟨T, 1, none⟩ = some (.slice a0 n0 c0) ∧ W.cell? ⟨T, 2, none⟩ = some (.bool g1) ∧ W.cell? ⟨T, 3, none⟩ = some (.slice a1 n1 c1) ∧ W.cell? ⟨T, 4, none⟩ = some (.bool g2) ∧ W.cell? ⟨T, 5, none⟩ = some (.slice a2 n2 c2) ∧ W.cell? ⟨T, 6, none⟩ = some (.bool g3) ∧ W.cell? ⟨T, 7, none⟩ = some (.slice a3 n3 c3) ∧ W.cell? ⟨w.heap.size + 1, 0, none⟩ = some (.bool ug) ∧ W.cell? ⟨w.heap.size + 1, 1, none⟩ = some (.slice ua un uc)) w1 := ⟨T1.c 0 _ rfl, T1.c 1 _ rfl, T1.c 2 _ rfl, T1.c 3 _ rfl, T1.c 4 _ rfl, T1.c 5 _ rfl, T1.c 6 _ rfl, T1.c 7 _ rfl, O1.c 0 _ rfl, O1.c 1 _ rfl⟩
        refine wp_region_held_drew (S := fun W => W.cell? ⟨T, 0, none⟩ = some (.bool g0) ∧ W.cell? ⟨T, 1, none⟩ = some (.slice a0 n0 c0) ∧ W.cell? ⟨T, 2, none⟩ = some (.bool g1) ∧ W.cell? ⟨T, 3, none⟩ = some (.slice a1 n1 c1) ∧ W.cell? ⟨T, 4, none⟩ = some (.bool g2) ∧ W.cell? ⟨T, 5, none⟩ = some (.slice a2 n2 c2) ∧ W.cell? ⟨T, 6, none⟩ = some (.bool g3) ∧ W.cell? ⟨T, 7, none⟩ = some (.slice a3 n3 c3) ∧ W.cell? ⟨w.heap.size + 1, 0, none⟩ = some (.bool ug) ∧ W.cell? ⟨w.heap.size + 1, 1, none⟩ = some (.slice ua un uc)) (by kernel_rfl) (by rw [← hw1.out]; exact hH) ?_
        intro _
        rw [← hw1.out]
        clear hw1
        refine takeH 0 (some 14) (.slice (some ⟨T, 0, none⟩) 4 4) rfl rfl (by kernel_rfl) (by kernel_rfl) (by kernel_rfl) (fun _ _ _ h => h) (Or.inl ⟨rfl, fun W hW => by go_simp⟩) hH ?_
        simp only [Act.put, List.setIfInBounds_toArray, List.set_cons_zero, List.set_cons_succ]
        refine takeH 1 (some 15) (.int .i64 1) rfl rfl (by kernel_rfl) (by kernel_rfl) (by kernel_rfl) (fun _ _ _ h => h) (Or.inl ⟨rfl, fun W hW => by go_simp⟩) hH ?_
        simp only [Act.put, List.setIfInBounds_toArray, List.set_cons_zero, List.set_cons_succ]
        refine takeH 2 (some 16) (.pointer (some ⟨T, 2, none⟩)) rfl rfl (by kernel_rfl) (by kernel_rfl) (by kernel_rfl) (fun _ _ _ h => h) (Or.inl ⟨rfl, fun W hW => by go_simp⟩) hH ?_
        simp only [Act.put, List.setIfInBounds_toArray, List.set_cons_zero, List.set_cons_succ]
        refine takeH 3 (some 17) (.agg #[.bool g1, .slice a1 n1 c1]) rfl rfl (by kernel_rfl) (by kernel_rfl) (by kernel_rfl) (fun _ _ _ h => h) (Or.inl ⟨rfl, fun W hW => by obtain ⟨l0, l1, l2, l3, l4, l5, l6, l7, l8, l9⟩ := hW; go_simp⟩) hH ?_
        simp only [Act.put, List.setIfInBounds_toArray, List.set_cons_zero, List.set_cons_succ]
        refine takeH 4 (some 18) (.agg #[.bool ug, .slice ua un uc]) rfl rfl (by kernel_rfl) (by kernel_rfl) (by kernel_rfl) (fun _ _ _ h => h) (Or.inl ⟨rfl, fun W hW => by obtain ⟨l0, l1, l2, l3, l4, l5, l6, l7, l8, l9⟩ := hW; go_simp⟩) hH ?_
        simp only [Act.put, List.setIfInBounds_toArray, List.set_cons_zero, List.set_cons_succ]
        refine oneH 5 rfl (by kernel_rfl) (fun K' hK => ?_)
        go_simp
        refine (kC _ B1).mono ?_
        rintro e w2 ⟨rfl, bb2⟩
        have B2 := B1.trans (bb2.mono B1.size)
        have R2 := R1.below bb2 (Nat.le_refl _)
        have O2 := O1.below bb2 (Nat.le_refl _)
        have T2 := T1.below bb2 (Nat.le_refl _)
        clear B1 R1 O1 T1 bb2 hH
        have hH : (fun W : World => W.cell? ⟨T, 0, none⟩ = some (.bool g0) ∧ W.cell? ⟨T, 1, none⟩ = some (.slice a0 n0 c0) ∧ W.cell? ⟨T, 2, none⟩ = some (.bool g1) ∧ W.cell? ⟨T, 3, none⟩ = some (.slice a1 n1 c1) ∧ W.cell? ⟨T, 4, none⟩ = some (.bool g2) ∧ W.cell? ⟨T, 5, none⟩ = some (.slice a2 n2 c2) ∧ W.cell? ⟨T, 6, none⟩ = some (.bool g3) ∧ W.cell? ⟨T, 7, none⟩ = some (.slice a3 n3 c3) ∧ W.cell? ⟨w.heap.size + 1, 0, none⟩ = some (.bool ug) ∧ W.cell? ⟨w.heap.size + 1, 1, none⟩ = some (.slice ua un uc)) w2 := ⟨T2.c 0 _ rfl, T2.c 1 _ rfl, T2.c 2 _ rfl, T2.c 3 _ rfl, T2.c 4 _ rfl, T2.c 5 _ rfl, T2.c 6 _ rfl, T2.c 7 _ rfl, O2.c 0 _ rfl, O2.c 1 _ rfl⟩
        refine hK _ _ hH ?_
        clear hK
        refine takeH 6 (some 20) (.bool true) rfl rfl (by kernel_rfl) (by kernel_rfl) (by kernel_rfl) (fun _ _ _ h => h) (Or.inl ⟨rfl, fun W hW => by go_simp⟩) hH ?_
        simp only [Act.put, List.setIfInBounds_toArray, List.set_cons_zero, List.set_cons_succ]
        clear hH
        refine wpAnyH_done (by kernel_rfl) ?_ _
        clear kC
        have c_T_0 := T2.c 0 _ rfl
        have f_T_0 := T2.f 0 _ rfl
        have c_T_1 := T2.c 1 _ rfl
        have f_T_1 := T2.f 1 _ rfl
        have c_T_2 := T2.c 2 _ rfl
        have f_T_2 := T2.f 2 _ rfl
        have c_T_3 := T2.c 3 _ rfl
        have f_T_3 := T2.f 3 _ rfl
        have c_T_4 := T2.c 4 _ rfl
        have f_T_4 := T2.f 4 _ rfl
        have c_T_5 := T2.c 5 _ rfl
        have f_T_5 := T2.f 5 _ rfl
        have c_T_6 := T2.c 6 _ rfl
        have f_T_6 := T2.f 6 _ rfl
        have c_T_7 := T2.c 7 _ rfl
        have f_T_7 := T2.f 7 _ rfl
        have c_O_0 := O2.c 0 _ rfl
        have f_O_0 := O2.f 0 _ rfl
        have c_O_1 := O2.c 1 _ rfl
        have f_O_1 := O2.f 1 _ rfl
        obtain ⟨w3, hw3⟩ : ∃ v, v = (w2.setCell ⟨w.heap.size + 1, 0, none⟩ (.bool g1)).setCell ⟨w.heap.size + 1, 1, none⟩ (.slice a1 n1 c1) := ⟨_, rfl⟩
        have tn3 : Tn [w.heap.size + 1] w2 w3 := by rw [hw3]; exact ((tnL w2 (w.heap.size + 1) 0 (.bool g1)).trans (tnL _ (w.heap.size + 1) 1 (.slice a1 n1 c1)))
        have O3 : BoxL w3 w.heap.size (w.heap.size + 1) [.bool g1, .slice a1 n1 c1] := by rw [hw3]; exact ((O2.set 0 (.bool g1) (by simp)).set 1 (.slice a1 n1 c1) (by simp))
        have blo3 := O2.lo
        have B3 := tn3.below B2 B2.size (fun q hq => by simp at hq; omega)
        have R3 := R2.tn tn3 (not_one (by omega))
        have T3 := T2.tn tn3 (not_one (by omega))
        clear B2 R2 O2 T2 tn3 blo3
        subst hw3
        go_wp2
        go_roundw
        case rel => exact ⟨1, g1, a1, n1, c1, by omega, by first | rfl | go_num, O3, by rw [HE.out]; exact r1, R3, T3, B3⟩
        case measure => simp [intOf]
      · have HE := lesserY_no hl HL.out
        replace HE : Hid (_ = _) := HE
        have hc := cmpGe hl
        obtain ⟨cv, hcv⟩ : ∃ c, cmpZ z1 lo = c := ⟨_, rfl⟩
        rw [hcv] at kC hc
        obtain ⟨hc1, hc2⟩ := hc
        have hc3 : decide (cv < 0) = false := decide_eq_false (by omega)
        clear hl HL hcv
        go_wp2_with fail
        obtain ⟨w1, hw1⟩ : ∃ v, Hid (v = wr.drew) := ⟨_, rfl⟩
        have bd : Below wr.heap.size wr w1 := by rw [hw1.out]; exact (Below.refl wr.heap.size wr).drew
        have B1 := B0.trans (bd.mono B0.size)
        have R1 := R0.below bd (Nat.le_refl _)
        have O1 := O0.below bd (Nat.le_refl _)
        have T1 := T0.below bd (Nat.le_refl _)
        clear B0 R0 O0 T0 bd
        have hH : (fun W : World => W.cell? ⟨T, 0, none⟩ = some (.bool g0) ∧ W.cell? ⟨T, 1, none⟩ = some (.slice a0 n0 c0) ∧ W.cell? ⟨T, 2, none⟩ = some (.bool g1) ∧ W.cell? ⟨T, 3, none⟩ = some (.slice a1 n1 c1) ∧ W.cell? ⟨T, 4, none⟩ = some (.bool g2) ∧ W.cell? ⟨T, 5, none⟩ = some (.slice a2 n2 c2) ∧ W.cell? ⟨T, 6, none⟩ = some (.bool g3) ∧ W.cell? ⟨T, 7, none⟩ = some (.slice a3 n3 c3) ∧ W.cell? ⟨w.heap.size + 1, 0, none⟩ = some (.bool ug) ∧ W.cell? ⟨w.heap.size + 1, 1, none⟩ = some (.slice ua un uc)) w1 := ⟨T1.c 0 _ rfl, T1.c 1 _ rfl, T1.c 2 _ rfl, T1.c 3 _ rfl, T1.c 4 _ rfl, T1.c 5 _ rfl, T1.c 6 _ rfl, T1.c 7 _ rfl, O1.c 0 _ rfl, O1.c 1 _ rfl⟩
        refine wp_region_held_drew (S := fun W => W.cell? ⟨T, 0, none⟩ = some (.bool g0) ∧ W.cell? ⟨T, 1, none⟩ = some (.slice a0 n0 c0) ∧ W.cell? ⟨T, 2, none⟩ = some (.bool g1) ∧ W.cell? ⟨T, 3, none⟩ = some (.slice a1 n1 c1) ∧ W.cell? ⟨T, 4, none⟩ = some (.bool g2) ∧ W.cell? ⟨T, 5, none⟩ = some (.slice a2 n2 c2) ∧ W.cell? ⟨T, 6, none⟩ = some (.bool g3) ∧ W.cell? ⟨T, 7, none⟩ = some (.slice a3 n3 c3) ∧ W.cell? ⟨w.heap.size + 1, 0, none⟩ = some (.bool ug) ∧ W.cell? ⟨w.heap.size + 1, 1, none⟩ = some (.slice ua un uc)) (by kernel_rfl) (by rw [← hw1.out]; exact hH) ?_
        intro _
        rw [← hw1.out]
        clear hw1
        refine takeH 0 (some 14) (.slice (some ⟨T, 0, none⟩) 4 4) rfl rfl (by kernel_rfl) (by kernel_rfl) (by kernel_rfl) (fun _ _ _ h => h) (Or.inl ⟨rfl, fun W hW => by go_simp⟩) hH ?_
        simp only [Act.put, List.setIfInBounds_toArray, List.set_cons_zero, List.set_cons_succ]
        refine takeH 1 (some 15) (.int .i64 1) rfl rfl (by kernel_rfl) (by kernel_rfl) (by kernel_rfl) (fun _ _ _ h => h) (Or.inl ⟨rfl, fun W hW => by go_simp⟩) hH ?_
        simp only [Act.put, List.setIfInBounds_toArray, List.set_cons_zero, List.set_cons_succ]
        refine takeH 2 (some 16) (.pointer (some ⟨T, 2, none⟩)) rfl rfl (by kernel_rfl) (by kernel_rfl) (by kernel_rfl) (fun _ _ _ h => h) (Or.inl ⟨rfl, fun W hW => by go_simp⟩) hH ?_
        simp only [Act.put, List.setIfInBounds_toArray, List.set_cons_zero, List.set_cons_succ]
        refine takeH 3 (some 17) (.agg #[.bool g1, .slice a1 n1 c1]) rfl rfl (by kernel_rfl) (by kernel_rfl) (by kernel_rfl) (fun _ _ _ h => h) (Or.inl ⟨rfl, fun W hW => by obtain ⟨l0, l1, l2, l3, l4, l5, l6, l7, l8, l9⟩ := hW; go_simp⟩) hH ?_
        simp only [Act.put, List.setIfInBounds_toArray, List.set_cons_zero, List.set_cons_succ]
        refine takeH 4 (some 18) (.agg #[.bool ug, .slice ua un uc]) rfl rfl (by kernel_rfl) (by kernel_rfl) (by kernel_rfl) (fun _ _ _ h => h) (Or.inl ⟨rfl, fun W hW => by obtain ⟨l0, l1, l2, l3, l4, l5, l6, l7, l8, l9⟩ := hW; go_simp⟩) hH ?_
        simp only [Act.put, List.setIfInBounds_toArray, List.set_cons_zero, List.set_cons_succ]
        refine oneH 5 rfl (by kernel_rfl) (fun K' hK => ?_)
        go_simp
        refine (kC _ B1).mono ?_
        rintro e w2 ⟨rfl, bb2⟩
        have B2 := B1.trans (bb2.mono B1.size)
        have R2 := R1.below bb2 (Nat.le_refl _)
        have O2 := O1.below bb2 (Nat.le_refl _)
        have T2 := T1.below bb2 (Nat.le_refl _)
        clear B1 R1 O1 T1 bb2 hH
        have hH : (fun W : World => W.cell? ⟨T, 0, none⟩ = some (.bool g0) ∧ W.cell? ⟨T, 1, none⟩ = some (.slice a0 n0 c0) ∧ W.cell? ⟨T, 2, none⟩ = some (.bool g1) ∧ W.cell? ⟨T, 3, none⟩ = some (.slice a1 n1 c1) ∧ W.cell? ⟨T, 4, none⟩ = some (.bool g2) ∧ W.cell? ⟨T, 5, none⟩ = some (.slice a2 n2 c2) ∧ W.cell? ⟨T, 6, none⟩ = some (.bool g3) ∧ W.cell? ⟨T, 7, none⟩ = some (.slice a3 n3 c3) ∧ W.cell? ⟨w.heap.size + 1, 0, none⟩ = some (.bool ug) ∧ W.cell? ⟨w.heap.size + 1, 1, none⟩ = some (.slice ua un uc)) w2 := ⟨T2.c 0 _ rfl, T2.c 1 _ rfl, T2.c 2 _ rfl, T2.c 3 _ rfl, T2.c 4 _ rfl, T2.c 5 _ rfl, T2.c 6 _ rfl, T2.c 7 _ rfl, O2.c 0 _ rfl, O2.c 1 _ rfl⟩
        refine hK _ _ hH ?_
        clear hK
        refine takeH 6 (some 20) (.bool false) rfl rfl (by kernel_rfl) (by kernel_rfl) (by kernel_rfl) (fun _ _ _ h => h) (Or.inl ⟨rfl, fun W hW => by go_simp⟩) hH ?_
        simp only [Act.put, List.setIfInBounds_toArray, List.set_cons_zero, List.set_cons_succ]
        clear hH
        refine wpAnyH_done (by kernel_rfl) ?_ _
        clear kC
        go_wp2
        go_roundw
        case rel => exact ⟨1, ug, ua, un, uc, by omega, by first | rfl | go_num, O2, by rw [HE.out]; exact ru, R2, T2, B2⟩
        case measure => simp [intOf]
    · obtain ⟨lo, hlo⟩ : ∃ z, least4K z0 z1 z2 z3 1 = z := ⟨_, rfl⟩
      have ll := kl 1
      rw [hlo] at ru ll
      have HL : Hid (least4K z0 z1 z2 z3 2 = lesserI lo z2) := by show _ = _; rw [← hlo]; rfl
      clear hlo
      have kC := fun W (h : Below w.heap.size w W) => sWCmp _ _ z2 lo W (r2.below h (Nat.le_refl _)) (ru.below h (Nat.le_refl _)) (by omega) (by omega)
      by_cases hl : z2 < lo
      · have HE := lesserY_yes hl HL.out
        replace HE : Hid (_ = _) := HE
        rw [cmpLt hl] at kC
        clear hl HL
        go_wp2_with fail
        obtain ⟨w1, hw1⟩ : ∃ v, Hid (v = wr.drew) := ⟨_, rfl⟩
        have bd : Below wr.heap.size wr w1 := by rw [hw1.out]; exact (Below.refl wr.heap.size wr).drew
        have B1 := B0.trans (bd.mono B0.size)
        have R1 := R0.below bd (Nat.le_refl _)
        have O1 := O0.below bd (Nat.le_refl _)
        have T1 := T0.below bd (Nat.le_refl _)
        clear B0 R0 O0 T0 bd
        have hH : (fun W : World => W.cell? ⟨T, 0, none⟩ = some (.bool g0) ∧ W.cell? ⟨T, 1, none⟩ = some (.slice a0 n0 c0) ∧ W.cell? ⟨T, 2, none⟩ = some (.bool g1) ∧ W.cell? ⟨T, 3, none⟩ = some (.slice a1 n1 c1) ∧ W.cell? ⟨T, 4, none⟩ = some (.bool g2) ∧ W.cell? ⟨T, 5, none⟩ = some (.slice a2 n2 c2) ∧ W.cell? ⟨T, 6, none⟩ = some (.bool g3) ∧ W.cell? ⟨T, 7, none⟩ = some (.slice a3 n3 c3) ∧ W.cell? ⟨w.heap.size + 1, 0, none⟩ = some (.bool ug) ∧ W.cell? ⟨w.heap.size + 1, 1, none⟩ = some (.slice ua un uc)) w1 := ⟨T1.c 0 _ rfl, T1.c 1 _ rfl, T1.c 2 _ rfl, T1.c 3 _ rfl, T1.c 4 _ rfl, T1.c 5 _ rfl, T1.c 6 _ rfl, T1.c 7 _ rfl, O1.c 0 _ rfl, O1.c 1 _ rfl⟩
        refine wp_region_held_drew (S := fun W => W.cell? ⟨T, 0, none⟩ = some (.bool g0) ∧ W.cell? ⟨T, 1, none⟩ = some (.slice a0 n0 c0) ∧ W.cell? ⟨T, 2, none⟩ = some (.bool g1) ∧ W.cell? ⟨T, 3, none⟩ = some (.slice a1 n1 c1) ∧ W.cell? ⟨T, 4, none⟩ = some (.bool g2) ∧ W.cell? ⟨T, 5, none⟩ = some (.slice a2 n2 c2) ∧ W.cell? ⟨T, 6, none⟩ = some (.bool g3) ∧ W.cell? ⟨T, 7, none⟩ = some (.slice a3 n3 c3) ∧ W.cell? ⟨w.heap.size + 1, 0, none⟩ = some (.bool ug) ∧ W.cell? ⟨w.heap.size + 1, 1, none⟩ = some (.slice ua un uc)) (by kernel_rfl) (by rw [← hw1.out]; exact hH) ?_
        intro _
        rw [← hw1.out]
        clear hw1
        refine takeH 0 (some 14) (.slice (some ⟨T, 0, none⟩) 4 4) rfl rfl (by kernel_rfl) (by kernel_rfl) (by kernel_rfl) (fun _ _ _ h => h) (Or.inl ⟨rfl, fun W hW => by go_simp⟩) hH ?_
        simp only [Act.put, List.setIfInBounds_toArray, List.set_cons_zero, List.set_cons_succ]
        refine takeH 1 (some 15) (.int .i64 2) rfl rfl (by kernel_rfl) (by kernel_rfl) (by kernel_rfl) (fun _ _ _ h => h) (Or.inl ⟨rfl, fun W hW => by go_simp⟩) hH ?_
        simp only [Act.put, List.setIfInBounds_toArray, List.set_cons_zero, List.set_cons_succ]
        refine takeH 2 (some 16) (.pointer (some ⟨T, 4, none⟩)) rfl rfl (by kernel_rfl) (by kernel_rfl) (by kernel_rfl) (fun _ _ _ h => h) (Or.inl ⟨rfl, fun W hW => by go_simp⟩) hH ?_
        simp only [Act.put, List.setIfInBounds_toArray, List.set_cons_zero, List.set_cons_succ]
        refine takeH 3 (some 17) (.agg #[.bool g2, .slice a2 n2 c2]) rfl rfl (by kernel_rfl) (by kernel_rfl) (by kernel_rfl) (fun _ _ _ h => h) (Or.inl ⟨rfl, fun W hW => by obtain ⟨l0, l1, l2, l3, l4, l5, l6, l7, l8, l9⟩ := hW; go_simp⟩) hH ?_
        simp only [Act.put, List.setIfInBounds_toArray, List.set_cons_zero, List.set_cons_succ]
        refine takeH 4 (some 18) (.agg #[.bool ug, .slice ua un uc]) rfl rfl (by kernel_rfl) (by kernel_rfl) (by kernel_rfl) (fun _ _ _ h => h) (Or.inl ⟨rfl, fun W hW => by obtain ⟨l0, l1, l2, l3, l4, l5, l6, l7, l8, l9⟩ := hW; go_simp⟩) hH ?_
        simp only [Act.put, List.setIfInBounds_toArray, List.set_cons_zero, List.set_cons_succ]
        refine oneH 5 rfl (by kernel_rfl) (fun K' hK => ?_)
        go_simp
        refine (kC _ B1).mono ?_
        rintro e w2 ⟨rfl, bb2⟩
        have B2 := B1.trans (bb2.mono B1.size)
        have R2 := R1.below bb2 (Nat.le_refl _)
        have O2 := O1.below bb2 (Nat.le_refl _)
        have T2 := T1.below bb2 (Nat.le_refl _)
        clear B1 R1 O1 T1 bb2 hH
        have hH : (fun W : World => W.cell? ⟨T, 0, none⟩ = some (.bool g0) ∧ W.cell? ⟨T, 1, none⟩ = some (.slice a0 n0 c0) ∧ W.cell? ⟨T, 2, none⟩ = some (.bool g1) ∧ W.cell? ⟨T, 3, none⟩ = some (.slice a1 n1 c1) ∧ W.cell? ⟨T, 4, none⟩ = some (.bool g2) ∧ W.cell? ⟨T, 5, none⟩ = some (.slice a2 n2 c2) ∧ W.cell? ⟨T, 6, none⟩ = some (.bool g3) ∧ W.cell? ⟨T, 7, none⟩ = some (.slice a3 n3 c3) ∧ W.cell? ⟨w.heap.size + 1, 0, none⟩ = some (.bool ug) ∧ W.cell? ⟨w.heap.size + 1, 1, none⟩ = some (.slice ua un uc)) w2 := ⟨T2.c 0 _ rfl, T2.c 1 _ rfl, T2.c 2 _ rfl, T2.c 3 _ rfl, T2.c 4 _ rfl, T2.c 5 _ rfl, T2.c 6 _ rfl, T2.c 7 _ rfl, O2.c 0 _ rfl, O2.c 1 _ rfl⟩
        refine hK _ _ hH ?_
        clear hK
        refine takeH 6 (some 20) (.bool true) rfl rfl (by kernel_rfl) (by kernel_rfl) (by kernel_rfl) (fun _ _ _ h => h) (Or.inl ⟨rfl, fun W hW => by go_simp⟩) hH ?_
        simp only [Act.put, List.setIfInBounds_toArray, List.set_cons_zero, List.set_cons_succ]
        clear hH
        refine wpAnyH_done (by kernel_rfl) ?_ _
        clear kC
        have c_T_0 := T2.c 0 _ rfl
        have f_T_0 := T2.f 0 _ rfl
        have c_T_1 := T2.c 1 _ rfl
        have f_T_1 := T2.f 1 _ rfl
        have c_T_2 := T2.c 2 _ rfl
        have f_T_2 := T2.f 2 _ rfl
        have c_T_3 := T2.c 3 _ rfl
        have f_T_3 := T2.f 3 _ rfl
        have c_T_4 := T2.c 4 _ rfl
        have f_T_4 := T2.f 4 _ rfl
        have c_T_5 := T2.c 5 _ rfl
        have f_T_5 := T2.f 5 _ rfl
        have c_T_6 := T2.c 6 _ rfl
        have f_T_6 := T2.f 6 _ rfl
        have c_T_7 := T2.c 7 _ rfl
        have f_T_7 := T2.f 7 _ rfl
        have c_O_0 := O2.c 0 _ rfl
        have f_O_0 := O2.f 0 _ rfl
        have c_O_1 := O2.c 1 _ rfl
        have f_O_1 := O2.f 1 _ rfl
        obtain ⟨w3, hw3⟩ : ∃ v, v = (w2.setCell ⟨w.heap.size + 1, 0, none⟩ (.bool g2)).setCell ⟨w.heap.size + 1, 1, none⟩ (.slice a2 n2 c2) := ⟨_, rfl⟩
        have tn3 : Tn [w.heap.size + 1] w2 w3 := by rw [hw3]; exact ((tnL w2 (w.heap.size + 1) 0 (.bool g2)).trans (tnL _ (w.heap.size + 1) 1 (.slice a2 n2 c2)))
        have O3 : BoxL w3 w.heap.size (w.heap.size + 1) [.bool g2, .slice a2 n2 c2] := by rw [hw3]; exact ((O2.set 0 (.bool g2) (by simp)).set 1 (.slice a2 n2 c2) (by simp))
        have blo3 := O2.lo
        have B3 := tn3.below B2 B2.size (fun q hq => by simp at hq; omega)
        have R3 := R2.tn tn3 (not_one (by omega))
        have T3 := T2.tn tn3 (not_one (by omega))
        clear B2 R2 O2 T2 tn3 blo3
        subst hw3
        go_wp2
        go_roundw
        case rel => exact ⟨2, g2, a2, n2, c2, by omega, by first | rfl | go_num, O3, by rw [HE.out]; exact r2, R3, T3, B3⟩
        case measure => simp [intOf]
      · have HE := lesserY_no hl HL.out
        replace HE : Hid (_ = _) := HE
        have hc := cmpGe hl
        obtain ⟨cv, hcv⟩ : ∃ c, cmpZ z2 lo = c := ⟨_, rfl⟩
        rw [hcv] at kC hc
        obtain ⟨hc1, hc2⟩ := hc
        have hc3 : decide (cv < 0) = false := decide_eq_false (by omega)
        clear hl HL hcv
        go_wp2_with fail
        obtain ⟨w1, hw1⟩ : ∃ v, Hid (v = wr.drew) := ⟨_, rfl⟩
        have bd : Below wr.heap.size wr w1 := by rw [hw1.out]; exact (Below.refl wr.heap.size wr).drew
        have B1 := B0.trans (bd.mono B0.size)
        have R1 := R0.below bd (Nat.le_refl _)
        have O1 := O0.below bd (Nat.le_refl _)
        have T1 := T0.below bd (Nat.le_refl _)
        clear B0 R0 O0 T0 bd
        have hH : (fun W : World => W.cell? ⟨T, 0, none⟩ = some (.bool g0) ∧ W.cell? ⟨T, 1, none⟩ = some (.slice a0 n0 c0) ∧ W.cell? ⟨T, 2, none⟩ = some (.bool g1) ∧ W.cell? ⟨T, 3, none⟩ = some (.slice a1 n1 c1) ∧ W.cell? ⟨T, 4, none⟩ = some (.bool g2) ∧ W.cell? ⟨T, 5, none⟩ = some (.slice a2 n2 c2) ∧ W.cell? ⟨T, 6, none⟩ = some (.bool g3) ∧ W.cell? ⟨T, 7, none⟩ = some (.slice a3 n3 c3) ∧ W.cell? ⟨w.heap.size + 1, 0, none⟩ = some (.bool ug) ∧ W.cell? ⟨w.heap.size + 1, 1, none⟩ = some (.slice ua un uc)) w1 := ⟨T1.c 0 _ rfl, T1.c 1 _ rfl, T1.c 2 _ rfl, T1.c 3 _ rfl, T1.c 4 _ rfl, T1.c 5 _ rfl, T1.c 6 _ rfl, T1.c 7 _ rfl, O1.c 0 _ rfl, O1.c 1 _ rfl⟩
        refine wp_region_held_drew (S := fun W => W.cell? ⟨T, 0, none⟩ = some (.bool g0) ∧ W.cell? ⟨T, 1, none⟩ = some (.slice a0 n0 c0) ∧ W.cell? ⟨T, 2, none⟩ = some (.bool g1) ∧ W.cell? ⟨T, 3, none⟩ = some (.slice a1 n1 c1) ∧ W.cell? ⟨T, 4, none⟩ = some (.bool g2) ∧ W.cell? ⟨T, 5, none⟩ = some (.slice a2 n2 c2) ∧ W.cell? ⟨T, 6, none⟩ = some (.bool g3) ∧ W.cell? ⟨T, 7, none⟩ = some (.slice a3 n3 c3) ∧ W.cell? ⟨w.heap.size + 1, 0, none⟩ = some (.bool ug) ∧ W.cell? ⟨w.heap.size + 1, 1, none⟩ = some (.slice ua un uc)) (by kernel_rfl) (by rw [← hw1.out]; exact hH) ?_
        intro _
        rw [← hw1.out]
        clear hw1
        refine takeH 0 (some 14) (.slice (some ⟨T, 0, none⟩) 4 4) rfl rfl (by kernel_rfl) (by kernel_rfl) (by kernel_rfl) (fun _ _ _ h => h) (Or.inl ⟨rfl, fun W hW => by go_simp⟩) hH ?_
        simp only [Act.put, List.setIfInBounds_toArray, List.set_cons_zero, List.set_cons_succ]
        refine takeH 1 (some 15) (.int .i64 2) rfl rfl (by kernel_rfl) (by kernel_rfl) (by kernel_rfl) (fun _ _ _ h => h) (Or.inl ⟨rfl, fun W hW => by go_simp⟩) hH ?_
        simp only [Act.put, List.setIfInBounds_toArray, List.set_cons_zero, List.set_cons_succ]
        refine takeH 2 (some 16) (.pointer (some ⟨T, 4, none⟩)) rfl rfl (by kernel_rfl) (by kernel_rfl) (by kernel_rfl) (fun _ _ _ h => h) (Or.inl ⟨rfl, fun W hW => by go_simp⟩) hH ?_
        simp only [Act.put, List.setIfInBounds_toArray, List.set_cons_zero, List.set_cons_succ]
        refine takeH 3 (some 17) (.agg #[.bool g2, .slice a2 n2 c2]) rfl rfl (by kernel_rfl) (by kernel_rfl) (by kernel_rfl) (fun _ _ _ h => h) (Or.inl ⟨rfl, fun W hW => by obtain ⟨l0, l1, l2, l3, l4, l5, l6, l7, l8, l9⟩ := hW; go_simp⟩) hH ?_
        simp only [Act.put, List.setIfInBounds_toArray, List.set_cons_zero, List.set_cons_succ]
        refine takeH 4 (some 18) (.agg #[.bool ug, .slice ua un uc]) rfl rfl (by kernel_rfl) (by kernel_rfl) (by kernel_rfl) (fun _ _ _ h => h) (Or.inl ⟨rfl, fun W hW => by obtain ⟨l0, l1, l2, l3, l4, l5, l6, l7, l8, l9⟩ := hW; go_simp⟩) hH ?_
        simp only [Act.put, List.setIfInBounds_toArray, List.set_cons_zero, List.set_cons_succ]
        refine oneH 5 rfl (by kernel_rfl) (fun K' hK => ?_)
        go_simp
        refine (kC _ B1).mono ?_
        rintro e w2 ⟨rfl, bb2⟩
        have B2 := B1.trans (bb2.mono B1.size)
        have R2 := R1.below bb2 (Nat.le_refl _)
        have O2 := O1.below bb2 (Nat.le_refl _)
        have T2 := T1.below bb2 (Nat.le_refl _)
        clear B1 R1 O1 T1 bb2 hH
        have hH : (fun W : World => W.cell? ⟨T, 0, none⟩ = some (.bool g0) ∧ W.cell? ⟨T, 1, none⟩ = some (.slice a0 n0 c0) ∧ W.cell? ⟨T, 2, none⟩ = some (.bool g1) ∧ W.cell? ⟨T, 3, none⟩ = some (.slice a1 n1 c1) ∧ W.cell? ⟨T, 4, none⟩ = some (.bool g2) ∧ W.cell? ⟨T, 5, none⟩ = some (.slice a2 n2 c2) ∧ W.cell? ⟨T, 6, none⟩ = some (.bool g3) ∧ W.cell? ⟨T, 7, none⟩ = some (.slice a3 n3 c3) ∧ W.cell? ⟨w.heap.size + 1, 0, none⟩ = some (.bool ug) ∧ W.cell? ⟨w.heap.size + 1, 1, none⟩ = some (.slice ua un uc)) w2 := ⟨T2.c 0 _ rfl, T2.c 1 _ rfl, T2.c 2 _ rfl, T2.c 3 _ rfl, T2.c 4 _ rfl, T2.c 5 _ rfl, T2.c 6 _ rfl, T2.c 7 _ rfl, O2.c 0 _ rfl, O2.c 1 _ rfl⟩
        refine hK _ _ hH ?_
        clear hK
        refine takeH 6 (some 20) (.bool false) rfl rfl (by kernel_rfl) (by kernel_rfl) (by kernel_rfl) (fun _ _ _ h => h) (Or.inl ⟨rfl, fun W hW => by go_simp⟩) hH ?_
        simp only [Act.put, List.setIfInBounds_toArray, List.set_cons_zero, List.set_cons_succ]
        clear hH
        refine wpAnyH_done (by kernel_rfl) ?_ _
        clear kC
        go_wp2
        go_roundw
        case rel => exact ⟨2, ug, ua, un, uc, by omega, by first | rfl | go_num, O2, by rw [HE.out]; exact ru, R2, T2, B2⟩
        case measure => simp [intOf]
    · obtain ⟨lo, hlo⟩ : ∃ z, least4K z0 z1 z2 z3 2 = z := ⟨_, rfl⟩
      have ll := kl 2
      rw [hlo] at ru ll
      have HL : Hid (least4K z0 z1 z2 z3 3 = lesserI lo z3) := by show _ = _; rw [← hlo]; rfl
      clear hlo
      have kC := fun W (h : Below w.heap.size w W) => sWCmp _ _ z3 lo W (r3.below h (Nat.le_refl _)) (ru.below h (Nat.le_refl _)) (by omega) (by omega)
      by_cases hl : z3 < lo
      · have HE := lesserY_yes hl HL.out
        replace HE : Hid (_ = _) := HE
        rw [cmpLt hl] at kC
        clear hl HL
        go_wp2_with fail
        obtain ⟨w1, hw1⟩ : ∃ v, Hid (v = wr.drew) := ⟨_, rfl⟩
        have bd : Below wr.heap.size wr w1 := by rw [hw1.out]; exact (Below.refl wr.heap.size wr).drew
        have B1 := B0.trans (bd.mono B0.size)
        have R1 := R0.below bd (Nat.le_refl _)
        have O1 := O0.below bd (Nat.le_refl _)
        have T1 := T0.below bd (Nat.le_refl _)
        clear B0 R0 O0 T0 bd
        have hH : (fun W : World => W.cell? ⟨T, 0, none⟩ = some (.bool g0) ∧ W.cell? ⟨T, 1, none⟩ = some (.slice a0 n0 c0) ∧ W.cell? ⟨T, 2, none⟩ = some (.bool g1) ∧ W.cell? ⟨T, 3, none⟩ = some (.slice a1 n1 c1) ∧ W.cell? ⟨T, 4, none⟩ = some (.bool g2) ∧ W.cell? ⟨T, 5, none⟩ = some (.slice a2 n2 c2) ∧ W.cell? ⟨T, 6, none⟩ = some (.bool g3) ∧ W.cell? ⟨T, 7, none⟩ = some (.slice a3 n3 c3) ∧ W.cell? ⟨w.heap.size + 1, 0, none⟩ = some (.bool ug) ∧ W.cell? ⟨w.heap.size + 1, 1, none⟩ = some (.slice ua un uc)) w1 := ⟨T1.c 0 _ rfl, T1.c 1 _ rfl, T1.c 2 _ rfl, T1.c 3 _ rfl, T1.c 4 _ rfl, T1.c 5 _ rfl, T1.c 6 _ rfl, T1.c 7 _ rfl, O1.c 0 _ rfl, O1.c 1 _ rfl⟩
        refine wp_region_held_drew (S := fun W => W.cell? ⟨T, 0, none⟩ = some (.bool g0) ∧ W.cell? ⟨T, 1, none⟩ = some (.slice a0 n0 c0) ∧ W.cell? ⟨T, 2, none⟩ = some (.bool g1) ∧ W.cell? ⟨T, 3, none⟩ = some (.slice a1 n1 c1) ∧ W.cell? ⟨T, 4, none⟩ = some (.bool g2) ∧ W.cell? ⟨T, 5, none⟩ = some (.slice a2 n2 c2) ∧ W.cell? ⟨T, 6, none⟩ = some (.bool g3) ∧ W.cell? ⟨T, 7, none⟩ = some (.slice a3 n3 c3) ∧ W.cell? ⟨w.heap.size + 1, 0, none⟩ = some (.bool ug) ∧ W.cell? ⟨w.heap.size + 1, 1, none⟩ = some (.slice ua un uc)) (by kernel_rfl) (by rw [← hw1.out]; exact hH) ?_
        intro _
        rw [← hw1.out]
        clear hw1
        refine takeH 0 (some 14) (.slice (some ⟨T, 0, none⟩) 4 4) rfl rfl (by kernel_rfl) (by kernel_rfl) (by kernel_rfl) (fun _ _ _ h => h) (Or.inl ⟨rfl, fun W hW => by go_simp⟩) hH ?_
        simp only [Act.put, List.setIfInBounds_toArray, List.set_cons_zero, List.set_cons_succ]
        refine takeH 1 (some 15) (.int .i64 3) rfl rfl (by kernel_rfl) (by kernel_rfl) (by kernel_rfl) (fun _ _ _ h => h) (Or.inl ⟨rfl, fun W hW => by go_simp⟩) hH ?_
        simp only [Act.put, List.setIfInBounds_toArray, List.set_cons_zero, List.set_cons_succ]
        refine takeH 2 (some 16) (.pointer (some ⟨T, 6, none⟩)) rfl rfl (by kernel_rfl) (by kernel_rfl) (by kernel_rfl) (fun _ _ _ h => h) (Or.inl ⟨rfl, fun W hW => by go_simp⟩) hH ?_
        simp only [Act.put, List.setIfInBounds_toArray, List.set_cons_zero, List.set_cons_succ]
        refine takeH 3 (some 17) (.agg #[.bool g3, .slice a3 n3 c3]) rfl rfl (by kernel_rfl) (by kernel_rfl) (by kernel_rfl) (fun _ _ _ h => h) (Or.inl ⟨rfl, fun W hW => by obtain ⟨l0, l1, l2, l3, l4, l5, l6, l7, l8, l9⟩ := hW; go_simp⟩) hH ?_
        simp only [Act.put, List.setIfInBounds_toArray, List.set_cons_zero, List.set_cons_succ]
        refine takeH 4 (some 18) (.agg #[.bool ug, .slice ua un uc]) rfl rfl (by kernel_rfl) (by kernel_rfl) (by kernel_rfl) (fun _ _ _ h => h) (Or.inl ⟨rfl, fun W hW => by obtain ⟨l0, l1, l2, l3, l4, l5, l6, l7, l8, l9⟩ := hW; go_simp⟩) hH ?_
        simp only [Act.put, List.setIfInBounds_toArray, List.set_cons_zero, List.set_cons_succ]
        refine oneH 5 rfl (by kernel_rfl) (fun K' hK => ?_)
        go_simp
        refine (kC _ B1).mono ?_
        rintro e w2 ⟨rfl, bb2⟩
        have B2 := B1.trans (bb2.mono B1.size)
        have R2 := R1.below bb2 (Nat.le_refl _)
        have O2 := O1.below bb2 (Nat.le_refl _)
        have T2 := T1.below bb2 (Nat.le_refl _)
        clear B1 R1 O1 T1 bb2 hH
        have hH : (fun W : World => W.cell? ⟨T, 0, none⟩ = some (.bool g0) ∧ W.cell? ⟨T, 1, none⟩ = some (.slice a0 n0 c0) ∧ W.cell? ⟨T, 2, none⟩ = some (.bool g1) ∧ W.cell? ⟨T, 3, none⟩ = some (.slice a1 n1 c1) ∧ W.cell? ⟨T, 4, none⟩ = some (.bool g2) ∧ W.cell? ⟨T, 5, none⟩ = some (.slice a2 n2 c2) ∧ W.cell? ⟨T, 6, none⟩ = some (.bool g3) ∧ W.cell? ⟨T, 7, none⟩ = some (.slice a3 n3 c3) ∧ W.cell? ⟨w.heap.size + 1, 0, none⟩ = some (.bool ug) ∧ W.cell? ⟨w.heap.size + 1, 1, none⟩ = some (.slice ua un uc)) w2 := ⟨T2.c 0 _ rfl, T2.c 1 _ rfl, T2.c 2 _ rfl, T2.c 3 _ rfl, T2.c 4 _ rfl, T2.c 5 _ rfl, T2.c 6 _ rfl, T2.c 7 _ rfl, O2.c 0 _ rfl, O2.c 1 _ rfl⟩
        refine hK _ _ hH ?_
        clear hK
        refine takeH 6 (some 20) (.bool true) rfl rfl (by kernel_rfl) (by kernel_rfl) (by kernel_rfl) (fun _ _ _ h => h) (Or.inl ⟨rfl, fun W hW => by go_simp⟩) hH ?_
        simp only [Act.put, List.setIfInBounds_toArray, List.set_cons_zero, List.set_cons_succ]
        clear hH
        refine wpAnyH_done (by kernel_rfl) ?_ _
        clear kC
        have c_T_0 := T2.c 0 _ rfl
        have f_T_0 := T2.f 0 _ rfl
        have c_T_1 := T2.c 1 _ rfl
        have f_T_1 := T2.f 1 _ rfl
        have c_T_2 := T2.c 2 _ rfl
        have f_T_2 := T2.f 2 _ rfl
        have c_T_3 := T2.c 3 _ rfl
        have f_T_3 := T2.f 3 _ rfl
        have c_T_4 := T2.c 4 _ rfl
        have f_T_4 := T2.f 4 _ rfl
        have c_T_5 := T2.c 5 _ rfl
        have f_T_5 := T2.f 5 _ rfl
        have c_T_6 := T2.c 6 _ rfl
        have f_T_6 := T2.f 6 _ rfl
        have c_T_7 := T2.c 7 _ rfl
        have f_T_7 := T2.f 7 _ rfl
        have c_O_0 := O2.c 0 _ rfl
        have f_O_0 := O2.f 0 _ rfl
        have c_O_1 := O2.c 1 _ rfl
        have f_O_1 := O2.f 1 _ rfl
        obtain ⟨w3, hw3⟩ : ∃ v, v = (w2.setCell ⟨w.heap.size + 1, 0, none⟩ (.bool g3)).setCell ⟨w.heap.size + 1, 1, none⟩ (.slice a3 n3 c3) := ⟨_, rfl⟩
        have tn3 : Tn [w.heap.size + 1] w2 w3 := by rw [hw3]; exact ((tnL w2 (w.heap.size + 1) 0 (.bool g3)).trans (tnL _ (w.heap.size + 1) 1 (.slice a3 n3 c3)))
        have O3 : BoxL w3 w.heap.size (w.heap.size + 1) [.bool g3, .slice a3 n3 c3] := by rw [hw3]; exact ((O2.set 0 (.bool g3) (by simp)).set 1 (.slice a3 n3 c3) (by simp))
        have blo3 := O2.lo
        have B3 := tn3.below B2 B2.size (fun q hq => by simp at hq; omega)
        have R3 := R2.tn tn3 (not_one (by omega))
        have T3 := T2.tn tn3 (not_one (by omega))
        clear B2 R2 O2 T2 tn3 blo3
        subst hw3
        go_wp2
        go_roundw
        case rel => exact ⟨3, g3, a3, n3, c3, by omega, by first | rfl | go_num, O3, by rw [HE.out]; exact r3, R3, T3, B3⟩
        case measure => simp [intOf]
      · have HE := lesserY_no hl HL.out
        replace HE : Hid (_ = _) := HE
        have hc := cmpGe hl
        obtain ⟨cv, hcv⟩ : ∃ c, cmpZ z3 lo = c := ⟨_, rfl⟩
        rw [hcv] at kC hc
        obtain ⟨hc1, hc2⟩ := hc
        have hc3 : decide (cv < 0) = false := decide_eq_false (by omega)
        clear hl HL hcv
        go_wp2_with fail
        obtain ⟨w1, hw1⟩ : ∃ v, Hid (v = wr.drew) := ⟨_, rfl⟩
        have bd : Below wr.heap.size wr w1 := by rw [hw1.out]; exact (Below.refl wr.heap.size wr).drew
        have B1 := B0.trans (bd.mono B0.size)
        have R1 := R0.below bd (Nat.le_refl _)
        have O1 := O0.below bd (Nat.le_refl _)
        have T1 := T0.below bd (Nat.le_refl _)
        clear B0 R0 O0 T0 bd
        have hH : (fun W : World => W.cell? ⟨T, 0, none⟩ = some (.bool g0) ∧ W.cell? ⟨T, 1, none⟩ = some (.slice a0 n0 c0) ∧ W.cell? ⟨T, 2, none⟩ = some (.bool g1) ∧ W.cell? ⟨T, 3, none⟩ = some (.slice a1 n1 c1) ∧ W.cell? ⟨T, 4, none⟩ = some (.bool g2) ∧ W.cell? ⟨T, 5, none⟩ = some (.slice a2 n2 c2) ∧ W.cell? ⟨T, 6, none⟩ = some (.bool g3) ∧ W.cell? ⟨T, 7, none⟩ = some (.slice a3 n3 c3) ∧ W.cell? ⟨w.heap.size + 1, 0, none⟩ = some (.bool ug) ∧ W.cell? ⟨w.heap.size + 1, 1, none⟩ = some (.slice ua un uc)) w1 := ⟨T1.c 0 _ rfl, T1.c 1 _ rfl, T1.c 2 _ rfl, T1.c 3 _ rfl, T1.c 4 _ rfl, T1.c 5 _ rfl, T1.c 6 _ rfl, T1.c 7 _ rfl, O1.c 0 _ rfl, O1.c 1 _ rfl⟩
        refine wp_region_held_drew (S := fun W => W.cell? ⟨T, 0, none⟩ = some (.bool g0) ∧ W.cell? ⟨T, 1, none⟩ = some (.slice a0 n0 c0) ∧ W.cell? ⟨T, 2, none⟩ = some (.bool g1) ∧ W.cell? ⟨T, 3, none⟩ = some (.slice a1 n1 c1) ∧ W.cell? ⟨T, 4, none⟩ = some (.bool g2) ∧ W.cell? ⟨T, 5, none⟩ = some (.slice a2 n2 c2) ∧ W.cell? ⟨T, 6, none⟩ = some (.bool g3) ∧ W.cell? ⟨T, 7, none⟩ = some (.slice a3 n3 c3) ∧ W.cell? ⟨w.heap.size + 1, 0, none⟩ = some (.bool ug) ∧ W.cell? ⟨w.heap.size + 1, 1, none⟩ = some (.slice ua un uc)) (by kernel_rfl) (by rw [← hw1.out]; exact hH) ?_
        intro _
        rw [← hw1.out]
        clear hw1
        refine takeH 0 (some 14) (.slice (some ⟨T, 0, none⟩) 4 4) rfl rfl (by kernel_rfl) (by kernel_rfl) (by kernel_rfl) (fun _ _ _ h => h) (Or.inl ⟨rfl, fun W hW => by go_simp⟩) hH ?_
        simp only [Act.put, List.setIfInBounds_toArray, List.set_cons_zero, List.set_cons_succ]
        refine takeH 1 (some 15) (.int .i64 3) rfl rfl (by kernel_rfl) (by kernel_rfl) (by kernel_rfl) (fun _ _ _ h => h) (Or.inl ⟨rfl, fun W hW => by go_simp⟩) hH ?_
        simp only [Act.put, List.setIfInBounds_toArray, List.set_cons_zero, List.set_cons_succ]
        refine takeH 2 (some 16) (.pointer (some ⟨T, 6, none⟩)) rfl rfl (by kernel_rfl) (by kernel_rfl) (by kernel_rfl) (fun _ _ _ h => h) (Or.inl ⟨rfl, fun W hW => by go_simp⟩) hH ?_
        simp only [Act.put, List.setIfInBounds_toArray, List.set_cons_zero, List.set_cons_succ]
        refine takeH 3 (some 17) (.agg #[.bool g3, .slice a3 n3 c3]) rfl rfl (by kernel_rfl) (by kernel_rfl) (by kernel_rfl) (fun _ _ _ h => h) (Or.inl ⟨rfl, fun W hW => by obtain ⟨l0, l1, l2, l3, l4, l5, l6, l7, l8, l9⟩ := hW; go_simp⟩) hH ?_
        simp only [Act.put, List.setIfInBounds_toArray, List.set_cons_zero, List.set_cons_succ]
        refine takeH 4 (some 18) (.agg #[.bool ug, .slice ua un uc]) rfl rfl (by kernel_rfl) (by kernel_rfl) (by kernel_rfl) (fun _ _ _ h => h) (Or.inl ⟨rfl, fun W hW => by obtain ⟨l0, l1, l2, l3, l4, l5, l6, l7, l8, l9⟩ := hW; go_simp⟩) hH ?_
        simp only [Act.put, List.setIfInBounds_toArray, List.set_cons_zero, List.set_cons_succ]
        refine oneH 5 rfl (by kernel_rfl) (fun K' hK => ?_)
        go_simp
        refine (kC _ B1).mono ?_
        rintro e w2 ⟨rfl, bb2⟩
        have B2 := B1.trans (bb2.mono B1.size)
        have R2 := R1.below bb2 (Nat.le_refl _)
        have O2 := O1.below bb2 (Nat.le_refl _)
        have T2 := T1.below bb2 (Nat.le_refl _)
        clear B1 R1 O1 T1 bb2 hH
        have hH : (fun W : World => W.cell? ⟨T, 0, none⟩ = some (.bool g0) ∧ W.cell? ⟨T, 1, none⟩ = some (.slice a0 n0 c0) ∧ W.cell? ⟨T, 2, none⟩ = some (.bool g1) ∧ W.cell? ⟨T, 3, none⟩ = some (.slice a1 n1 c1) ∧ W.cell? ⟨T, 4, none⟩ = some (.bool g2) ∧ W.cell? ⟨T, 5, none⟩ = some (.slice a2 n2 c2) ∧ W.cell? ⟨T, 6, none⟩ = some (.bool g3) ∧ W.cell? ⟨T, 7, none⟩ = some (.slice a3 n3 c3) ∧ W.cell? ⟨w.heap.size + 1, 0, none⟩ = some (.bool ug) ∧ W.cell? ⟨w.heap.size + 1, 1, none⟩ = some (.slice ua un uc)) w2 := ⟨T2.c 0 _ rfl, T2.c 1 _ rfl, T2.c 2 _ rfl, T2.c 3 _ rfl, T2.c 4 _ rfl, T2.c 5 _ rfl, T2.c 6 _ rfl, T2.c 7 _ rfl, O2.c 0 _ rfl, O2.c 1 _ rfl⟩
        refine hK _ _ hH ?_
        clear hK
        refine takeH 6 (some 20) (.bool false) rfl rfl (by kernel_rfl) (by kernel_rfl) (by kernel_rfl) (fun _ _ _ h => h) (Or.inl ⟨rfl, fun W hW => by go_simp⟩) hH ?_
        simp only [Act.put, List.setIfInBounds_toArray, List.set_cons_zero, List.set_cons_succ]
        clear hH
        refine wpAnyH_done (by kernel_rfl) ?_ _
        clear kC
        go_wp2
        go_roundw
        case rel => exact ⟨3, ug, ua, un, uc, by omega, by first | rfl | go_num, O2, by rw [HE.out]; exact ru, R2, T2, B2⟩
        case measure => simp [intOf]
    · replace ru : rowW w (.agg #[.bool ug, .slice ua un uc]) (mkW (lesserI (lesserI (lesserI z0 z1) z2) z3)) := ru
      have c_O_0 := O0.c 0 _ rfl
      have c_O_1 := O0.c 1 _ rfl
      have c_R_0 := R0.c 0 _ rfl
      have f_R_0 := R0.f 0 _ rfl
      have c_R_1 := R0.c 1 _ rfl
      have f_R_1 := R0.f 1 _ rfl
      obtain ⟨w1, hw1⟩ : ∃ v, v = (wr.setCell ⟨w.heap.size, 0, none⟩ (.bool ug)).setCell ⟨w.heap.size, 1, none⟩ (.slice ua un uc) := ⟨_, rfl⟩
      have tn1 : Tn [w.heap.size] wr w1 := by rw [hw1]; exact ((tnL wr w.heap.size 0 (.bool ug)).trans (tnL _ w.heap.size 1 (.slice ua un uc)))
      have R1 : BoxL w1 w.heap.size w.heap.size [.bool ug, .slice ua un uc] := by rw [hw1]; exact ((R0.set 0 (.bool ug) (by simp)).set 1 (.slice ua un uc) (by simp))
      have blo1 := R0.lo
      have B1 := tn1.below B0 B0.size (fun q hq => by simp at hq; omega)
      have O1 := O0.tn tn1 (not_one (by omega))
      have T1 := T0.tn tn1 (not_one (by omega))
      clear B0 R0 O0 T0 tn1 blo1
      subst hw1
      go_wp2
      (try simp only [Exit.inBlock, Exit.then])
      refine bodyPost_ret (v := .agg #[.bool ug, .slice ua un uc]) ?_ rfl ⟨_, rfl, ru, B1⟩
      rw [results_cell1 rfl]
      go_simp

def most2K (z0 z1 : Int) : Nat → Int
  | 0 => z0
  | _ => moreI z0 z1
set_option maxRecDepth 20000 in
set_option maxHeartbeats 6400000 in
theorem most2 (T : Nat) (g0 g1 : Bool) (a0 a1 : Option Addr) (n0 c0 n1 c1 : Nat) (z0 z1 : Int) (w : World) (hT : BoxL w 0 T [.bool g0, .slice a0 n0 c0, .bool g1, .slice a1 n1 c1]) (r0 : rowW w (.agg #[.bool g0, .slice a0 n0 c0]) (mkW z0)) (r1 : rowW w (.agg #[.bool g1, .slice a1 n1 c1]) (mkW z1)) (m0 : (limbs z0.natAbs).length ≤ 1000) (m1 : (limbs z1.natAbs).length ≤ 1000) :
    Calls Try.prog 39 #[.slice (some ⟨T, 0, none⟩) 2 2] w fun e w' => ∃ v, e = .returned v ∧ rowW w v (mkW (moreI z0 z1)) ∧ Hid ((v = .agg #[.bool g0, .slice a0 n0 c0] ∧ moreI z0 z1 = z0) ∨ (v = .agg #[.bool g1, .slice a1 n1 c1] ∧ moreI z0 z1 = z1)) ∧ Below w.heap.size w w' := by
  have kl : ∀ k, (limbs (most2K z0 z1 k).natAbs).length ≤ 1000 := by
    intro k
    match k with
    | 0 => exact m0
    | _ + 1 => exact (more_len m0 m1)
  have B0_0 : Below w.heap.size w w := Below.refl _ _
  obtain ⟨ww1, hww1⟩ : ∃ v, v = w.alloc (.cells #[.bool false, .slice none 0 0] 28) := ⟨_, rfl⟩
  have sz1 : ww1.heap.size = w.heap.size + 1 := by rw [hww1]; simp
  have bw1 : Below w.heap.size w ww1 := by rw [hww1]; exact below1 _ _
  have B0_1 := B0_0.trans (bw1.mono B0_0.size)
  have R0_1 : BoxL ww1 w.heap.size w.heap.size [.bool false, .slice none 0 0] := by rw [hww1]; have h := BoxL.made w [.bool false, .slice none 0 0] 28; exact h
  obtain ⟨ww2, hww2⟩ : ∃ v, v = ww1.alloc (.cells #[.bool g0, .slice a0 n0 c0] 28) := ⟨_, rfl⟩
  have sz2 : ww2.heap.size = w.heap.size + 1 + 1 := by rw [hww2]; simp [sz1]
  have bw2 : Below ww1.heap.size ww1 ww2 := by rw [hww2]; exact below1 _ _
  have B0_2 := B0_1.trans (bw2.mono B0_1.size)
  have R0_2 := R0_1.below bw2 (Nat.le_refl _)
  have O0_2 : BoxL ww2 (w.heap.size + 1) (w.heap.size + 1) [.bool g0, .slice a0 n0 c0] := by rw [hww2]; have h := BoxL.made ww1 [.bool g0, .slice a0 n0 c0] 28; rw [sz1] at h; exact h
  have R0 := R0_2
  have O0 := O0_2.mono (by omega : w.heap.size ≤ w.heap.size + 1)
  have B0 := B0_2
  have T0 := hT.below B0 (Nat.le_refl _)
  have lt_T := hT.hi
  clear B0_0 B0_1 B0_2 bw1 bw2 R0_1 R0_2 O0_2
  have hW := hT
  have c_w0 := hW.c 0 _ rfl
  have c_w1 := hW.c 1 _ rfl
  go_enter Try.func39, Try.ntmps39
  go_wp2_with fail
  have hvv : (w.alloc (.cells #[.bool false, .slice none 0 0] 28)).alloc (.cells #[.bool g0, .slice a0 n0 c0] 28) = ww2 := by rw [hww2]; rw [hww1]
  rw [hvv]
  clear hvv hww1 hww2 sz1 ww1 c_w0 c_w1 hW hT
  have hz0 : w.heap.size + 2 ≤ ww2.heap.size := by omega
  clear sz2
  go_loopw [4] (fun i wr => ∃ (k : Nat) (ug : Bool) (ua : Option Addr) (un uc : Nat), k ≤ 1 ∧ i = .int .i64 ((k : Int) + 1) ∧ BoxL wr w.heap.size (w.heap.size + 1) [.bool ug, .slice ua un uc] ∧ rowW w (.agg #[.bool ug, .slice ua un uc]) (mkW (most2K z0 z1 k)) ∧ BoxL wr w.heap.size w.heap.size [.bool false, .slice none 0 0] ∧ Hid ((Value.agg #[.bool ug, .slice ua un uc] = .agg #[.bool g0, .slice a0 n0 c0] ∧ most2K z0 z1 k = z0) ∨ (Value.agg #[.bool ug, .slice ua un uc] = .agg #[.bool g1, .slice a1 n1 c1] ∧ most2K z0 z1 k = z1)) ∧ BoxL wr 0 T [.bool g0, .slice a0 n0 c0, .bool g1, .slice a1 n1 c1] ∧ Below w.heap.size w wr) (fun i _ => 2 - (intOf i).toNat)
  case atStart => exact ⟨0, g0, a0, n0, c0, by omega, rfl, O0, r0, R0, Or.inl ⟨rfl, rfl⟩, T0, B0⟩
  case round =>
    clear O0 R0 T0 B0
    obtain ⟨k, ug, ua, un, uc, hk, rfl, O0, ru, R0, hU, T0, B0⟩ := hrel
    rcases (by omega : k = 0 ∨ k = 1) with rfl | rfl
    · obtain ⟨lo, hlo⟩ : ∃ z, most2K z0 z1 0 = z := ⟨_, rfl⟩
      have ll := kl 0
      rw [hlo] at ru ll hU
      have HL : Hid (most2K z0 z1 1 = moreI lo z1) := by show _ = _; rw [← hlo]; rfl
      clear hlo
      have kC := fun W (h : Below w.heap.size w W) => sWCmp _ _ z1 lo W (r1.below h (Nat.le_refl _)) (ru.below h (Nat.le_refl _)) (by omega) (by omega)
      by_cases hl : lo < z1
      · have HE := moreY_yes hl HL.out
        replace HE : Hid (_ = _) := HE
        rw [cmpGt hl] at kC
        clear hl HL
        go_wp2_with fail
        obtain ⟨w1, hw1⟩ : ∃ v, Hid (v = wr.drew) := ⟨_, rfl⟩
        have bd : Below wr.heap.size wr w1 := by rw [hw1.out]; exact (Below.refl wr.heap.size wr).drew
        have B1 := B0.trans (bd.mono B0.size)
        have R1 := R0.below bd (Nat.le_refl _)
        have O1 := O0.below bd (Nat.le_refl _)
        have T1 := T0.below bd (Nat.le_refl _)
        clear B0 R0 O0 T0 bd
        have hH : (fun W : World => W.cell? ⟨T, 0, none⟩ = some (.bool g0) ∧ W.cell? ⟨T, 1, none⟩ = some (.slice a0 n0 c0) ∧ W.cell? ⟨T, 2, none⟩ = some (.bool g1) ∧ W.cell? ⟨T, 3, none⟩ = some (.slice a1 n1 c1) ∧ W.cell? ⟨w.heap.size + 1, 0, none⟩ = some (.bool ug) ∧ W.cell? ⟨w.heap.size + 1, 1, none⟩ = some (.slice ua un uc)) w1 := ⟨T1.c 0 _ rfl, T1.c 1 _ rfl, T1.c 2 _ rfl, T1.c 3 _ rfl, O1.c 0 _ rfl, O1.c 1 _ rfl⟩
        refine wp_region_held_drew (S := fun W => W.cell? ⟨T, 0, none⟩ = some (.bool g0) ∧ W.cell? ⟨T, 1, none⟩ = some (.slice a0 n0 c0) ∧ W.cell? ⟨T, 2, none⟩ = some (.bool g1) ∧ W.cell? ⟨T, 3, none⟩ = some (.slice a1 n1 c1) ∧ W.cell? ⟨w.heap.size + 1, 0, none⟩ = some (.bool ug) ∧ W.cell? ⟨w.heap.size + 1, 1, none⟩ = some (.slice ua un uc)) (by kernel_rfl) (by rw [← hw1.out]; exact hH) ?_
        intro _
        rw [← hw1.out]
        clear hw1
        refine takeH 0 (some 14) (.slice (some ⟨T, 0, none⟩) 2 2) rfl rfl (by kernel_rfl) (by kernel_rfl) (by kernel_rfl) (fun _ _ _ h => h) (Or.inl ⟨rfl, fun W hW => by go_simp⟩) hH ?_
        simp only [Act.put, List.setIfInBounds_toArray, List.set_cons_zero, List.set_cons_succ]
        refine takeH 1 (some 15) (.int .i64 1) rfl rfl (by kernel_rfl) (by kernel_rfl) (by kernel_rfl) (fun _ _ _ h => h) (Or.inl ⟨rfl, fun W hW => by go_simp⟩) hH ?_
        simp only [Act.put, List.setIfInBounds_toArray, List.set_cons_zero, List.set_cons_succ]
        refine takeH 2 (some 16) (.pointer (some ⟨T, 2, none⟩)) rfl rfl (by kernel_rfl) (by kernel_rfl) (by kernel_rfl) (fun _ _ _ h => h) (Or.inl ⟨rfl, fun W hW => by go_simp⟩) hH ?_
        simp only [Act.put, List.setIfInBounds_toArray, List.set_cons_zero, List.set_cons_succ]
        refine takeH 3 (some 17) (.agg #[.bool g1, .slice a1 n1 c1]) rfl rfl (by kernel_rfl) (by kernel_rfl) (by kernel_rfl) (fun _ _ _ h => h) (Or.inl ⟨rfl, fun W hW => by obtain ⟨l0, l1, l2, l3, l4, l5⟩ := hW; go_simp⟩) hH ?_
        simp only [Act.put, List.setIfInBounds_toArray, List.set_cons_zero, List.set_cons_succ]
        refine takeH 4 (some 18) (.agg #[.bool ug, .slice ua un uc]) rfl rfl (by kernel_rfl) (by kernel_rfl) (by kernel_rfl) (fun _ _ _ h => h) (Or.inl ⟨rfl, fun W hW => by obtain ⟨l0, l1, l2, l3, l4, l5⟩ := hW; go_simp⟩) hH ?_
        simp only [Act.put, List.setIfInBounds_toArray, List.set_cons_zero, List.set_cons_succ]
        refine oneH 5 rfl (by kernel_rfl) (fun K' hK => ?_)
        go_simp
        refine (kC _ B1).mono ?_
        rintro e w2 ⟨rfl, bb2⟩
        have B2 := B1.trans (bb2.mono B1.size)
        have R2 := R1.below bb2 (Nat.le_refl _)
        have O2 := O1.below bb2 (Nat.le_refl _)
        have T2 := T1.below bb2 (Nat.le_refl _)
        clear B1 R1 O1 T1 bb2 hH
        have hH : (fun W : World => W.cell? ⟨T, 0, none⟩ = some (.bool g0) ∧ W.cell? ⟨T, 1, none⟩ = some (.slice a0 n0 c0) ∧ W.cell? ⟨T, 2, none⟩ = some (.bool g1) ∧ W.cell? ⟨T, 3, none⟩ = some (.slice a1 n1 c1) ∧ W.cell? ⟨w.heap.size + 1, 0, none⟩ = some (.bool ug) ∧ W.cell? ⟨w.heap.size + 1, 1, none⟩ = some (.slice ua un uc)) w2 := ⟨T2.c 0 _ rfl, T2.c 1 _ rfl, T2.c 2 _ rfl, T2.c 3 _ rfl, O2.c 0 _ rfl, O2.c 1 _ rfl⟩
        refine hK _ _ hH ?_
        clear hK
        refine takeH 6 (some 20) (.bool true) rfl rfl (by kernel_rfl) (by kernel_rfl) (by kernel_rfl) (fun _ _ _ h => h) (Or.inl ⟨rfl, fun W hW => by go_simp⟩) hH ?_
        simp only [Act.put, List.setIfInBounds_toArray, List.set_cons_zero, List.set_cons_succ]
        clear hH
        refine wpAnyH_done (by kernel_rfl) ?_ _
        clear kC
        have c_T_0 := T2.c 0 _ rfl
        have f_T_0 := T2.f 0 _ rfl
        have c_T_1 := T2.c 1 _ rfl
        have f_T_1 := T2.f 1 _ rfl
        have c_T_2 := T2.c 2 _ rfl
        have f_T_2 := T2.f 2 _ rfl
        have c_T_3 := T2.c 3 _ rfl
        have f_T_3 := T2.f 3 _ rfl
        have c_O_0 := O2.c 0 _ rfl
        have f_O_0 := O2.f 0 _ rfl
        have c_O_1 := O2.c 1 _ rfl
        have f_O_1 := O2.f 1 _ rfl
        obtain ⟨w3, hw3⟩ : ∃ v, v = (w2.setCell ⟨w.heap.size + 1, 0, none⟩ (.bool g1)).setCell ⟨w.heap.size + 1, 1, none⟩ (.slice a1 n1 c1) := ⟨_, rfl⟩
        have tn3 : Tn [w.heap.size + 1] w2 w3 := by rw [hw3]; exact ((tnL w2 (w.heap.size + 1) 0 (.bool g1)).trans (tnL _ (w.heap.size + 1) 1 (.slice a1 n1 c1)))
        have O3 : BoxL w3 w.heap.size (w.heap.size + 1) [.bool g1, .slice a1 n1 c1] := by rw [hw3]; exact ((O2.set 0 (.bool g1) (by simp)).set 1 (.slice a1 n1 c1) (by simp))
        have blo3 := O2.lo
        have B3 := tn3.below B2 B2.size (fun q hq => by simp at hq; omega)
        have R3 := R2.tn tn3 (not_one (by omega))
        have T3 := T2.tn tn3 (not_one (by omega))
        clear B2 R2 O2 T2 tn3 blo3
        subst hw3
        go_wp2
        go_roundw
        case rel => exact ⟨1, g1, a1, n1, c1, by omega, by first | rfl | go_num, O3, by rw [HE.out]; exact r1, R3, Or.inr ⟨rfl, HE.out⟩, T3, B3⟩
        case measure => simp [intOf]
      · have HE := moreY_no hl HL.out
        replace HE : Hid (_ = _) := HE
        have hc := cmpLe hl
        obtain ⟨cv, hcv⟩ : ∃ c, cmpZ z1 lo = c := ⟨_, rfl⟩
        rw [hcv] at kC hc
        obtain ⟨hc1, hc2⟩ := hc
        have hc3 : decide (0 < cv) = false := decide_eq_false (by omega)
        clear hl HL hcv
        go_wp2_with fail
        obtain ⟨w1, hw1⟩ : ∃ v, Hid (v = wr.drew) := ⟨_, rfl⟩
        have bd : Below wr.heap.size wr w1 := by rw [hw1.out]; exact (Below.refl wr.heap.size wr).drew
        have B1 := B0.trans (bd.mono B0.size)
        have R1 := R0.below bd (Nat.le_refl _)
        have O1 := O0.below bd (Nat.le_refl _)
        have T1 := T0.below bd (Nat.le_refl _)
        clear B0 R0 O0 T0 bd
        have hH : (fun W : World => W.cell? ⟨T, 0, none⟩ = some (.bool g0) ∧ W.cell? ⟨T, 1, none⟩ = some (.slice a0 n0 c0) ∧ W.cell? ⟨T, 2, none⟩ = some (.bool g1) ∧ W.cell? ⟨T, 3, none⟩ = some (.slice a1 n1 c1) ∧ W.cell? ⟨w.heap.size + 1, 0, none⟩ = some (.bool ug) ∧ W.cell? ⟨w.heap.size + 1, 1, none⟩ = some (.slice ua un uc)) w1 := ⟨T1.c 0 _ rfl, T1.c 1 _ rfl, T1.c 2 _ rfl, T1.c 3 _ rfl, O1.c 0 _ rfl, O1.c 1 _ rfl⟩
        refine wp_region_held_drew (S := fun W => W.cell? ⟨T, 0, none⟩ = some (.bool g0) ∧ W.cell? ⟨T, 1, none⟩ = some (.slice a0 n0 c0) ∧ W.cell? ⟨T, 2, none⟩ = some (.bool g1) ∧ W.cell? ⟨T, 3, none⟩ = some (.slice a1 n1 c1) ∧ W.cell? ⟨w.heap.size + 1, 0, none⟩ = some (.bool ug) ∧ W.cell? ⟨w.heap.size + 1, 1, none⟩ = some (.slice ua un uc)) (by kernel_rfl) (by rw [← hw1.out]; exact hH) ?_
        intro _
        rw [← hw1.out]
        clear hw1
        refine takeH 0 (some 14) (.slice (some ⟨T, 0, none⟩) 2 2) rfl rfl (by kernel_rfl) (by kernel_rfl) (by kernel_rfl) (fun _ _ _ h => h) (Or.inl ⟨rfl, fun W hW => by go_simp⟩) hH ?_
        simp only [Act.put, List.setIfInBounds_toArray, List.set_cons_zero, List.set_cons_succ]
        refine takeH 1 (some 15) (.int .i64 1) rfl rfl (by kernel_rfl) (by kernel_rfl) (by kernel_rfl) (fun _ _ _ h => h) (Or.inl ⟨rfl, fun W hW => by go_simp⟩) hH ?_
        simp only [Act.put, List.setIfInBounds_toArray, List.set_cons_zero, List.set_cons_succ]
        refine takeH 2 (some 16) (.pointer (some ⟨T, 2, none⟩)) rfl rfl (by kernel_rfl) (by kernel_rfl) (by kernel_rfl) (fun _ _ _ h => h) (Or.inl ⟨rfl, fun W hW => by go_simp⟩) hH ?_
        simp only [Act.put, List.setIfInBounds_toArray, List.set_cons_zero, List.set_cons_succ]
        refine takeH 3 (some 17) (.agg #[.bool g1, .slice a1 n1 c1]) rfl rfl (by kernel_rfl) (by kernel_rfl) (by kernel_rfl) (fun _ _ _ h => h) (Or.inl ⟨rfl, fun W hW => by obtain ⟨l0, l1, l2, l3, l4, l5⟩ := hW; go_simp⟩) hH ?_
        simp only [Act.put, List.setIfInBounds_toArray, List.set_cons_zero, List.set_cons_succ]
        refine takeH 4 (some 18) (.agg #[.bool ug, .slice ua un uc]) rfl rfl (by kernel_rfl) (by kernel_rfl) (by kernel_rfl) (fun _ _ _ h => h) (Or.inl ⟨rfl, fun W hW => by obtain ⟨l0, l1, l2, l3, l4, l5⟩ := hW; go_simp⟩) hH ?_
        simp only [Act.put, List.setIfInBounds_toArray, List.set_cons_zero, List.set_cons_succ]
        refine oneH 5 rfl (by kernel_rfl) (fun K' hK => ?_)
        go_simp
        refine (kC _ B1).mono ?_
        rintro e w2 ⟨rfl, bb2⟩
        have B2 := B1.trans (bb2.mono B1.size)
        have R2 := R1.below bb2 (Nat.le_refl _)
        have O2 := O1.below bb2 (Nat.le_refl _)
        have T2 := T1.below bb2 (Nat.le_refl _)
        clear B1 R1 O1 T1 bb2 hH
        have hH : (fun W : World => W.cell? ⟨T, 0, none⟩ = some (.bool g0) ∧ W.cell? ⟨T, 1, none⟩ = some (.slice a0 n0 c0) ∧ W.cell? ⟨T, 2, none⟩ = some (.bool g1) ∧ W.cell? ⟨T, 3, none⟩ = some (.slice a1 n1 c1) ∧ W.cell? ⟨w.heap.size + 1, 0, none⟩ = some (.bool ug) ∧ W.cell? ⟨w.heap.size + 1, 1, none⟩ = some (.slice ua un uc)) w2 := ⟨T2.c 0 _ rfl, T2.c 1 _ rfl, T2.c 2 _ rfl, T2.c 3 _ rfl, O2.c 0 _ rfl, O2.c 1 _ rfl⟩
        refine hK _ _ hH ?_
        clear hK
        refine takeH 6 (some 20) (.bool false) rfl rfl (by kernel_rfl) (by kernel_rfl) (by kernel_rfl) (fun _ _ _ h => h) (Or.inl ⟨rfl, fun W hW => by go_simp⟩) hH ?_
        simp only [Act.put, List.setIfInBounds_toArray, List.set_cons_zero, List.set_cons_succ]
        clear hH
        refine wpAnyH_done (by kernel_rfl) ?_ _
        clear kC
        go_wp2
        go_roundw
        case rel => exact ⟨1, ug, ua, un, uc, by omega, by first | rfl | go_num, O2, by rw [HE.out]; exact ru, R2, hU.out.elim (fun h => Or.inl ⟨h.1, HE.out.trans h.2⟩) (fun h => Or.inr ⟨h.1, HE.out.trans h.2⟩), T2, B2⟩
        case measure => simp [intOf]
    · replace hU : Hid ((Value.agg #[.bool ug, .slice ua un uc] = .agg #[.bool g0, .slice a0 n0 c0] ∧ moreI z0 z1 = z0) ∨ (Value.agg #[.bool ug, .slice ua un uc] = .agg #[.bool g1, .slice a1 n1 c1] ∧ moreI z0 z1 = z1)) := hU
      replace ru : rowW w (.agg #[.bool ug, .slice ua un uc]) (mkW (moreI z0 z1)) := ru
      have c_O_0 := O0.c 0 _ rfl
      have c_O_1 := O0.c 1 _ rfl
      have c_R_0 := R0.c 0 _ rfl
      have f_R_0 := R0.f 0 _ rfl
      have c_R_1 := R0.c 1 _ rfl
      have f_R_1 := R0.f 1 _ rfl
      obtain ⟨w1, hw1⟩ : ∃ v, v = (wr.setCell ⟨w.heap.size, 0, none⟩ (.bool ug)).setCell ⟨w.heap.size, 1, none⟩ (.slice ua un uc) := ⟨_, rfl⟩
      have tn1 : Tn [w.heap.size] wr w1 := by rw [hw1]; exact ((tnL wr w.heap.size 0 (.bool ug)).trans (tnL _ w.heap.size 1 (.slice ua un uc)))
      have R1 : BoxL w1 w.heap.size w.heap.size [.bool ug, .slice ua un uc] := by rw [hw1]; exact ((R0.set 0 (.bool ug) (by simp)).set 1 (.slice ua un uc) (by simp))
      have blo1 := R0.lo
      have B1 := tn1.below B0 B0.size (fun q hq => by simp at hq; omega)
      have O1 := O0.tn tn1 (not_one (by omega))
      have T1 := T0.tn tn1 (not_one (by omega))
      clear B0 R0 O0 T0 tn1 blo1
      subst hw1
      go_wp2
      (try simp only [Exit.inBlock, Exit.then])
      refine bodyPost_ret (v := .agg #[.bool ug, .slice ua un uc]) ?_ rfl ⟨_, rfl, ru, hU, B1⟩
      rw [results_cell1 rfl]
      go_simp

def most4K (z0 z1 z2 z3 : Int) : Nat → Int
  | 0 => z0
  | 1 => moreI z0 z1
  | 2 => moreI (moreI z0 z1) z2
  | _ => moreI (moreI (moreI z0 z1) z2) z3
set_option maxRecDepth 20000 in
set_option maxHeartbeats 6400000 in
theorem most4 (T : Nat) (g0 g1 g2 g3 : Bool) (a0 a1 a2 a3 : Option Addr) (n0 c0 n1 c1 n2 c2 n3 c3 : Nat) (z0 z1 z2 z3 : Int) (w : World) (hT : BoxL w 0 T [.bool g0, .slice a0 n0 c0, .bool g1, .slice a1 n1 c1, .bool g2, .slice a2 n2 c2, .bool g3, .slice a3 n3 c3]) (r0 : rowW w (.agg #[.bool g0, .slice a0 n0 c0]) (mkW z0)) (r1 : rowW w (.agg #[.bool g1, .slice a1 n1 c1]) (mkW z1)) (r2 : rowW w (.agg #[.bool g2, .slice a2 n2 c2]) (mkW z2)) (r3 : rowW w (.agg #[.bool g3, .slice a3 n3 c3]) (mkW z3)) (m0 : (limbs z0.natAbs).length ≤ 1000) (m1 : (limbs z1.natAbs).length ≤ 1000) (m2 : (limbs z2.natAbs).length ≤ 1000) (m3 : (limbs z3.natAbs).length ≤ 1000) :
    Calls Try.prog 39 #[.slice (some ⟨T, 0, none⟩) 4 4] w fun e w' => ∃ v, e = .returned v ∧ rowW w v (mkW (moreI (moreI (moreI z0 z1) z2) z3)) ∧ Below w.heap.size w w' := by
  have kl : ∀ k, (limbs (most4K z0 z1 z2 z3 k).natAbs).length ≤ 1000 := by
    intro k
    match k with
    | 0 => exact m0
    | 1 => exact (more_len m0 m1)
    | 2 => exact (more_len (more_len m0 m1) m2)
    | _ + 3 => exact (more_len (more_len (more_len m0 m1) m2) m3)
  have B0_0 : Below w.heap.size w w := Below.refl _ _
  obtain ⟨ww1, hww1⟩ : ∃ v, v = w.alloc (.cells #[.bool false, .slice none 0 0] 28) := ⟨_, rfl⟩
  have sz1 : ww1.heap.size = w.heap.size + 1 := by rw [hww1]; simp
  have bw1 : Below w.heap.size w ww1 := by rw [hww1]; exact below1 _ _
  have B0_1 := B0_0.trans (bw1.mono B0_0.size)
  have R0_1 : BoxL ww1 w.heap.size w.heap.size [.bool false, .slice none 0 0] := by rw [hww1]; have h := BoxL.made w [.bool false, .slice none 0 0] 28; exact h
  obtain ⟨ww2, hww2⟩ : ∃ v, v = ww1.alloc (.cells #[.bool g0, .slice a0 n0 c0] 28) := ⟨_, rfl⟩
  have sz2 : ww2.heap.size = w.heap.size + 1 + 1 := by rw [hww2]; simp [sz1]
  have bw2 : Below ww1.heap.size ww1 ww2 := by rw [hww2]; exact below1 _ _
  have B0_2 := B0_1.trans (bw2.mono B0_1.size)
  have R0_2 := R0_1.below bw2 (Nat.le_refl _)
  have O0_2 : BoxL ww2 (w.heap.size + 1) (w.heap.size + 1) [.bool g0, .slice a0 n0 c0] := by rw [hww2]; have h := BoxL.made ww1 [.bool g0, .slice a0 n0 c0] 28; rw [sz1] at h; exact h
  have R0 := R0_2
  have O0 := O0_2.mono (by omega : w.heap.size ≤ w.heap.size + 1)
  have B0 := B0_2
  have T0 := hT.below B0 (Nat.le_refl _)
  have lt_T := hT.hi
  clear B0_0 B0_1 B0_2 bw1 bw2 R0_1 R0_2 O0_2
  have hW := hT
  have c_w0 := hW.c 0 _ rfl
  have c_w1 := hW.c 1 _ rfl
  go_enter Try.func39, Try.ntmps39
  go_wp2_with fail
  have hvv : (w.alloc (.cells #[.bool false, .slice none 0 0] 28)).alloc (.cells #[.bool g0, .slice a0 n0 c0] 28) = ww2 := by rw [hww2]; rw [hww1]
  rw [hvv]
  clear hvv hww1 hww2 sz1 ww1 c_w0 c_w1 hW hT
  have hz0 : w.heap.size + 2 ≤ ww2.heap.size := by omega
  clear sz2
  go_loopw [4] (fun i wr => ∃ (k : Nat) (ug : Bool) (ua : Option Addr) (un uc : Nat), k ≤ 3 ∧ i = .int .i64 ((k : Int) + 1) ∧ BoxL wr w.heap.size (w.heap.size + 1) [.bool ug, .slice ua un uc] ∧ rowW w (.agg #[.bool ug, .slice ua un uc]) (mkW (most4K z0 z1 z2 z3 k)) ∧ BoxL wr w.heap.size w.heap.size [.bool false, .slice none 0 0] ∧ BoxL wr 0 T [.bool g0, .slice a0 n0 c0, .bool g1, .slice a1 n1 c1, .bool g2, .slice a2 n2 c2, .bool g3, .slice a3 n3 c3] ∧ Below w.heap.size w wr) (fun i _ => 4 - (intOf i).toNat)
  case atStart => exact ⟨0, g0, a0, n0, c0, by omega, rfl, O0, r0, R0, T0, B0⟩
  case round =>
    clear O0 R0 T0 B0
    obtain ⟨k, ug, ua, un, uc, hk, rfl, O0, ru, R0, T0, B0⟩ := hrel
    rcases (by omega : k = 0 ∨ k = 1 ∨ k = 2 ∨ k = 3) with rfl | rfl | rfl | rfl
    · obtain ⟨lo, hlo⟩ : ∃ z, most4K z0 z1 z2 z3 0 = z := ⟨_, rfl⟩
      have ll := kl 0
      rw [hlo] at ru ll
      have HL : Hid (most4K z0 z1 z2 z3 1 = moreI lo z1) := by show _ = _; rw [← hlo]; rfl
      clear hlo
      have kC := fun W (h : Below w.heap.size w W) => sWCmp _ _ z1 lo W (r1.below h (Nat.le_refl _)) (ru.below h (Nat.le_refl _)) (by omega) (by omega)
      by_cases hl : lo < z1
      · have HE := moreY_yes hl HL.out
        replace HE : Hid (_ = _) := HE
        rw [cmpGt hl] at kC
        clear hl HL
        go_wp2_with fail
        obtain ⟨w1, hw1⟩ : ∃ v, Hid (v = wr.drew) := ⟨_, rfl⟩
        have bd : Below wr.heap.size wr w1 := by rw [hw1.out]; exact (Below.refl wr.heap.size wr).drew
        have B1 := B0.trans (bd.mono B0.size)
        have R1 := R0.below bd (Nat.le_refl _)
        have O1 := O0.below bd (Nat.le_refl _)
        have T1 := T0.below bd (Nat.le_refl _)
        clear B0 R0 O0 T0 bd
        have hH : (fun W : World => W.cell? ⟨T, 0, none⟩ = some (.bool g0) ∧ W.cell? ⟨T, 1, none⟩ = some (.slice a0 n0 c0) ∧ W.cell? ⟨T, 2, none⟩ = some (.bool g1) ∧ W.cell? ⟨T, 3, none⟩ = some (.slice a1 n1 c1) ∧ W.cell? ⟨T, 4, none⟩ = some (.bool g2) ∧ W.cell? ⟨T, 5, none⟩ = some (.slice a2 n2 c2) ∧ W.cell? ⟨T, 6, none⟩ = some (.bool g3) ∧ W.cell? ⟨T, 7, none⟩ = some (.slice a3 n3 c3) ∧ W.cell? ⟨w.heap.size + 1, 0, none⟩ = some (.bool ug) ∧ W.cell? ⟨w.heap.size + 1, 1, none⟩ = some (.slice ua un uc)) w1 := ⟨T1.c 0 _ rfl, T1.c 1 _ rfl, T1.c 2 _ rfl, T1.c 3 _ rfl, T1.c 4 _ rfl, T1.c 5 _ rfl, T1.c 6 _ rfl, T1.c 7 _ rfl, O1.c 0 _ rfl, O1.c 1 _ rfl⟩
        refine wp_region_held_drew (S := fun W => W.cell? ⟨T, 0, none⟩ = some (.bool g0) ∧ W.cell? ⟨T, 1, none⟩ = some (.slice a0 n0 c0) ∧ W.cell? ⟨T, 2, none⟩ = some (.bool g1) ∧ W.cell? ⟨T, 3, none⟩ = some (.slice a1 n1 c1) ∧ W.cell? ⟨T, 4, none⟩ = some (.bool g2) ∧ W.cell? ⟨T, 5, none⟩ = some (.slice a2 n2 c2) ∧ W.cell? ⟨T, 6, none⟩ = some (.bool g3) ∧ W.cell? ⟨T, 7, none⟩ = some (.slice a3 n3 c3) ∧ W.cell? ⟨w.heap.size + 1, 0, none⟩ = some (.bool ug) ∧ W.cell? ⟨w.heap.size + 1, 1, none⟩ = some (.slice ua un uc)) (by kernel_rfl) (by rw [← hw1.out]; exact hH) ?_
        intro _
        rw [← hw1.out]
        clear hw1
        refine takeH 0 (some 14) (.slice (some ⟨T, 0, none⟩) 4 4) rfl rfl (by kernel_rfl) (by kernel_rfl) (by kernel_rfl) (fun _ _ _ h => h) (Or.inl ⟨rfl, fun W hW => by go_simp⟩) hH ?_
        simp only [Act.put, List.setIfInBounds_toArray, List.set_cons_zero, List.set_cons_succ]
        refine takeH 1 (some 15) (.int .i64 1) rfl rfl (by kernel_rfl) (by kernel_rfl) (by kernel_rfl) (fun _ _ _ h => h) (Or.inl ⟨rfl, fun W hW => by go_simp⟩) hH ?_
        simp only [Act.put, List.setIfInBounds_toArray, List.set_cons_zero, List.set_cons_succ]
        refine takeH 2 (some 16) (.pointer (some ⟨T, 2, none⟩)) rfl rfl (by kernel_rfl) (by kernel_rfl) (by kernel_rfl) (fun _ _ _ h => h) (Or.inl ⟨rfl, fun W hW => by go_simp⟩) hH ?_
        simp only [Act.put, List.setIfInBounds_toArray, List.set_cons_zero, List.set_cons_succ]
        refine takeH 3 (some 17) (.agg #[.bool g1, .slice a1 n1 c1]) rfl rfl (by kernel_rfl) (by kernel_rfl) (by kernel_rfl) (fun _ _ _ h => h) (Or.inl ⟨rfl, fun W hW => by obtain ⟨l0, l1, l2, l3, l4, l5, l6, l7, l8, l9⟩ := hW; go_simp⟩) hH ?_
        simp only [Act.put, List.setIfInBounds_toArray, List.set_cons_zero, List.set_cons_succ]
        refine takeH 4 (some 18) (.agg #[.bool ug, .slice ua un uc]) rfl rfl (by kernel_rfl) (by kernel_rfl) (by kernel_rfl) (fun _ _ _ h => h) (Or.inl ⟨rfl, fun W hW => by obtain ⟨l0, l1, l2, l3, l4, l5, l6, l7, l8, l9⟩ := hW; go_simp⟩) hH ?_
        simp only [Act.put, List.setIfInBounds_toArray, List.set_cons_zero, List.set_cons_succ]
        refine oneH 5 rfl (by kernel_rfl) (fun K' hK => ?_)
        go_simp
        refine (kC _ B1).mono ?_
        rintro e w2 ⟨rfl, bb2⟩
        have B2 := B1.trans (bb2.mono B1.size)
        have R2 := R1.below bb2 (Nat.le_refl _)
        have O2 := O1.below bb2 (Nat.le_refl _)
        have T2 := T1.below bb2 (Nat.le_refl _)
        clear B1 R1 O1 T1 bb2 hH
        have hH : (fun W : World => W.cell? ⟨T, 0, none⟩ = some (.bool g0) ∧ W.cell? ⟨T, 1, none⟩ = some (.slice a0 n0 c0) ∧ W.cell? ⟨T, 2, none⟩ = some (.bool g1) ∧ W.cell? ⟨T, 3, none⟩ = some (.slice a1 n1 c1) ∧ W.cell? ⟨T, 4, none⟩ = some (.bool g2) ∧ W.cell? ⟨T, 5, none⟩ = some (.slice a2 n2 c2) ∧ W.cell? ⟨T, 6, none⟩ = some (.bool g3) ∧ W.cell? ⟨T, 7, none⟩ = some (.slice a3 n3 c3) ∧ W.cell? ⟨w.heap.size + 1, 0, none⟩ = some (.bool ug) ∧ W.cell? ⟨w.heap.size + 1, 1, none⟩ = some (.slice ua un uc)) w2 := ⟨T2.c 0 _ rfl, T2.c 1 _ rfl, T2.c 2 _ rfl, T2.c 3 _ rfl, T2.c 4 _ rfl, T2.c 5 _ rfl, T2.c 6 _ rfl, T2.c 7 _ rfl, O2.c 0 _ rfl, O2.c 1 _ rfl⟩
        refine hK _ _ hH ?_
        clear hK
        refine takeH 6 (some 20) (.bool true) rfl rfl (by kernel_rfl) (by kernel_rfl) (by kernel_rfl) (fun _ _ _ h => h) (Or.inl ⟨rfl, fun W hW => by go_simp⟩) hH ?_
        simp only [Act.put, List.setIfInBounds_toArray, List.set_cons_zero, List.set_cons_succ]
        clear hH
        refine wpAnyH_done (by kernel_rfl) ?_ _
        clear kC
        have c_T_0 := T2.c 0 _ rfl
        have f_T_0 := T2.f 0 _ rfl
        have c_T_1 := T2.c 1 _ rfl
        have f_T_1 := T2.f 1 _ rfl
        have c_T_2 := T2.c 2 _ rfl
        have f_T_2 := T2.f 2 _ rfl
        have c_T_3 := T2.c 3 _ rfl
        have f_T_3 := T2.f 3 _ rfl
        have c_T_4 := T2.c 4 _ rfl
        have f_T_4 := T2.f 4 _ rfl
        have c_T_5 := T2.c 5 _ rfl
        have f_T_5 := T2.f 5 _ rfl
        have c_T_6 := T2.c 6 _ rfl
        have f_T_6 := T2.f 6 _ rfl
        have c_T_7 := T2.c 7 _ rfl
        have f_T_7 := T2.f 7 _ rfl
        have c_O_0 := O2.c 0 _ rfl
        have f_O_0 := O2.f 0 _ rfl
        have c_O_1 := O2.c 1 _ rfl
        have f_O_1 := O2.f 1 _ rfl
        obtain ⟨w3, hw3⟩ : ∃ v, v = (w2.setCell ⟨w.heap.size + 1, 0, none⟩ (.bool g1)).setCell ⟨w.heap.size + 1, 1, none⟩ (.slice a1 n1 c1) := ⟨_, rfl⟩
        have tn3 : Tn [w.heap.size + 1] w2 w3 := by rw [hw3]; exact ((tnL w2 (w.heap.size + 1) 0 (.bool g1)).trans (tnL _ (w.heap.size + 1) 1 (.slice a1 n1 c1)))
        have O3 : BoxL w3 w.heap.size (w.heap.size + 1) [.bool g1, .slice a1 n1 c1] := by rw [hw3]; exact ((O2.set 0 (.bool g1) (by simp)).set 1 (.slice a1 n1 c1) (by simp))
        have blo3 := O2.lo
        have B3 := tn3.below B2 B2.size (fun q hq => by simp at hq; omega)
        have R3 := R2.tn tn3 (not_one (by omega))
        have T3 := T2.tn tn3 (not_one (by omega))
        clear B2 R2 O2 T2 tn3 blo3
        subst hw3
        go_wp2
        go_roundw
        case rel => exact ⟨1, g1, a1, n1, c1, by omega, by first | rfl | go_num, O3, by rw [HE.out]; exact r1, R3, T3, B3⟩
        case measure => simp [intOf]
      · have HE := moreY_no hl HL.out
        replace HE : Hid (_ = _) := HE
        have hc := cmpLe hl
        obtain ⟨cv, hcv⟩ : ∃ c, cmpZ z1 lo = c := ⟨_, rfl⟩
        rw [hcv] at kC hc
        obtain ⟨hc1, hc2⟩ := hc
        have hc3 : decide (0 < cv) = false := decide_eq_false (by omega)
        clear hl HL hcv
        go_wp2_with fail
        obtain ⟨w1, hw1⟩ : ∃ v, Hid (v = wr.drew) := ⟨_, rfl⟩
        have bd : Below wr.heap.size wr w1 := by rw [hw1.out]; exact (Below.refl wr.heap.size wr).drew
        have B1 := B0.trans (bd.mono B0.size)
        have R1 := R0.below bd (Nat.le_refl _)
        have O1 := O0.below bd (Nat.le_refl _)
        have T1 := T0.below bd (Nat.le_refl _)
        clear B0 R0 O0 T0 bd
        have hH : (fun W : World => W.cell? ⟨T, 0, none⟩ = some (.bool g0) ∧ W.cell? ⟨T, 1, none⟩ = some (.slice a0 n0 c0) ∧ W.cell? ⟨T, 2, none⟩ = some (.bool g1) ∧ W.cell? ⟨T, 3, none⟩ = some (.slice a1 n1 c1) ∧ W.cell? ⟨T, 4, none⟩ = some (.bool g2) ∧ W.cell? ⟨T, 5, none⟩ = some (.slice a2 n2 c2) ∧ W.cell? ⟨T, 6, none⟩ = some (.bool g3) ∧ W.cell? ⟨T, 7, none⟩ = some (.slice a3 n3 c3) ∧ W.cell? ⟨w.heap.size + 1, 0, none⟩ = some (.bool ug) ∧ W.cell? ⟨w.heap.size + 1, 1, none⟩ = some (.slice ua un uc)) w1 := ⟨T1.c 0 _ rfl, T1.c 1 _ rfl, T1.c 2 _ rfl, T1.c 3 _ rfl, T1.c 4 _ rfl, T1.c 5 _ rfl, T1.c 6 _ rfl, T1.c 7 _ rfl, O1.c 0 _ rfl, O1.c 1 _ rfl⟩
        refine wp_region_held_drew (S := fun W => W.cell? ⟨T, 0, none⟩ = some (.bool g0) ∧ W.cell? ⟨T, 1, none⟩ = some (.slice a0 n0 c0) ∧ W.cell? ⟨T, 2, none⟩ = some (.bool g1) ∧ W.cell? ⟨T, 3, none⟩ = some (.slice a1 n1 c1) ∧ W.cell? ⟨T, 4, none⟩ = some (.bool g2) ∧ W.cell? ⟨T, 5, none⟩ = some (.slice a2 n2 c2) ∧ W.cell? ⟨T, 6, none⟩ = some (.bool g3) ∧ W.cell? ⟨T, 7, none⟩ = some (.slice a3 n3 c3) ∧ W.cell? ⟨w.heap.size + 1, 0, none⟩ = some (.bool ug) ∧ W.cell? ⟨w.heap.size + 1, 1, none⟩ = some (.slice ua un uc)) (by kernel_rfl) (by rw [← hw1.out]; exact hH) ?_
        intro _
        rw [← hw1.out]
        clear hw1
        refine takeH 0 (some 14) (.slice (some ⟨T, 0, none⟩) 4 4) rfl rfl (by kernel_rfl) (by kernel_rfl) (by kernel_rfl) (fun _ _ _ h => h) (Or.inl ⟨rfl, fun W hW => by go_simp⟩) hH ?_
        simp only [Act.put, List.setIfInBounds_toArray, List.set_cons_zero, List.set_cons_succ]
        refine takeH 1 (some 15) (.int .i64 1) rfl rfl (by kernel_rfl) (by kernel_rfl) (by kernel_rfl) (fun _ _ _ h => h) (Or.inl ⟨rfl, fun W hW => by go_simp⟩) hH ?_
        simp only [Act.put, List.setIfInBounds_toArray, List.set_cons_zero, List.set_cons_succ]
        refine takeH 2 (some 16) (.pointer (some ⟨T, 2, none⟩)) rfl rfl (by kernel_rfl) (by kernel_rfl) (by kernel_rfl) (fun _ _ _ h => h) (Or.inl ⟨rfl, fun W hW => by go_simp⟩) hH ?_
        simp only [Act.put, List.setIfInBounds_toArray, List.set_cons_zero, List.set_cons_succ]
        refine takeH 3 (some 17) (.agg #[.bool g1, .slice a1 n1 c1]) rfl rfl (by kernel_rfl) (by kernel_rfl) (by kernel_rfl) (fun _ _ _ h => h) (Or.inl ⟨rfl, fun W hW => by obtain ⟨l0, l1, l2, l3, l4, l5, l6, l7, l8, l9⟩ := hW; go_simp⟩) hH ?_
        simp only [Act.put, List.setIfInBounds_toArray, List.set_cons_zero, List.set_cons_succ]
        refine takeH 4 (some 18) (.agg #[.bool ug, .slice ua un uc]) rfl rfl (by kernel_rfl) (by kernel_rfl) (by kernel_rfl) (fun _ _ _ h => h) (Or.inl ⟨rfl, fun W hW => by obtain ⟨l0, l1, l2, l3, l4, l5, l6, l7, l8, l9⟩ := hW; go_simp⟩) hH ?_
        simp only [Act.put, List.setIfInBounds_toArray, List.set_cons_zero, List.set_cons_succ]
        refine oneH 5 rfl (by kernel_rfl) (fun K' hK => ?_)
        go_simp
        refine (kC _ B1).mono ?_
        rintro e w2 ⟨rfl, bb2⟩
        have B2 := B1.trans (bb2.mono B1.size)
        have R2 := R1.below bb2 (Nat.le_refl _)
        have O2 := O1.below bb2 (Nat.le_refl _)
        have T2 := T1.below bb2 (Nat.le_refl _)
        clear B1 R1 O1 T1 bb2 hH
        have hH : (fun W : World => W.cell? ⟨T, 0, none⟩ = some (.bool g0) ∧ W.cell? ⟨T, 1, none⟩ = some (.slice a0 n0 c0) ∧ W.cell? ⟨T, 2, none⟩ = some (.bool g1) ∧ W.cell? ⟨T, 3, none⟩ = some (.slice a1 n1 c1) ∧ W.cell? ⟨T, 4, none⟩ = some (.bool g2) ∧ W.cell? ⟨T, 5, none⟩ = some (.slice a2 n2 c2) ∧ W.cell? ⟨T, 6, none⟩ = some (.bool g3) ∧ W.cell? ⟨T, 7, none⟩ = some (.slice a3 n3 c3) ∧ W.cell? ⟨w.heap.size + 1, 0, none⟩ = some (.bool ug) ∧ W.cell? ⟨w.heap.size + 1, 1, none⟩ = some (.slice ua un uc)) w2 := ⟨T2.c 0 _ rfl, T2.c 1 _ rfl, T2.c 2 _ rfl, T2.c 3 _ rfl, T2.c 4 _ rfl, T2.c 5 _ rfl, T2.c 6 _ rfl, T2.c 7 _ rfl, O2.c 0 _ rfl, O2.c 1 _ rfl⟩
        refine hK _ _ hH ?_
        clear hK
        refine takeH 6 (some 20) (.bool false) rfl rfl (by kernel_rfl) (by kernel_rfl) (by kernel_rfl) (fun _ _ _ h => h) (Or.inl ⟨rfl, fun W hW => by go_simp⟩) hH ?_
        simp only [Act.put, List.setIfInBounds_toArray, List.set_cons_zero, List.set_cons_succ]
        clear hH
        refine wpAnyH_done (by kernel_rfl) ?_ _
        clear kC
        go_wp2
        go_roundw
        case rel => exact ⟨1, ug, ua, un, uc, by omega, by first | rfl | go_num, O2, by rw [HE.out]; exact ru, R2, T2, B2⟩
        case measure => simp [intOf]
    · obtain ⟨lo, hlo⟩ : ∃ z, most4K z0 z1 z2 z3 1 = z := ⟨_, rfl⟩
      have ll := kl 1
      rw [hlo] at ru ll
      have HL : Hid (most4K z0 z1 z2 z3 2 = moreI lo z2) := by show _ = _; rw [← hlo]; rfl
      clear hlo
      have kC := fun W (h : Below w.heap.size w W) => sWCmp _ _ z2 lo W (r2.below h (Nat.le_refl _)) (ru.below h (Nat.le_refl _)) (by omega) (by omega)
      by_cases hl : lo < z2
      · have HE := moreY_yes hl HL.out
        replace HE : Hid (_ = _) := HE
        rw [cmpGt hl] at kC
        clear hl HL
        go_wp2_with fail
        obtain ⟨w1, hw1⟩ : ∃ v, Hid (v = wr.drew) := ⟨_, rfl⟩
        have bd : Below wr.heap.size wr w1 := by rw [hw1.out]; exact (Below.refl wr.heap.size wr).drew
        have B1 := B0.trans (bd.mono B0.size)
        have R1 := R0.below bd (Nat.le_refl _)
        have O1 := O0.below bd (Nat.le_refl _)
        have T1 := T0.below bd (Nat.le_refl _)
        clear B0 R0 O0 T0 bd
        have hH : (fun W : World => W.cell? ⟨T, 0, none⟩ = some (.bool g0) ∧ W.cell? ⟨T, 1, none⟩ = some (.slice a0 n0 c0) ∧ W.cell? ⟨T, 2, none⟩ = some (.bool g1) ∧ W.cell? ⟨T, 3, none⟩ = some (.slice a1 n1 c1) ∧ W.cell? ⟨T, 4, none⟩ = some (.bool g2) ∧ W.cell? ⟨T, 5, none⟩ = some (.slice a2 n2 c2) ∧ W.cell? ⟨T, 6, none⟩ = some (.bool g3) ∧ W.cell? ⟨T, 7, none⟩ = some (.slice a3 n3 c3) ∧ W.cell? ⟨w.heap.size + 1, 0, none⟩ = some (.bool ug) ∧ W.cell? ⟨w.heap.size + 1, 1, none⟩ = some (.slice ua un uc)) w1 := ⟨T1.c 0 _ rfl, T1.c 1 _ rfl, T1.c 2 _ rfl, T1.c 3 _ rfl, T1.c 4 _ rfl, T1.c 5 _ rfl, T1.c 6 _ rfl, T1.c 7 _ rfl, O1.c 0 _ rfl, O1.c 1 _ rfl⟩
        refine wp_region_held_drew (S := fun W => W.cell? ⟨T, 0, none⟩ = some (.bool g0) ∧ W.cell? ⟨T, 1, none⟩ = some (.slice a0 n0 c0) ∧ W.cell? ⟨T, 2, none⟩ = some (.bool g1) ∧ W.cell? ⟨T, 3, none⟩ = some (.slice a1 n1 c1) ∧ W.cell? ⟨T, 4, none⟩ = some (.bool g2) ∧ W.cell? ⟨T, 5, none⟩ = some (.slice a2 n2 c2) ∧ W.cell? ⟨T, 6, none⟩ = some (.bool g3) ∧ W.cell? ⟨T, 7, none⟩ = some (.slice a3 n3 c3) ∧ W.cell? ⟨w.heap.size + 1, 0, none⟩ = some (.bool ug) ∧ W.cell? ⟨w.heap.size + 1, 1, none⟩ = some (.slice ua un uc)) (by kernel_rfl) (by rw [← hw1.out]; exact hH) ?_
        intro _
        rw [← hw1.out]
        clear hw1
        refine takeH 0 (some 14) (.slice (some ⟨T, 0, none⟩) 4 4) rfl rfl (by kernel_rfl) (by kernel_rfl) (by kernel_rfl) (fun _ _ _ h => h) (Or.inl ⟨rfl, fun W hW => by go_simp⟩) hH ?_
        simp only [Act.put, List.setIfInBounds_toArray, List.set_cons_zero, List.set_cons_succ]
        refine takeH 1 (some 15) (.int .i64 2) rfl rfl (by kernel_rfl) (by kernel_rfl) (by kernel_rfl) (fun _ _ _ h => h) (Or.inl ⟨rfl, fun W hW => by go_simp⟩) hH ?_
        simp only [Act.put, List.setIfInBounds_toArray, List.set_cons_zero, List.set_cons_succ]
        refine takeH 2 (some 16) (.pointer (some ⟨T, 4, none⟩)) rfl rfl (by kernel_rfl) (by kernel_rfl) (by kernel_rfl) (fun _ _ _ h => h) (Or.inl ⟨rfl, fun W hW => by go_simp⟩) hH ?_
        simp only [Act.put, List.setIfInBounds_toArray, List.set_cons_zero, List.set_cons_succ]
        refine takeH 3 (some 17) (.agg #[.bool g2, .slice a2 n2 c2]) rfl rfl (by kernel_rfl) (by kernel_rfl) (by kernel_rfl) (fun _ _ _ h => h) (Or.inl ⟨rfl, fun W hW => by obtain ⟨l0, l1, l2, l3, l4, l5, l6, l7, l8, l9⟩ := hW; go_simp⟩) hH ?_
        simp only [Act.put, List.setIfInBounds_toArray, List.set_cons_zero, List.set_cons_succ]
        refine takeH 4 (some 18) (.agg #[.bool ug, .slice ua un uc]) rfl rfl (by kernel_rfl) (by kernel_rfl) (by kernel_rfl) (fun _ _ _ h => h) (Or.inl ⟨rfl, fun W hW => by obtain ⟨l0, l1, l2, l3, l4, l5, l6, l7, l8, l9⟩ := hW; go_simp⟩) hH ?_
        simp only [Act.put, List.setIfInBounds_toArray, List.set_cons_zero, List.set_cons_succ]
        refine oneH 5 rfl (by kernel_rfl) (fun K' hK => ?_)
        go_simp
        refine (kC _ B1).mono ?_
        rintro e w2 ⟨rfl, bb2⟩
        have B2 := B1.trans (bb2.mono B1.size)
        have R2 := R1.below bb2 (Nat.le_refl _)
        have O2 := O1.below bb2 (Nat.le_refl _)
        have T2 := T1.below bb2 (Nat.le_refl _)
        clear B1 R1 O1 T1 bb2 hH
        have hH : (fun W : World => W.cell? ⟨T, 0, none⟩ = some (.bool g0) ∧ W.cell? ⟨T, 1, none⟩ = some (.slice a0 n0 c0) ∧ W.cell? ⟨T, 2, none⟩ = some (.bool g1) ∧ W.cell? ⟨T, 3, none⟩ = some (.slice a1 n1 c1) ∧ W.cell? ⟨T, 4, none⟩ = some (.bool g2) ∧ W.cell? ⟨T, 5, none⟩ = some (.slice a2 n2 c2) ∧ W.cell? ⟨T, 6, none⟩ = some (.bool g3) ∧ W.cell? ⟨T, 7, none⟩ = some (.slice a3 n3 c3) ∧ W.cell? ⟨w.heap.size + 1, 0, none⟩ = some (.bool ug) ∧ W.cell? ⟨w.heap.size + 1, 1, none⟩ = some (.slice ua un uc)) w2 := ⟨T2.c 0 _ rfl, T2.c 1 _ rfl, T2.c 2 _ rfl, T2.c 3 _ rfl, T2.c 4 _ rfl, T2.c 5 _ rfl, T2.c 6 _ rfl, T2.c 7 _ rfl, O2.c 0 _ rfl, O2.c 1 _ rfl⟩
        refine hK _ _ hH ?_
        clear hK
        refine takeH 6 (some 20) (.bool true) rfl rfl (by kernel_rfl) (by kernel_rfl) (by kernel_rfl) (fun _ _ _ h => h) (Or.inl ⟨rfl, fun W hW => by go_simp⟩) hH ?_
        simp only [Act.put, List.setIfInBounds_toArray, List.set_cons_zero, List.set_cons_succ]
        clear hH
        refine wpAnyH_done (by kernel_rfl) ?_ _
        clear kC
        have c_T_0 := T2.c 0 _ rfl
        have f_T_0 := T2.f 0 _ rfl
        have c_T_1 := T2.c 1 _ rfl
        have f_T_1 := T2.f 1 _ rfl
        have c_T_2 := T2.c 2 _ rfl
        have f_T_2 := T2.f 2 _ rfl
        have c_T_3 := T2.c 3 _ rfl
        have f_T_3 := T2.f 3 _ rfl
        have c_T_4 := T2.c 4 _ rfl
        have f_T_4 := T2.f 4 _ rfl
        have c_T_5 := T2.c 5 _ rfl
        have f_T_5 := T2.f 5 _ rfl
        have c_T_6 := T2.c 6 _ rfl
        have f_T_6 := T2.f 6 _ rfl
        have c_T_7 := T2.c 7 _ rfl
        have f_T_7 := T2.f 7 _ rfl
        have c_O_0 := O2.c 0 _ rfl
        have f_O_0 := O2.f 0 _ rfl
        have c_O_1 := O2.c 1 _ rfl
        have f_O_1 := O2.f 1 _ rfl
        obtain ⟨w3, hw3⟩ : ∃ v, v = (w2.setCell ⟨w.heap.size + 1, 0, none⟩ (.bool g2)).setCell ⟨w.heap.size + 1, 1, none⟩ (.slice a2 n2 c2) := ⟨_, rfl⟩
        have tn3 : Tn [w.heap.size + 1] w2 w3 := by rw [hw3]; exact ((tnL w2 (w.heap.size + 1) 0 (.bool g2)).trans (tnL _ (w.heap.size + 1) 1 (.slice a2 n2 c2)))
        have O3 : BoxL w3 w.heap.size (w.heap.size + 1) [.bool g2, .slice a2 n2 c2] := by rw [hw3]; exact ((O2.set 0 (.bool g2) (by simp)).set 1 (.slice a2 n2 c2) (by simp))
        have blo3 := O2.lo
        have B3 := tn3.below B2 B2.size (fun q hq => by simp at hq; omega)
        have R3 := R2.tn tn3 (not_one (by omega))
        have T3 := T2.tn tn3 (not_one (by omega))
        clear B2 R2 O2 T2 tn3 blo3
        subst hw3
        go_wp2
        go_roundw
        case rel => exact ⟨2, g2, a2, n2, c2, by omega, by first | rfl | go_num, O3, by rw [HE.out]; exact r2, R3, T3, B3⟩
        case measure => simp [intOf]
      · have HE := moreY_no hl HL.out
        replace HE : Hid (_ = _) := HE
        have hc := cmpLe hl
        obtain ⟨cv, hcv⟩ : ∃ c, cmpZ z2 lo = c := ⟨_, rfl⟩
        rw [hcv] at kC hc
        obtain ⟨hc1, hc2⟩ := hc
        have hc3 : decide (0 < cv) = false := decide_eq_false (by omega)
        clear hl HL hcv
        go_wp2_with fail
        obtain ⟨w1, hw1⟩ : ∃ v, Hid (v = wr.drew) := ⟨_, rfl⟩
        have bd : Below wr.heap.size wr w1 := by rw [hw1.out]; exact (Below.refl wr.heap.size wr).drew
        have B1 := B0.trans (bd.mono B0.size)
        have R1 := R0.below bd (Nat.le_refl _)
        have O1 := O0.below bd (Nat.le_refl _)
        have T1 := T0.below bd (Nat.le_refl _)
        clear B0 R0 O0 T0 bd
        have hH : (fun W : World => W.cell? ⟨T, 0, none⟩ = some (.bool g0) ∧ W.cell? ⟨T, 1, none⟩ = some (.slice a0 n0 c0) ∧ W.cell? ⟨T, 2, none⟩ = some (.bool g1) ∧ W.cell? ⟨T, 3, none⟩ = some (.slice a1 n1 c1) ∧ W.cell? ⟨T, 4, none⟩ = some (.bool g2) ∧ W.cell? ⟨T, 5, none⟩ = some (.slice a2 n2 c2) ∧ W.cell? ⟨T, 6, none⟩ = some (.bool g3) ∧ W.cell? ⟨T, 7, none⟩ = some (.slice a3 n3 c3) ∧ W.cell? ⟨w.heap.size + 1, 0, none⟩ = some (.bool ug) ∧ W.cell? ⟨w.heap.size + 1, 1, none⟩ = some (.slice ua un uc)) w1 := ⟨T1.c 0 _ rfl, T1.c 1 _ rfl, T1.c 2 _ rfl, T1.c 3 _ rfl, T1.c 4 _ rfl, T1.c 5 _ rfl, T1.c 6 _ rfl, T1.c 7 _ rfl, O1.c 0 _ rfl, O1.c 1 _ rfl⟩
        refine wp_region_held_drew (S := fun W => W.cell? ⟨T, 0, none⟩ = some (.bool g0) ∧ W.cell? ⟨T, 1, none⟩ = some (.slice a0 n0 c0) ∧ W.cell? ⟨T, 2, none⟩ = some (.bool g1) ∧ W.cell? ⟨T, 3, none⟩ = some (.slice a1 n1 c1) ∧ W.cell? ⟨T, 4, none⟩ = some (.bool g2) ∧ W.cell? ⟨T, 5, none⟩ = some (.slice a2 n2 c2) ∧ W.cell? ⟨T, 6, none⟩ = some (.bool g3) ∧ W.cell? ⟨T, 7, none⟩ = some (.slice a3 n3 c3) ∧ W.cell? ⟨w.heap.size + 1, 0, none⟩ = some (.bool ug) ∧ W.cell? ⟨w.heap.size + 1, 1, none⟩ = some (.slice ua un uc)) (by kernel_rfl) (by rw [← hw1.out]; exact hH) ?_
        intro _
        rw [← hw1.out]
        clear hw1
        refine takeH 0 (some 14) (.slice (some ⟨T, 0, none⟩) 4 4) rfl rfl (by kernel_rfl) (by kernel_rfl) (by kernel_rfl) (fun _ _ _ h => h) (Or.inl ⟨rfl, fun W hW => by go_simp⟩) hH ?_
        simp only [Act.put, List.setIfInBounds_toArray, List.set_cons_zero, List.set_cons_succ]
        refine takeH 1 (some 15) (.int .i64 2) rfl rfl (by kernel_rfl) (by kernel_rfl) (by kernel_rfl) (fun _ _ _ h => h) (Or.inl ⟨rfl, fun W hW => by go_simp⟩) hH ?_
        simp only [Act.put, List.setIfInBounds_toArray, List.set_cons_zero, List.set_cons_succ]
        refine takeH 2 (some 16) (.pointer (some ⟨T, 4, none⟩)) rfl rfl (by kernel_rfl) (by kernel_rfl) (by kernel_rfl) (fun _ _ _ h => h) (Or.inl ⟨rfl, fun W hW => by go_simp⟩) hH ?_
        simp only [Act.put, List.setIfInBounds_toArray, List.set_cons_zero, List.set_cons_succ]
        refine takeH 3 (some 17) (.agg #[.bool g2, .slice a2 n2 c2]) rfl rfl (by kernel_rfl) (by kernel_rfl) (by kernel_rfl) (fun _ _ _ h => h) (Or.inl ⟨rfl, fun W hW => by obtain ⟨l0, l1, l2, l3, l4, l5, l6, l7, l8, l9⟩ := hW; go_simp⟩) hH ?_
        simp only [Act.put, List.setIfInBounds_toArray, List.set_cons_zero, List.set_cons_succ]
        refine takeH 4 (some 18) (.agg #[.bool ug, .slice ua un uc]) rfl rfl (by kernel_rfl) (by kernel_rfl) (by kernel_rfl) (fun _ _ _ h => h) (Or.inl ⟨rfl, fun W hW => by obtain ⟨l0, l1, l2, l3, l4, l5, l6, l7, l8, l9⟩ := hW; go_simp⟩) hH ?_
        simp only [Act.put, List.setIfInBounds_toArray, List.set_cons_zero, List.set_cons_succ]
        refine oneH 5 rfl (by kernel_rfl) (fun K' hK => ?_)
        go_simp
        refine (kC _ B1).mono ?_
        rintro e w2 ⟨rfl, bb2⟩
        have B2 := B1.trans (bb2.mono B1.size)
        have R2 := R1.below bb2 (Nat.le_refl _)
        have O2 := O1.below bb2 (Nat.le_refl _)
        have T2 := T1.below bb2 (Nat.le_refl _)
        clear B1 R1 O1 T1 bb2 hH
        have hH : (fun W : World => W.cell? ⟨T, 0, none⟩ = some (.bool g0) ∧ W.cell? ⟨T, 1, none⟩ = some (.slice a0 n0 c0) ∧ W.cell? ⟨T, 2, none⟩ = some (.bool g1) ∧ W.cell? ⟨T, 3, none⟩ = some (.slice a1 n1 c1) ∧ W.cell? ⟨T, 4, none⟩ = some (.bool g2) ∧ W.cell? ⟨T, 5, none⟩ = some (.slice a2 n2 c2) ∧ W.cell? ⟨T, 6, none⟩ = some (.bool g3) ∧ W.cell? ⟨T, 7, none⟩ = some (.slice a3 n3 c3) ∧ W.cell? ⟨w.heap.size + 1, 0, none⟩ = some (.bool ug) ∧ W.cell? ⟨w.heap.size + 1, 1, none⟩ = some (.slice ua un uc)) w2 := ⟨T2.c 0 _ rfl, T2.c 1 _ rfl, T2.c 2 _ rfl, T2.c 3 _ rfl, T2.c 4 _ rfl, T2.c 5 _ rfl, T2.c 6 _ rfl, T2.c 7 _ rfl, O2.c 0 _ rfl, O2.c 1 _ rfl⟩
        refine hK _ _ hH ?_
        clear hK
        refine takeH 6 (some 20) (.bool false) rfl rfl (by kernel_rfl) (by kernel_rfl) (by kernel_rfl) (fun _ _ _ h => h) (Or.inl ⟨rfl, fun W hW => by go_simp⟩) hH ?_
        simp only [Act.put, List.setIfInBounds_toArray, List.set_cons_zero, List.set_cons_succ]
        clear hH
        refine wpAnyH_done (by kernel_rfl) ?_ _
        clear kC
        go_wp2
        go_roundw
        case rel => exact ⟨2, ug, ua, un, uc, by omega, by first | rfl | go_num, O2, by rw [HE.out]; exact ru, R2, T2, B2⟩
        case measure => simp [intOf]
    · obtain ⟨lo, hlo⟩ : ∃ z, most4K z0 z1 z2 z3 2 = z := ⟨_, rfl⟩
      have ll := kl 2
      rw [hlo] at ru ll
      have HL : Hid (most4K z0 z1 z2 z3 3 = moreI lo z3) := by show _ = _; rw [← hlo]; rfl
      clear hlo
      have kC := fun W (h : Below w.heap.size w W) => sWCmp _ _ z3 lo W (r3.below h (Nat.le_refl _)) (ru.below h (Nat.le_refl _)) (by omega) (by omega)
      by_cases hl : lo < z3
      · have HE := moreY_yes hl HL.out
        replace HE : Hid (_ = _) := HE
        rw [cmpGt hl] at kC
        clear hl HL
        go_wp2_with fail
        obtain ⟨w1, hw1⟩ : ∃ v, Hid (v = wr.drew) := ⟨_, rfl⟩
        have bd : Below wr.heap.size wr w1 := by rw [hw1.out]; exact (Below.refl wr.heap.size wr).drew
        have B1 := B0.trans (bd.mono B0.size)
        have R1 := R0.below bd (Nat.le_refl _)
        have O1 := O0.below bd (Nat.le_refl _)
        have T1 := T0.below bd (Nat.le_refl _)
        clear B0 R0 O0 T0 bd
        have hH : (fun W : World => W.cell? ⟨T, 0, none⟩ = some (.bool g0) ∧ W.cell? ⟨T, 1, none⟩ = some (.slice a0 n0 c0) ∧ W.cell? ⟨T, 2, none⟩ = some (.bool g1) ∧ W.cell? ⟨T, 3, none⟩ = some (.slice a1 n1 c1) ∧ W.cell? ⟨T, 4, none⟩ = some (.bool g2) ∧ W.cell? ⟨T, 5, none⟩ = some (.slice a2 n2 c2) ∧ W.cell? ⟨T, 6, none⟩ = some (.bool g3) ∧ W.cell? ⟨T, 7, none⟩ = some (.slice a3 n3 c3) ∧ W.cell? ⟨w.heap.size + 1, 0, none⟩ = some (.bool ug) ∧ W.cell? ⟨w.heap.size + 1, 1, none⟩ = some (.slice ua un uc)) w1 := ⟨T1.c 0 _ rfl, T1.c 1 _ rfl, T1.c 2 _ rfl, T1.c 3 _ rfl, T1.c 4 _ rfl, T1.c 5 _ rfl, T1.c 6 _ rfl, T1.c 7 _ rfl, O1.c 0 _ rfl, O1.c 1 _ rfl⟩
        refine wp_region_held_drew (S := fun W => W.cell? ⟨T, 0, none⟩ = some (.bool g0) ∧ W.cell? ⟨T, 1, none⟩ = some (.slice a0 n0 c0) ∧ W.cell? ⟨T, 2, none⟩ = some (.bool g1) ∧ W.cell? ⟨T, 3, none⟩ = some (.slice a1 n1 c1) ∧ W.cell? ⟨T, 4, none⟩ = some (.bool g2) ∧ W.cell? ⟨T, 5, none⟩ = some (.slice a2 n2 c2) ∧ W.cell? ⟨T, 6, none⟩ = some (.bool g3) ∧ W.cell? ⟨T, 7, none⟩ = some (.slice a3 n3 c3) ∧ W.cell? ⟨w.heap.size + 1, 0, none⟩ = some (.bool ug) ∧ W.cell? ⟨w.heap.size + 1, 1, none⟩ = some (.slice ua un uc)) (by kernel_rfl) (by rw [← hw1.out]; exact hH) ?_
        intro _
        rw [← hw1.out]
        clear hw1
        refine takeH 0 (some 14) (.slice (some ⟨T, 0, none⟩) 4 4) rfl rfl (by kernel_rfl) (by kernel_rfl) (by kernel_rfl) (fun _ _ _ h => h) (Or.inl ⟨rfl, fun W hW => by go_simp⟩) hH ?_
        simp only [Act.put, List.setIfInBounds_toArray, List.set_cons_zero, List.set_cons_succ]
        refine takeH 1 (some 15) (.int .i64 3) rfl rfl (by kernel_rfl) (by kernel_rfl) (by kernel_rfl) (fun _ _ _ h => h) (Or.inl ⟨rfl, fun W hW => by go_simp⟩) hH ?_
        simp only [Act.put, List.setIfInBounds_toArray, List.set_cons_zero, List.set_cons_succ]
        refine takeH 2 (some 16) (.pointer (some ⟨T, 6, none⟩)) rfl rfl (by kernel_rfl) (by kernel_rfl) (by kernel_rfl) (fun _ _ _ h => h) (Or.inl ⟨rfl, fun W hW => by go_simp⟩) hH ?_
        simp only [Act.put, List.setIfInBounds_toArray, List.set_cons_zero, List.set_cons_succ]
        refine takeH 3 (some 17) (.agg #[.bool g3, .slice a3 n3 c3]) rfl rfl (by kernel_rfl) (by kernel_rfl) (by kernel_rfl) (fun _ _ _ h => h) (Or.inl ⟨rfl, fun W hW => by obtain ⟨l0, l1, l2, l3, l4, l5, l6, l7, l8, l9⟩ := hW; go_simp⟩) hH ?_
        simp only [Act.put, List.setIfInBounds_toArray, List.set_cons_zero, List.set_cons_succ]
        refine takeH 4 (some 18) (.agg #[.bool ug, .slice ua un uc]) rfl rfl (by kernel_rfl) (by kernel_rfl) (by kernel_rfl) (fun _ _ _ h => h) (Or.inl ⟨rfl, fun W hW => by obtain ⟨l0, l1, l2, l3, l4, l5, l6, l7, l8, l9⟩ := hW; go_simp⟩) hH ?_
        simp only [Act.put, List.setIfInBounds_toArray, List.set_cons_zero, List.set_cons_succ]
        refine oneH 5 rfl (by kernel_rfl) (fun K' hK => ?_)
        go_simp
        refine (kC _ B1).mono ?_
        rintro e w2 ⟨rfl, bb2⟩
        have B2 := B1.trans (bb2.mono B1.size)
        have R2 := R1.below bb2 (Nat.le_refl _)
        have O2 := O1.below bb2 (Nat.le_refl _)
        have T2 := T1.below bb2 (Nat.le_refl _)
        clear B1 R1 O1 T1 bb2 hH
        have hH : (fun W : World => W.cell? ⟨T, 0, none⟩ = some (.bool g0) ∧ W.cell? ⟨T, 1, none⟩ = some (.slice a0 n0 c0) ∧ W.cell? ⟨T, 2, none⟩ = some (.bool g1) ∧ W.cell? ⟨T, 3, none⟩ = some (.slice a1 n1 c1) ∧ W.cell? ⟨T, 4, none⟩ = some (.bool g2) ∧ W.cell? ⟨T, 5, none⟩ = some (.slice a2 n2 c2) ∧ W.cell? ⟨T, 6, none⟩ = some (.bool g3) ∧ W.cell? ⟨T, 7, none⟩ = some (.slice a3 n3 c3) ∧ W.cell? ⟨w.heap.size + 1, 0, none⟩ = some (.bool ug) ∧ W.cell? ⟨w.heap.size + 1, 1, none⟩ = some (.slice ua un uc)) w2 := ⟨T2.c 0 _ rfl, T2.c 1 _ rfl, T2.c 2 _ rfl, T2.c 3 _ rfl, T2.c 4 _ rfl, T2.c 5 _ rfl, T2.c 6 _ rfl, T2.c 7 _ rfl, O2.c 0 _ rfl, O2.c 1 _ rfl⟩
        refine hK _ _ hH ?_
        clear hK
        refine takeH 6 (some 20) (.bool true) rfl rfl (by kernel_rfl) (by kernel_rfl) (by kernel_rfl) (fun _ _ _ h => h) (Or.inl ⟨rfl, fun W hW => by go_simp⟩) hH ?_
        simp only [Act.put, List.setIfInBounds_toArray, List.set_cons_zero, List.set_cons_succ]
        clear hH
        refine wpAnyH_done (by kernel_rfl) ?_ _
        clear kC
        have c_T_0 := T2.c 0 _ rfl
        have f_T_0 := T2.f 0 _ rfl
        have c_T_1 := T2.c 1 _ rfl
        have f_T_1 := T2.f 1 _ rfl
        have c_T_2 := T2.c 2 _ rfl
        have f_T_2 := T2.f 2 _ rfl
        have c_T_3 := T2.c 3 _ rfl
        have f_T_3 := T2.f 3 _ rfl
        have c_T_4 := T2.c 4 _ rfl
        have f_T_4 := T2.f 4 _ rfl
        have c_T_5 := T2.c 5 _ rfl
        have f_T_5 := T2.f 5 _ rfl
        have c_T_6 := T2.c 6 _ rfl
        have f_T_6 := T2.f 6 _ rfl
        have c_T_7 := T2.c 7 _ rfl
        have f_T_7 := T2.f 7 _ rfl
        have c_O_0 := O2.c 0 _ rfl
        have f_O_0 := O2.f 0 _ rfl
        have c_O_1 := O2.c 1 _ rfl
        have f_O_1 := O2.f 1 _ rfl
        obtain ⟨w3, hw3⟩ : ∃ v, v = (w2.setCell ⟨w.heap.size + 1, 0, none⟩ (.bool g3)).setCell ⟨w.heap.size + 1, 1, none⟩ (.slice a3 n3 c3) := ⟨_, rfl⟩
        have tn3 : Tn [w.heap.size + 1] w2 w3 := by rw [hw3]; exact ((tnL w2 (w.heap.size + 1) 0 (.bool g3)).trans (tnL _ (w.heap.size + 1) 1 (.slice a3 n3 c3)))
        have O3 : BoxL w3 w.heap.size (w.heap.size + 1) [.bool g3, .slice a3 n3 c3] := by rw [hw3]; exact ((O2.set 0 (.bool g3) (by simp)).set 1 (.slice a3 n3 c3) (by simp))
        have blo3 := O2.lo
        have B3 := tn3.below B2 B2.size (fun q hq => by simp at hq; omega)
        have R3 := R2.tn tn3 (not_one (by omega))
        have T3 := T2.tn tn3 (not_one (by omega))
        clear B2 R2 O2 T2 tn3 blo3
        subst hw3
        go_wp2
        go_roundw
        case rel => exact ⟨3, g3, a3, n3, c3, by omega, by first | rfl | go_num, O3, by rw [HE.out]; exact r3, R3, T3, B3⟩
        case measure => simp [intOf]
      · have HE := moreY_no hl HL.out
        replace HE : Hid (_ = _) := HE
        have hc := cmpLe hl
        obtain ⟨cv, hcv⟩ : ∃ c, cmpZ z3 lo = c := ⟨_, rfl⟩
        rw [hcv] at kC hc
        obtain ⟨hc1, hc2⟩ := hc
        have hc3 : decide (0 < cv) = false := decide_eq_false (by omega)
        clear hl HL hcv
        go_wp2_with fail
        obtain ⟨w1, hw1⟩ : ∃ v, Hid (v = wr.drew) := ⟨_, rfl⟩
        have bd : Below wr.heap.size wr w1 := by rw [hw1.out]; exact (Below.refl wr.heap.size wr).drew
        have B1 := B0.trans (bd.mono B0.size)
        have R1 := R0.below bd (Nat.le_refl _)
        have O1 := O0.below bd (Nat.le_refl _)
        have T1 := T0.below bd (Nat.le_refl _)
        clear B0 R0 O0 T0 bd
        have hH : (fun W : World => W.cell? ⟨T, 0, none⟩ = some (.bool g0) ∧ W.cell? ⟨T, 1, none⟩ = some (.slice a0 n0 c0) ∧ W.cell? ⟨T, 2, none⟩ = some (.bool g1) ∧ W.cell? ⟨T, 3, none⟩ = some (.slice a1 n1 c1) ∧ W.cell? ⟨T, 4, none⟩ = some (.bool g2) ∧ W.cell? ⟨T, 5, none⟩ = some (.slice a2 n2 c2) ∧ W.cell? ⟨T, 6, none⟩ = some (.bool g3) ∧ W.cell? ⟨T, 7, none⟩ = some (.slice a3 n3 c3) ∧ W.cell? ⟨w.heap.size + 1, 0, none⟩ = some (.bool ug) ∧ W.cell? ⟨w.heap.size + 1, 1, none⟩ = some (.slice ua un uc)) w1 := ⟨T1.c 0 _ rfl, T1.c 1 _ rfl, T1.c 2 _ rfl, T1.c 3 _ rfl, T1.c 4 _ rfl, T1.c 5 _ rfl, T1.c 6 _ rfl, T1.c 7 _ rfl, O1.c 0 _ rfl, O1.c 1 _ rfl⟩
        refine wp_region_held_drew (S := fun W => W.cell? ⟨T, 0, none⟩ = some (.bool g0) ∧ W.cell? ⟨T, 1, none⟩ = some (.slice a0 n0 c0) ∧ W.cell? ⟨T, 2, none⟩ = some (.bool g1) ∧ W.cell? ⟨T, 3, none⟩ = some (.slice a1 n1 c1) ∧ W.cell? ⟨T, 4, none⟩ = some (.bool g2) ∧ W.cell? ⟨T, 5, none⟩ = some (.slice a2 n2 c2) ∧ W.cell? ⟨T, 6, none⟩ = some (.bool g3) ∧ W.cell? ⟨T, 7, none⟩ = some (.slice a3 n3 c3) ∧ W.cell? ⟨w.heap.size + 1, 0, none⟩ = some (.bool ug) ∧ W.cell? ⟨w.heap.size + 1, 1, none⟩ = some (.slice ua un uc)) (by kernel_rfl) (by rw [← hw1.out]; exact hH) ?_
        intro _
        rw [← hw1.out]
        clear hw1
        refine takeH 0 (some 14) (.slice (some ⟨T, 0, none⟩) 4 4) rfl rfl (by kernel_rfl) (by kernel_rfl) (by kernel_rfl) (fun _ _ _ h => h) (Or.inl ⟨rfl, fun W hW => by go_simp⟩) hH ?_
        simp only [Act.put, List.setIfInBounds_toArray, List.set_cons_zero, List.set_cons_succ]
        refine takeH 1 (some 15) (.int .i64 3) rfl rfl (by kernel_rfl) (by kernel_rfl) (by kernel_rfl) (fun _ _ _ h => h) (Or.inl ⟨rfl, fun W hW => by go_simp⟩) hH ?_
        simp only [Act.put, List.setIfInBounds_toArray, List.set_cons_zero, List.set_cons_succ]
        refine takeH 2 (some 16) (.pointer (some ⟨T, 6, none⟩)) rfl rfl (by kernel_rfl) (by kernel_rfl) (by kernel_rfl) (fun _ _ _ h => h) (Or.inl ⟨rfl, fun W hW => by go_simp⟩) hH ?_
        simp only [Act.put, List.setIfInBounds_toArray, List.set_cons_zero, List.set_cons_succ]
        refine takeH 3 (some 17) (.agg #[.bool g3, .slice a3 n3 c3]) rfl rfl (by kernel_rfl) (by kernel_rfl) (by kernel_rfl) (fun _ _ _ h => h) (Or.inl ⟨rfl, fun W hW => by obtain ⟨l0, l1, l2, l3, l4, l5, l6, l7, l8, l9⟩ := hW; go_simp⟩) hH ?_
        simp only [Act.put, List.setIfInBounds_toArray, List.set_cons_zero, List.set_cons_succ]
        refine takeH 4 (some 18) (.agg #[.bool ug, .slice ua un uc]) rfl rfl (by kernel_rfl) (by kernel_rfl) (by kernel_rfl) (fun _ _ _ h => h) (Or.inl ⟨rfl, fun W hW => by obtain ⟨l0, l1, l2, l3, l4, l5, l6, l7, l8, l9⟩ := hW; go_simp⟩) hH ?_
        simp only [Act.put, List.setIfInBounds_toArray, List.set_cons_zero, List.set_cons_succ]
        refine oneH 5 rfl (by kernel_rfl) (fun K' hK => ?_)
        go_simp
        refine (kC _ B1).mono ?_
        rintro e w2 ⟨rfl, bb2⟩
        have B2 := B1.trans (bb2.mono B1.size)
        have R2 := R1.below bb2 (Nat.le_refl _)
        have O2 := O1.below bb2 (Nat.le_refl _)
        have T2 := T1.below bb2 (Nat.le_refl _)
        clear B1 R1 O1 T1 bb2 hH
        have hH : (fun W : World => W.cell? ⟨T, 0, none⟩ = some (.bool g0) ∧ W.cell? ⟨T, 1, none⟩ = some (.slice a0 n0 c0) ∧ W.cell? ⟨T, 2, none⟩ = some (.bool g1) ∧ W.cell? ⟨T, 3, none⟩ = some (.slice a1 n1 c1) ∧ W.cell? ⟨T, 4, none⟩ = some (.bool g2) ∧ W.cell? ⟨T, 5, none⟩ = some (.slice a2 n2 c2) ∧ W.cell? ⟨T, 6, none⟩ = some (.bool g3) ∧ W.cell? ⟨T, 7, none⟩ = some (.slice a3 n3 c3) ∧ W.cell? ⟨w.heap.size + 1, 0, none⟩ = some (.bool ug) ∧ W.cell? ⟨w.heap.size + 1, 1, none⟩ = some (.slice ua un uc)) w2 := ⟨T2.c 0 _ rfl, T2.c 1 _ rfl, T2.c 2 _ rfl, T2.c 3 _ rfl, T2.c 4 _ rfl, T2.c 5 _ rfl, T2.c 6 _ rfl, T2.c 7 _ rfl, O2.c 0 _ rfl, O2.c 1 _ rfl⟩
        refine hK _ _ hH ?_
        clear hK
        refine takeH 6 (some 20) (.bool false) rfl rfl (by kernel_rfl) (by kernel_rfl) (by kernel_rfl) (fun _ _ _ h => h) (Or.inl ⟨rfl, fun W hW => by go_simp⟩) hH ?_
        simp only [Act.put, List.setIfInBounds_toArray, List.set_cons_zero, List.set_cons_succ]
        clear hH
        refine wpAnyH_done (by kernel_rfl) ?_ _
        clear kC
        go_wp2
        go_roundw
        case rel => exact ⟨3, ug, ua, un, uc, by omega, by first | rfl | go_num, O2, by rw [HE.out]; exact ru, R2, T2, B2⟩
        case measure => simp [intOf]
    · replace ru : rowW w (.agg #[.bool ug, .slice ua un uc]) (mkW (moreI (moreI (moreI z0 z1) z2) z3)) := ru
      have c_O_0 := O0.c 0 _ rfl
      have c_O_1 := O0.c 1 _ rfl
      have c_R_0 := R0.c 0 _ rfl
      have f_R_0 := R0.f 0 _ rfl
      have c_R_1 := R0.c 1 _ rfl
      have f_R_1 := R0.f 1 _ rfl
      obtain ⟨w1, hw1⟩ : ∃ v, v = (wr.setCell ⟨w.heap.size, 0, none⟩ (.bool ug)).setCell ⟨w.heap.size, 1, none⟩ (.slice ua un uc) := ⟨_, rfl⟩
      have tn1 : Tn [w.heap.size] wr w1 := by rw [hw1]; exact ((tnL wr w.heap.size 0 (.bool ug)).trans (tnL _ w.heap.size 1 (.slice ua un uc)))
      have R1 : BoxL w1 w.heap.size w.heap.size [.bool ug, .slice ua un uc] := by rw [hw1]; exact ((R0.set 0 (.bool ug) (by simp)).set 1 (.slice ua un uc) (by simp))
      have blo1 := R0.lo
      have B1 := tn1.below B0 B0.size (fun q hq => by simp at hq; omega)
      have O1 := O0.tn tn1 (not_one (by omega))
      have T1 := T0.tn tn1 (not_one (by omega))
      clear B0 R0 O0 T0 tn1 blo1
      subst hw1
      go_wp2
      (try simp only [Exit.inBlock, Exit.then])
      refine bodyPost_ret (v := .agg #[.bool ug, .slice ua un uc]) ?_ rfl ⟨_, rfl, ru, B1⟩
      rw [results_cell1 rfl]
      go_simp

end Go.Proofs.Ytjelmbkngjlefaa
