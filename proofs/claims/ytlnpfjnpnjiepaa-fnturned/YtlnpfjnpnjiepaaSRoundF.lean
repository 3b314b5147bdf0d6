/- The specification's l5Mode and RoundFrac, each by its contract. -/
import Derived.Test.YtlnpfjnpnjiepaaSFrac
import Derived.Test.YtlnpfjnpnjiepaaSW
import Derived.Test.YtlnpfjnpnjiepaaBase
namespace Go.Proofs.Ytlnpfjnpnjiepaa
open Go.RowKit
set_option linter.unusedSimpArgs false

theorem sMode_yes (m : Int) (w : World) (h0 : 0 ≤ m) (h4 : m ≤ 4) : Calls Try.prog 64 #[.int .i64 m] w fun e w' => e = .returned (.bool true) ∧ w' = w := by
  have k := fun W => in_yes m 0 4 W h0 h4
  go_enter Try.func64, Try.ntmps64
  go_wp2_with (go_at_call 53; refine (k _).mono ?_; rintro e w ⟨rfl, rfl⟩)
  go_ret
  exact ⟨rfl, rfl⟩
theorem sMode_no (m : Int) (w : World) (h : ¬ (0 ≤ m ∧ m ≤ 4)) : Calls Try.prog 64 #[.int .i64 m] w fun e w' => e = .returned (.bool false) ∧ w' = w := by
  have k := fun W => in_no m 0 4 W h
  clear h
  go_enter Try.func64, Try.ntmps64
  go_wp2_with (go_at_call 53; refine (k _).mono ?_; rintro e w ⟨rfl, rfl⟩)
  go_ret
  exact ⟨rfl, rfl⟩
theorem okW_val {a : Wh} (h : okW a = true) : a.1 = decide (valW a < 0) ∧ a.2 = limbs (valW a).natAbs := by
  have e := mkW_of h
  constructor
  · rw [e]; simp only [mkW_val]; rfl
  · rw [e]; simp only [mkW_val]; rfl
theorem valW_lenS {a : Wh} (h : okW a = true) : (limbs (valW a).natAbs).length ≤ 48 := by
  rw [← (okW_val h).2]
  exact ((okW_iff a).1 h).1.1

set_option maxRecDepth 20000 in
set_option maxHeartbeats 6400000 in
theorem sRoundFrac (va vb : Value) (a b : Wh) (mode : Int) (w : World) (ha : rowW w va a) (hb : rowW w vb b) (hla : a.2.length ≤ 1048576) (hlb : b.2.length ≤ 1048576) :
    Calls Try.prog 25 #[va, vb, .int .i64 mode] w fun e w' => ∃ v, e = .returned (.tuple #[v, .bool (rfracR a b mode).2]) ∧ ownsW w' w.heap.size v (rfracR a b mode).1 ∧ Below w.heap.size w w' := by
  have kA := fun W (h : Below w.heap.size w W) => sWholeOk va a W (ha.below h (Nat.le_refl _)) hla
  have kB := fun W (h : Below w.heap.size w W) => sWholeOk vb b W (hb.below h (Nat.le_refl _)) hlb
  have kF : okW a = true → okW b = true → 0 < valW b → 0 ≤ mode → mode ≤ 4 → ∀ W, Below w.heap.size w W → Calls Try.prog 65 #[va, vb, .int .i64 mode] W fun e w' => ∃ v, e = .returned v ∧ ownsW w' W.heap.size v (mkW (fracI (valW a) (valW b) mode)) ∧ Below W.heap.size W w' := by
    intro h1 h2 h3 h4 h5 W h
    have l1 := valW_lenS h1
    have l2 := valW_lenS h2
    exact sFrac va vb (valW a) (valW b) mode W (by rw [← mkW_of h1]; exact ha.below h (Nat.le_refl _)) (by rw [← mkW_of h2]; exact hb.below h (Nat.le_refl _)) (by omega) (by omega) h3 h4 h5
  have kf := fun v base W (h : ownsW W base v (mkW (fracI (valW a) (valW b) mode))) => sWFits v (fracI (valW a) (valW b) mode) base W h
  have HX : Hid (¬ (okW a = true ∧ okW b = true ∧ 0 < valW b ∧ 0 ≤ mode ∧ mode ≤ 4) → rfracR a b mode = ((false, []), false)) := fun h => by rw [rfracR, if_neg h]
  have HY : Hid (okW a = true ∧ okW b = true ∧ 0 < valW b ∧ 0 ≤ mode ∧ mode ≤ 4 → rfracR a b mode = fitW (fracI (valW a) (valW b) mode)) := fun h => by rw [rfracR, if_pos h]
  have HV : Hid (okW b = true → b.1 = decide (valW b < 0) ∧ b.2 = limbs (valW b).natAbs) := fun h => okW_val h
  generalize fitW (fracI (valW a) (valW b) mode) = fw at *
  generalize rfracR a b mode = rf at *
  generalize mkW (fracI (valW a) (valW b) mode) = fz at *
  obtain ⟨s, rfl, hs⟩ := ha
  obtain ⟨t, rfl, ht⟩ := hb
  obtain ⟨a1, c1, rfl, -⟩ := hs
  obtain ⟨a2, c2, rfl, -⟩ := ht
  have s1 : (w.alloc (.cells #[.bool a.1, .slice a1 a.2.length c1] 26)).heap.size = w.heap.size + 1 := by simp
  have s2 : ((w.alloc (.cells #[.bool a.1, .slice a1 a.2.length c1] 26)).alloc (.cells #[.bool b.1, .slice a2 b.2.length c2] 26)).heap.size = w.heap.size + 1 + 1 := by simp
  have C0 := (BoxW.made (w.alloc (.cells #[.bool a.1, .slice a1 a.2.length c1] 26)) (.bool b.1) (.slice a2 b.2.length c2) 26).below (below1 _ (.cells #[.bool false, .slice none 0 0] 26)) (Nat.le_refl _)
  rw [s1] at C0
  have A0 := ((BoxW.made w (.bool a.1) (.slice a1 a.2.length c1) 26).below (below1 _ (.cells #[.bool b.1, .slice a2 b.2.length c2] 26)) (Nat.le_refl _)).below (below1 _ (.cells #[.bool false, .slice none 0 0] 26)) (Nat.le_refl _)
  have R0 := BoxW.made ((w.alloc (.cells #[.bool a.1, .slice a1 a.2.length c1] 26)).alloc (.cells #[.bool b.1, .slice a2 b.2.length c2] 26)) (.bool false) (.slice none 0 0) 26
  rw [s2] at R0
  have B0 := below3 w (.cells #[.bool a.1, .slice a1 a.2.length c1] 26) (.cells #[.bool b.1, .slice a2 b.2.length c2] 26) (.cells #[.bool false, .slice none 0 0] 26)
  clear s1 s2
  obtain ⟨oa, hoa⟩ : ∃ x, okW a = x := ⟨_, rfl⟩
  obtain ⟨ob, hob⟩ : ∃ x, okW b = x := ⟨_, rfl⟩
  rw [hoa] at kA kF HX HY
  rw [hob] at kB kF HX HY HV
  clear hoa hob
  cases oa
  · have HR : Hid (rf = ((false, []), false)) := HX.out (by simp)
    clear kF kf HX HY HV kB
    go_enter Try.func25, Try.ntmps25
    go_wp2_with fail
    refine (kA _ B0).mono ?_
    generalize ((w.alloc (.cells #[.bool a.1, .slice a1 a.2.length c1] 26)).alloc (.cells #[.bool b.1, .slice a2 b.2.length c2] 26)).alloc (.cells #[.bool false, .slice none 0 0] 26) = w0 at *
    rintro e w1 ⟨rfl, b1⟩
    have R1 := R0.below b1 (Nat.le_refl _)
    have C1 := C0.below b1 (Nat.le_refl _)
    have A1' := A0.below b1 (Nat.le_refl _)
    have B1 := B0.trans (b1.mono B0.size)
    clear R0 C0 B0 b1 A0
    have y0 := R1.c0
    have y1 := R1.c1
    have yf0 := R1.f0
    have yf1 := R1.f1
    have HB : Hid (Below w.heap.size w ((w1.setCell ⟨w.heap.size + 1 + 1, 0, none⟩ (.bool false)).setCell ⟨w.heap.size + 1 + 1, 1, none⟩ (.slice none 0 0))) := (B1.setCell (p := ⟨w.heap.size + 1 + 1, 0, none⟩) (by show w.heap.size ≤ w.heap.size + 1 + 1; omega) (.bool false)).setCell (p := ⟨w.heap.size + 1 + 1, 1, none⟩) (by show w.heap.size ≤ w.heap.size + 1 + 1; omega) (.slice none 0 0)
    clear R1 B1 C1
    go_wp2
    (try simp only [Exit.inBlock, Exit.then])
    refine bodyPost_ret (v := .tuple #[.agg #[.bool false, .slice none 0 0], .bool false]) ?_ rfl ⟨_, by rw [HR.out], by rw [HR.out]; exact ⟨_, rfl, World.ownsRow_nil _ _ _ _⟩, HB.out⟩
    rw [results_cell_tmp rfl]
    go_simp
  cases ob
  · have HR : Hid (rf = ((false, []), false)) := HX.out (by simp)
    clear kF kf HX HY HV
    go_enter Try.func25, Try.ntmps25
    go_wp2_with fail
    refine (kA _ B0).mono ?_
    generalize ((w.alloc (.cells #[.bool a.1, .slice a1 a.2.length c1] 26)).alloc (.cells #[.bool b.1, .slice a2 b.2.length c2] 26)).alloc (.cells #[.bool false, .slice none 0 0] 26) = w0 at *
    rintro e w1 ⟨rfl, b1⟩
    have R1 := R0.below b1 (Nat.le_refl _)
    have C1 := C0.below b1 (Nat.le_refl _)
    have A1' := A0.below b1 (Nat.le_refl _)
    have B1 := B0.trans (b1.mono B0.size)
    clear R0 C0 B0 b1 A0
    have cb0 := C1.c0
    have cb1 := C1.c1
    go_wp2_with fail
    refine (kB _ B1).mono ?_
    clear cb0 cb1
    rintro e w2 ⟨rfl, b2⟩
    have R2 := R1.below b2 (Nat.le_refl _)
    have C2 := C1.below b2 (Nat.le_refl _)
    have A2' := A1'.below b2 (Nat.le_refl _)
    have ca0 := A2'.c0
    have ca1 := A2'.c1
    have B2 := B1.trans (b2.mono B1.size)
    clear R1 C1 B1 b2 A1'
    have cb0 := C2.c0
    have cb1 := C2.c1
    have y0 := R2.c0
    have y1 := R2.c1
    have yf0 := R2.f0
    have yf1 := R2.f1
    have HB : Hid (Below w.heap.size w ((w2.setCell ⟨w.heap.size + 1 + 1, 0, none⟩ (.bool false)).setCell ⟨w.heap.size + 1 + 1, 1, none⟩ (.slice none 0 0))) := (B2.setCell (p := ⟨w.heap.size + 1 + 1, 0, none⟩) (by show w.heap.size ≤ w.heap.size + 1 + 1; omega) (.bool false)).setCell (p := ⟨w.heap.size + 1 + 1, 1, none⟩) (by show w.heap.size ≤ w.heap.size + 1 + 1; omega) (.slice none 0 0)
    clear R2 B2 C2
    go_wp2
    (try simp only [Exit.inBlock, Exit.then])
    refine bodyPost_ret (v := .tuple #[.agg #[.bool false, .slice none 0 0], .bool false]) ?_ rfl ⟨_, by rw [HR.out], by rw [HR.out]; exact ⟨_, rfl, World.ownsRow_nil _ _ _ _⟩, HB.out⟩
    rw [results_cell_tmp rfl]
    go_simp
  obtain ⟨hv1, hv2⟩ := HV.out rfl
  clear HV
  by_cases hy : valW b < 0
  · have HR : Hid (rf = ((false, []), false)) := HX.out (by simp; omega)
    rw [decide_eq_true hy] at hv1
    have HV1 : Hid (b.1 = true) := hv1
    clear kF kf HX HY hv2 hv1
    go_enter Try.func25, Try.ntmps25
    go_wp2_with fail
    refine (kA _ B0).mono ?_
    generalize ((w.alloc (.cells #[.bool a.1, .slice a1 a.2.length c1] 26)).alloc (.cells #[.bool b.1, .slice a2 b.2.length c2] 26)).alloc (.cells #[.bool false, .slice none 0 0] 26) = w0 at *
    rintro e w1 ⟨rfl, b1⟩
    have R1 := R0.below b1 (Nat.le_refl _)
    have C1 := C0.below b1 (Nat.le_refl _)
    have A1' := A0.below b1 (Nat.le_refl _)
    have B1 := B0.trans (b1.mono B0.size)
    clear R0 C0 B0 b1 A0
    have cb0 := C1.c0
    have cb1 := C1.c1
    go_wp2_with fail
    refine (kB _ B1).mono ?_
    clear cb0 cb1
    rintro e w2 ⟨rfl, b2⟩
    have R2 := R1.below b2 (Nat.le_refl _)
    have C2 := C1.below b2 (Nat.le_refl _)
    have A2' := A1'.below b2 (Nat.le_refl _)
    have ca0 := A2'.c0
    have ca1 := A2'.c1
    have B2 := B1.trans (b2.mono B1.size)
    clear R1 C1 B1 b2 A1'
    have cb0 := C2.c0
    have cb1 := C2.c1
    rw [HV1.out] at cb0
    have y0 := R2.c0
    have y1 := R2.c1
    have yf0 := R2.f0
    have yf1 := R2.f1
    have HB : Hid (Below w.heap.size w ((w2.setCell ⟨w.heap.size + 1 + 1, 0, none⟩ (.bool false)).setCell ⟨w.heap.size + 1 + 1, 1, none⟩ (.slice none 0 0))) := (B2.setCell (p := ⟨w.heap.size + 1 + 1, 0, none⟩) (by show w.heap.size ≤ w.heap.size + 1 + 1; omega) (.bool false)).setCell (p := ⟨w.heap.size + 1 + 1, 1, none⟩) (by show w.heap.size ≤ w.heap.size + 1 + 1; omega) (.slice none 0 0)
    clear R2 B2 C2
    go_wp2
    (try simp only [Exit.inBlock, Exit.then])
    refine bodyPost_ret (v := .tuple #[.agg #[.bool false, .slice none 0 0], .bool false]) ?_ rfl ⟨_, by rw [HR.out], by rw [HR.out]; exact ⟨_, rfl, World.ownsRow_nil _ _ _ _⟩, HB.out⟩
    rw [results_cell_tmp rfl]
    go_simp
  by_cases hy0 : valW b = 0
  · have HR : Hid (rf = ((false, []), false)) := HX.out (by simp; omega)
    rw [decide_eq_false hy] at hv1
    have HV1 : Hid (b.1 = false) := hv1
    have HL0 : Hid (b.2.length = 0) := by show _ = _; rw [hv2, hy0]; show (limbs 0).length = 0; rw [limbs_zero]; rfl
    clear kF kf HX HY hv2 hv1
    go_enter Try.func25, Try.ntmps25
    go_wp2_with fail
    refine (kA _ B0).mono ?_
    generalize ((w.alloc (.cells #[.bool a.1, .slice a1 a.2.length c1] 26)).alloc (.cells #[.bool b.1, .slice a2 b.2.length c2] 26)).alloc (.cells #[.bool false, .slice none 0 0] 26) = w0 at *
    rintro e w1 ⟨rfl, b1⟩
    have R1 := R0.below b1 (Nat.le_refl _)
    have C1 := C0.below b1 (Nat.le_refl _)
    have A1' := A0.below b1 (Nat.le_refl _)
    have B1 := B0.trans (b1.mono B0.size)
    clear R0 C0 B0 b1 A0
    have cb0 := C1.c0
    have cb1 := C1.c1
    go_wp2_with fail
    refine (kB _ B1).mono ?_
    clear cb0 cb1
    rintro e w2 ⟨rfl, b2⟩
    have R2 := R1.below b2 (Nat.le_refl _)
    have C2 := C1.below b2 (Nat.le_refl _)
    have A2' := A1'.below b2 (Nat.le_refl _)
    have ca0 := A2'.c0
    have ca1 := A2'.c1
    have B2 := B1.trans (b2.mono B1.size)
    clear R1 C1 B1 b2 A1'
    have cb0 := C2.c0
    have cb1 := C2.c1
    rw [HV1.out] at cb0
    rw [HL0.out] at cb1
    have y0 := R2.c0
    have y1 := R2.c1
    have yf0 := R2.f0
    have yf1 := R2.f1
    have HB : Hid (Below w.heap.size w ((w2.setCell ⟨w.heap.size + 1 + 1, 0, none⟩ (.bool false)).setCell ⟨w.heap.size + 1 + 1, 1, none⟩ (.slice none 0 0))) := (B2.setCell (p := ⟨w.heap.size + 1 + 1, 0, none⟩) (by show w.heap.size ≤ w.heap.size + 1 + 1; omega) (.bool false)).setCell (p := ⟨w.heap.size + 1 + 1, 1, none⟩) (by show w.heap.size ≤ w.heap.size + 1 + 1; omega) (.slice none 0 0)
    clear R2 B2 C2
    go_wp2
    (try simp only [Exit.inBlock, Exit.then])
    refine bodyPost_ret (v := .tuple #[.agg #[.bool false, .slice none 0 0], .bool false]) ?_ rfl ⟨_, by rw [HR.out], by rw [HR.out]; exact ⟨_, rfl, World.ownsRow_nil _ _ _ _⟩, HB.out⟩
    rw [results_cell_tmp rfl]
    go_simp
  have hl0 : 0 < b.2.length := by rw [hv2, limbs_pos _ (by omega)]; simp
  have hl1 : ((b.2.length : Int) == 0) = false := by rw [beq_eq_false_iff_ne]; omega
  have hl2 : ¬ ((b.2.length : Int) = 0) := by omega
  rw [decide_eq_false hy] at hv1
  have HV1 : Hid (b.1 = false) := hv1
  clear hv1
  by_cases hm : 0 ≤ mode ∧ mode ≤ 4
  · have kM := fun W => sMode_yes mode W hm.1 hm.2
    have HR : Hid (rf = fw) := HY.out ⟨rfl, rfl, by omega, hm.1, hm.2⟩
    have kG := kF rfl rfl (by omega) hm.1 hm.2
    clear kF HX HY hv2 hm
    go_enter Try.func25, Try.ntmps25
    go_wp2_with fail
    refine (kA _ B0).mono ?_
    generalize ((w.alloc (.cells #[.bool a.1, .slice a1 a.2.length c1] 26)).alloc (.cells #[.bool b.1, .slice a2 b.2.length c2] 26)).alloc (.cells #[.bool false, .slice none 0 0] 26) = w0 at *
    rintro e w1 ⟨rfl, b1⟩
    have R1 := R0.below b1 (Nat.le_refl _)
    have C1 := C0.below b1 (Nat.le_refl _)
    have A1' := A0.below b1 (Nat.le_refl _)
    have B1 := B0.trans (b1.mono B0.size)
    clear R0 C0 B0 b1 A0
    have cb0 := C1.c0
    have cb1 := C1.c1
    go_wp2_with fail
    refine (kB _ B1).mono ?_
    clear cb0 cb1
    rintro e w2 ⟨rfl, b2⟩
    have R2 := R1.below b2 (Nat.le_refl _)
    have C2 := C1.below b2 (Nat.le_refl _)
    have A2' := A1'.below b2 (Nat.le_refl _)
    have ca0 := A2'.c0
    have ca1 := A2'.c1
    have B2 := B1.trans (b2.mono B1.size)
    clear R1 C1 B1 b2 A1'
    have cb0 := C2.c0
    have cb1 := C2.c1
    rw [HV1.out] at cb0
    simp only [HV1.out] at kG
    go_wp2_with (first | (go_at_call 64; refine (kM _).mono ?_; rintro e w2 ⟨rfl, rfl⟩))
    refine (kG _ B2).mono ?_
    rintro e w6 ⟨v6, rfl, o6, b6⟩
    have B6 := B2.trans (b6.mono B2.size)
    have R6 := R2.below b6 (Nat.le_refl _)
    go_wp2_with fail
    refine (kf _ _ _ o6).mono ?_
    rintro e w7 ⟨v7, rfl, o7, b7⟩
    have B7 := B6.trans (b7.mono B6.size)
    have R7 := R6.below b7 (Nat.le_refl _)
    obtain ⟨⟨g3, l3⟩, ok3⟩ := fw
    obtain ⟨s3, rfl, q3⟩ := o7
    obtain ⟨ad3, cap3, rfl, -⟩ := q3.row
    have hR := R2.hi
    have d0 := R7.c0
    have d1 := R7.c1
    have f0 := R7.f0
    have f1 := R7.f1
    have o8 := ownsRow_setCell_below (a := ⟨w.heap.size + 1 + 1, 0, none⟩) q3 (by exact hR) (.bool g3)
    have o9 := ownsRow_setCell_below (a := ⟨w.heap.size + 1 + 1, 1, none⟩) o8 (by exact hR) (.slice ad3 l3.length cap3)
    have HO : Hid (World.ownsRow _ w.heap.size 3 1 (.slice ad3 l3.length cap3) l3.length (l3.map (Value.int .i64))) := ownsRow_mono o9 B2.size
    have HB : Hid (Below w.heap.size w _) := (B7.setCell (p := ⟨w.heap.size + 1 + 1, 0, none⟩) (by show w.heap.size ≤ w.heap.size + 1 + 1; omega) (.bool g3)).setCell (p := ⟨w.heap.size + 1 + 1, 1, none⟩) (by show w.heap.size ≤ w.heap.size + 1 + 1; omega) (.slice ad3 l3.length cap3)
    clear o8 o9 q3 R6 R7 B6 B7 b6 b7
    go_wp2
    (try simp only [Exit.inBlock, Exit.then])
    refine bodyPost_ret (v := .tuple #[.agg #[.bool g3, .slice ad3 l3.length cap3], .bool ok3]) ?_ rfl ⟨_, by rw [HR.out], by rw [HR.out]; exact ⟨_, rfl, HO.out⟩, HB.out⟩
    rw [results_cell_tmp rfl]
    go_simp
  · have kM := fun W => sMode_no mode W hm
    have HR : Hid (rf = ((false, []), false)) := HX.out (fun h => hm h.2.2.2)
    clear kF kf HX HY hv2 hm
    go_enter Try.func25, Try.ntmps25
    go_wp2_with fail
    refine (kA _ B0).mono ?_
    generalize ((w.alloc (.cells #[.bool a.1, .slice a1 a.2.length c1] 26)).alloc (.cells #[.bool b.1, .slice a2 b.2.length c2] 26)).alloc (.cells #[.bool false, .slice none 0 0] 26) = w0 at *
    rintro e w1 ⟨rfl, b1⟩
    have R1 := R0.below b1 (Nat.le_refl _)
    have C1 := C0.below b1 (Nat.le_refl _)
    have A1' := A0.below b1 (Nat.le_refl _)
    have B1 := B0.trans (b1.mono B0.size)
    clear R0 C0 B0 b1 A0
    have cb0 := C1.c0
    have cb1 := C1.c1
    go_wp2_with fail
    refine (kB _ B1).mono ?_
    clear cb0 cb1
    rintro e w2 ⟨rfl, b2⟩
    have R2 := R1.below b2 (Nat.le_refl _)
    have C2 := C1.below b2 (Nat.le_refl _)
    have A2' := A1'.below b2 (Nat.le_refl _)
    have ca0 := A2'.c0
    have ca1 := A2'.c1
    have B2 := B1.trans (b2.mono B1.size)
    clear R1 C1 B1 b2 A1'
    have cb0 := C2.c0
    have cb1 := C2.c1
    rw [HV1.out] at cb0
    have y0 := R2.c0
    have y1 := R2.c1
    have yf0 := R2.f0
    have yf1 := R2.f1
    have HB : Hid (Below w.heap.size w ((w2.setCell ⟨w.heap.size + 1 + 1, 0, none⟩ (.bool false)).setCell ⟨w.heap.size + 1 + 1, 1, none⟩ (.slice none 0 0))) := (B2.setCell (p := ⟨w.heap.size + 1 + 1, 0, none⟩) (by show w.heap.size ≤ w.heap.size + 1 + 1; omega) (.bool false)).setCell (p := ⟨w.heap.size + 1 + 1, 1, none⟩) (by show w.heap.size ≤ w.heap.size + 1 + 1; omega) (.slice none 0 0)
    clear R2 B2 C2
    go_wp2_with (first | (go_at_call 64; refine (kM _).mono ?_; rintro e w2 ⟨rfl, rfl⟩))
    (try simp only [Exit.inBlock, Exit.then])
    refine bodyPost_ret (v := .tuple #[.agg #[.bool false, .slice none 0 0], .bool false]) ?_ rfl ⟨_, by rw [HR.out], by rw [HR.out]; exact ⟨_, rfl, World.ownsRow_nil _ _ _ _⟩, HB.out⟩
    rw [results_cell_tmp rfl]
    go_simp

end Go.Proofs.Ytlnpfjnpnjiepaa
