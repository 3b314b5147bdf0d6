/- The program's WholeShift, by its contract. -/
import Derived.Test.YtlpfjpbnedankaaSgB
namespace Go.Proofs.Ytlpfjpbnedankaa
open Go.RowKit

/-- shifted: the floor of a number times 2^k. -/
theorem sgShift (a : Nat) (x k : Int) (w : World) (ha : SG w a x) (hl : (limbs x.natAbs).length ≤ 48) (h1 : -1152 ≤ k) (h2 : k ≤ 1152) :
    Calls Try.prog 34 #[.pointer (some ⟨a, 0, none⟩), .int .i64 k] w fun e w' => ∃ c, e = .returned (.pointer (some ⟨c, 0, none⟩)) ∧ w.heap.size ≤ c ∧ SG w' c (scaleI x k) ∧ Below w.heap.size w w' := by
  unfold scaleI
  by_cases hk : 0 ≤ k
  · obtain ⟨j, rfl⟩ : ∃ j : Nat, k = (j : Int) := ⟨k.toNat, by omega⟩
    rw [if_pos hk, Int.toNat_natCast]
    exact sgUp a x j w ha (by omega) (by omega)
  · obtain ⟨j, hj⟩ : ∃ j : Nat, -k = (j : Int) := ⟨(-k).toNat, by omega⟩
    rw [if_neg hk, hj, Int.toNat_natCast]
    exact sgDown a x k j w ha hj (by omega) (by omega) (by omega)

set_option maxRecDepth 20000 in
set_option maxHeartbeats 3200000 in
theorem iWholeShift (va : Value) (a : Wh) (k : Int) (w : World) (ha : rowW w va a) (hla : a.2.length ≤ 1048576) :
    Calls Try.prog 13 #[va, .int .i64 k] w fun e w' => ∃ v, e = .returned (.tuple #[v, .bool (wshiftR a k).2]) ∧ ownsW w' w.heap.size v (wshiftR a k).1 ∧ Below w.heap.size w w' := by
  by_cases hok : okW a = true
  · have kF := fun W (h : Below w.heap.size w W) => sFromYes va a W (ha.below h (Nat.le_refl _)) hla hok
    have l1 : (limbs (valW a).natAbs).length ≤ 48 := by
      have h3 := ((okW_iff a).1 hok).1.1
      have : (mkW (valW a)).2.length ≤ 48 := by rw [← mkW_of hok]; exact h3
      exact this
    by_cases hk : -1152 ≤ k ∧ k ≤ 1152
    · have kS := fun b W h => sgShift b (valW a) k W h l1 hk.1 hk.2
      have kW := fun b' W h => sWhole b' (scaleI (valW a) k) W h
      have HR : Hid (wshiftR a k = fitW (scaleI (valW a) k)) := by show _ = _; unfold wshiftR; rw [if_pos ⟨hok, hk⟩]
      have q1 : decide (k < -1152) = false := decide_eq_false (by omega)
      have q2 : decide ((1152 : Int) < k) = false := decide_eq_false (by omega)
      obtain ⟨rr, hr⟩ : ∃ r, wshiftR a k = r := ⟨_, rfl⟩
      rw [hr] at HR
      rw [hr]
      clear hok hr l1 hk
      generalize fitW (scaleI (valW a) k) = fw at *
      generalize scaleI (valW a) k = z at *
      generalize valW a = x at *
      obtain ⟨s, rfl, hs⟩ := ha
      obtain ⟨ad, cap, rfl, -⟩ := id hs
      generalize a.1 = g at *
      generalize a.2.length = len at *
      have B0 := below2 w (.cells #[.bool g, .slice ad len cap] 27) (.cells #[.bool false, .slice none 0 0] 27)
      have s2 : (w.alloc (.cells #[.bool g, .slice ad len cap] 27)).heap.size = w.heap.size + 1 := by simp
      have R0 := BoxW.made (w.alloc (.cells #[.bool g, .slice ad len cap] 27)) (.bool false) (.slice none 0 0) 27
      rw [s2] at R0
      clear s2 hs
      go_enter Try.func13, Try.ntmps13
      go_wp2_with fail
      refine (kF _ B0).mono ?_
      generalize (w.alloc (.cells #[.bool g, .slice ad len cap] 27)).alloc (.cells #[.bool false, .slice none 0 0] 27) = w0 at *
      rintro e w1 ⟨b, rfl, hb, sb, b1⟩
      have R1 := R0.below b1 (Nat.le_refl _)
      have B1 := B0.trans (b1.mono B0.size)
      go_wp2_with fail
      refine (kS b w1 sb).mono ?_
      rintro e w2 ⟨c, rfl, hc, sc, b2⟩
      have R2 := R1.below b2 (Nat.le_refl _)
      have B2 := B1.trans (b2.mono B1.size)
      go_wp2_with fail
      refine (kW c w2 sc).mono ?_
      rintro e w3 ⟨v3, rfl, o3, b3⟩
      have R3 := R2.below b3 (Nat.le_refl _)
      have B3 := B2.trans (b3.mono B2.size)
      obtain ⟨⟨g3, l3⟩, ok3⟩ := fw
      obtain ⟨s3, rfl, q3⟩ := o3
      obtain ⟨ad3, cap3, rfl, -⟩ := q3.row
      have hR := R2.hi
      have d0 := R3.c0
      have d1 := R3.c1
      have f0 := R3.f0
      have f1 := R3.f1
      have o6 := ownsRow_setCell_below (a := ⟨w.heap.size + 1, 0, none⟩) q3 (by exact hR) (.bool g3)
      have o7 := ownsRow_setCell_below (a := ⟨w.heap.size + 1, 1, none⟩) o6 (by exact hR) (.slice ad3 l3.length cap3)
      have HO : Hid (World.ownsRow _ w.heap.size 3 1 (.slice ad3 l3.length cap3) l3.length (l3.map (Value.int .i64))) := ownsRow_mono o7 B2.size
      have HB : Hid (Below w.heap.size w _) := (B3.setCell (p := ⟨w.heap.size + 1, 0, none⟩) (by show w.heap.size ≤ w.heap.size + 1; omega) (.bool g3)).setCell (p := ⟨w.heap.size + 1, 1, none⟩) (by show w.heap.size ≤ w.heap.size + 1; omega) (.slice ad3 l3.length cap3)
      clear o6 o7 R0 R1 R2 R3 B0 B1 B2 B3 b1 b2 b3 kF kS kW sb sc q3
      go_wp2
      (try simp only [Exit.inBlock, Exit.then])
      refine bodyPost_ret (v := .tuple #[.agg #[.bool g3, .slice ad3 l3.length cap3], .bool ok3]) ?_ rfl ⟨_, by rw [HR.out], by rw [HR.out]; exact ⟨_, rfl, HO.out⟩, HB.out⟩
      rw [results_cell_tmp rfl]
      go_simp
    · have HR : Hid (wshiftR a k = ((false, []), false)) := by show _ = _; unfold wshiftR; rw [if_neg (fun q => hk q.2)]
      obtain ⟨rr, hr⟩ : ∃ r, wshiftR a k = r := ⟨_, rfl⟩
      rw [hr] at HR
      rw [hr]
      by_cases hk1 : k < -1152
      · have q1 : decide (k < -1152) = true := decide_eq_true hk1
        clear hok hr l1 hk
        obtain ⟨s, rfl, hs⟩ := ha
        obtain ⟨ad, cap, rfl, -⟩ := id hs
        generalize a.1 = g at *
        generalize a.2.length = len at *
        have B0 := below2 w (.cells #[.bool g, .slice ad len cap] 27) (.cells #[.bool false, .slice none 0 0] 27)
        have s2 : (w.alloc (.cells #[.bool g, .slice ad len cap] 27)).heap.size = w.heap.size + 1 := by simp
        have R0 := BoxW.made (w.alloc (.cells #[.bool g, .slice ad len cap] 27)) (.bool false) (.slice none 0 0) 27
        rw [s2] at R0
        clear s2 hs
        go_enter Try.func13, Try.ntmps13
        go_wp2_with fail
        refine (kF _ B0).mono ?_
        generalize (w.alloc (.cells #[.bool g, .slice ad len cap] 27)).alloc (.cells #[.bool false, .slice none 0 0] 27) = w0 at *
        rintro e w1 ⟨b, rfl, hb, sb, b1⟩
        have R1 := R0.below b1 (Nat.le_refl _)
        have B1 := B0.trans (b1.mono B0.size)
        have c0 := R1.c0
        have c1' := R1.c1
        have f0 := R1.f0
        have f1 := R1.f1
        have HB : Hid (Below w.heap.size w ((w1.setCell ⟨w.heap.size + 1, 0, none⟩ (.bool false)).setCell ⟨w.heap.size + 1, 1, none⟩ (.slice none 0 0))) := (B1.setCell (p := ⟨w.heap.size + 1, 0, none⟩) (by show w.heap.size ≤ w.heap.size + 1; omega) (.bool false)).setCell (p := ⟨w.heap.size + 1, 1, none⟩) (by show w.heap.size ≤ w.heap.size + 1; omega) (.slice none 0 0)
        clear R0 B0 b1 R1 B1 kF
        go_wp2
        (try simp only [Exit.inBlock, Exit.then])
        refine bodyPost_ret (v := .tuple #[.agg #[.bool false, .slice none 0 0], .bool false]) ?_ rfl ⟨_, by rw [HR.out], by rw [HR.out]; exact ⟨_, rfl, World.ownsRow_nil _ _ _ _⟩, HB.out⟩
        rw [results_cell_tmp rfl]
        go_simp
      · have q1 : decide (k < -1152) = false := decide_eq_false hk1
        have q2 : decide ((1152 : Int) < k) = true := decide_eq_true (by omega)
        have hk2 : (1152 : Int) < k := by omega
        clear hok hr l1 hk
        obtain ⟨s, rfl, hs⟩ := ha
        obtain ⟨ad, cap, rfl, -⟩ := id hs
        generalize a.1 = g at *
        generalize a.2.length = len at *
        have B0 := below2 w (.cells #[.bool g, .slice ad len cap] 27) (.cells #[.bool false, .slice none 0 0] 27)
        have s2 : (w.alloc (.cells #[.bool g, .slice ad len cap] 27)).heap.size = w.heap.size + 1 := by simp
        have R0 := BoxW.made (w.alloc (.cells #[.bool g, .slice ad len cap] 27)) (.bool false) (.slice none 0 0) 27
        rw [s2] at R0
        clear s2 hs
        go_enter Try.func13, Try.ntmps13
        go_wp2_with fail
        refine (kF _ B0).mono ?_
        generalize (w.alloc (.cells #[.bool g, .slice ad len cap] 27)).alloc (.cells #[.bool false, .slice none 0 0] 27) = w0 at *
        rintro e w1 ⟨b, rfl, hb, sb, b1⟩
        have R1 := R0.below b1 (Nat.le_refl _)
        have B1 := B0.trans (b1.mono B0.size)
        have c0 := R1.c0
        have c1' := R1.c1
        have f0 := R1.f0
        have f1 := R1.f1
        have HB : Hid (Below w.heap.size w ((w1.setCell ⟨w.heap.size + 1, 0, none⟩ (.bool false)).setCell ⟨w.heap.size + 1, 1, none⟩ (.slice none 0 0))) := (B1.setCell (p := ⟨w.heap.size + 1, 0, none⟩) (by show w.heap.size ≤ w.heap.size + 1; omega) (.bool false)).setCell (p := ⟨w.heap.size + 1, 1, none⟩) (by show w.heap.size ≤ w.heap.size + 1; omega) (.slice none 0 0)
        clear R0 B0 b1 R1 B1 kF
        go_wp2
        (try simp only [Exit.inBlock, Exit.then])
        refine bodyPost_ret (v := .tuple #[.agg #[.bool false, .slice none 0 0], .bool false]) ?_ rfl ⟨_, by rw [HR.out], by rw [HR.out]; exact ⟨_, rfl, World.ownsRow_nil _ _ _ _⟩, HB.out⟩
        rw [results_cell_tmp rfl]
        go_simp
  · have hf : okW a = false := by simpa using hok
    have kF := fun W (h : Below w.heap.size w W) => sFromNo va a W (ha.below h (Nat.le_refl _)) hla hf
    have HR : Hid (wshiftR a k = ((false, []), false)) := by show _ = _; unfold wshiftR; rw [if_neg (fun q => hok q.1)]
    obtain ⟨rr, hr⟩ : ∃ r, wshiftR a k = r := ⟨_, rfl⟩
    rw [hr] at HR
    rw [hr]
    clear hok hf hr
    obtain ⟨s, rfl, hs⟩ := ha
    obtain ⟨ad, cap, rfl, -⟩ := id hs
    generalize a.1 = g at *
    generalize a.2.length = len at *
    have B0 := below2 w (.cells #[.bool g, .slice ad len cap] 27) (.cells #[.bool false, .slice none 0 0] 27)
    have s2 : (w.alloc (.cells #[.bool g, .slice ad len cap] 27)).heap.size = w.heap.size + 1 := by simp
    have R0 := BoxW.made (w.alloc (.cells #[.bool g, .slice ad len cap] 27)) (.bool false) (.slice none 0 0) 27
    rw [s2] at R0
    clear s2 hs
    go_enter Try.func13, Try.ntmps13
    go_wp2_with fail
    refine (kF _ B0).mono ?_
    generalize (w.alloc (.cells #[.bool g, .slice ad len cap] 27)).alloc (.cells #[.bool false, .slice none 0 0] 27) = w0 at *
    rintro e w1 ⟨rfl, b1⟩
    have R1 := R0.below b1 (Nat.le_refl _)
    have B1 := B0.trans (b1.mono B0.size)
    have c0 := R1.c0
    have c1' := R1.c1
    have f0 := R1.f0
    have f1 := R1.f1
    have HB : Hid (Below w.heap.size w ((w1.setCell ⟨w.heap.size + 1, 0, none⟩ (.bool false)).setCell ⟨w.heap.size + 1, 1, none⟩ (.slice none 0 0))) := (B1.setCell (p := ⟨w.heap.size + 1, 0, none⟩) (by show w.heap.size ≤ w.heap.size + 1; omega) (.bool false)).setCell (p := ⟨w.heap.size + 1, 1, none⟩) (by show w.heap.size ≤ w.heap.size + 1; omega) (.slice none 0 0)
    clear R0 B0 b1 R1 B1 kF
    go_wp2
    (try simp only [Exit.inBlock, Exit.then])
    refine bodyPost_ret (v := .tuple #[.agg #[.bool false, .slice none 0 0], .bool false]) ?_ rfl ⟨_, by rw [HR.out], by rw [HR.out]; exact ⟨_, rfl, World.ownsRow_nil _ _ _ _⟩, HB.out⟩
    rw [results_cell_tmp rfl]
    go_simp

end Go.Proofs.Ytlpfjpbnedankaa
