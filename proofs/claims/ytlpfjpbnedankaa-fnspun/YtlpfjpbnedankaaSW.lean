/- Several small texts in one: SMake, SWholeOf. -/
import Derived.Test.YtlpfjpbnedankaaBase
import Derived.Test.YtlpfjpbnedankaaGB
/- The specification's l4Make, by its contract. -/
namespace Go.Proofs.Ytlpfjpbnedankaa
open Go.RowKit

theorem mkW_sign (neg : Bool) (m : Nat) : mkW (if neg = true then -(m : Int) else (m : Int)) = (neg && decide (0 < m), limbs m) := by
  unfold mkW
  cases neg <;> simp

set_option maxHeartbeats 1600000 in
theorem sMake (neg : Bool) (s : Value) (m : Nat) (base : Nat) (w : World) (h : ownsI w base s (limbs m)) (hl : (limbs m).length ≤ 1073741824) :
    Calls Try.prog 83 #[.bool neg, s] w fun e w' => ∃ v, e = .returned v ∧ ownsW w' base v (mkW (if neg = true then -(m : Int) else (m : Int))) ∧ Below w.heap.size w w' := by
  obtain ⟨ad, cap, rfl, -⟩ := h.row
  have hm : decide ((0 : Int) < ((limbs m).length : Int)) = decide (0 < m) := by
    by_cases h0 : m = 0
    · subst h0; rw [limbs_zero]; rfl
    · have : 0 < (limbs m).length := by rw [limbs_pos m (by omega)]; simp
      simp; omega
  have hm' : decide (0 < (limbs m).length) = decide (0 < m) := by rw [← hm]; simp
  have H0 : Hid (mkW (m : Int) = (false, limbs m)) := by show _ = _; have := mkW_sign false m; simpa using this
  have H1 : Hid (mkW (-(m : Int)) = (decide (0 < (limbs m).length), limbs m)) := by
    show _ = _
    have := mkW_sign true m
    rw [hm']
    simpa using this
  have HO : Hid (ownsI w base (.slice ad (limbs m).length cap) (limbs m)) := h
  clear h hm hm'
  cases neg
  · go_enter Try.func83, Try.ntmps83
    go_wp2
    (try simp only [Exit.inBlock, Exit.then])
    refine bodyPost_ret (v := .agg #[.bool false, .slice ad (limbs m).length cap]) ?_ rfl ⟨_, rfl, ?_, below1 _ _⟩
    · rw [results_cell1 rfl]
      go_simp
    · rw [H0.out]
      exact ⟨_, rfl, World.ownsRow.alloc HO.out _⟩
  · go_enter Try.func83, Try.ntmps83
    go_wp2
    (try simp only [Exit.inBlock, Exit.then])
    refine bodyPost_ret (v := .agg #[.bool (decide (0 < (limbs m).length)), .slice ad (limbs m).length cap]) ?_ rfl ⟨_, rfl, ?_, below1 _ _⟩
    · rw [results_cell1 rfl]
      go_simp
    · rw [H1.out]
      exact ⟨_, rfl, World.ownsRow.alloc HO.out _⟩

end Go.Proofs.Ytlpfjpbnedankaa

/- The specification's WholeOf, by its contract. -/
namespace Go.Proofs.Ytlpfjpbnedankaa
open Go.RowKit

set_option maxRecDepth 20000 in
set_option maxHeartbeats 800000 in
theorem sWholeOf (n : Int) (w : World) (h0 : -9223372036854775808 ≤ n) (h1 : n ≤ 9223372036854775807) :
    Calls Try.prog 52 #[.int .i64 n] w fun e w' => ∃ v, e = .returned v ∧ ownsW w' w.heap.size v (wofR n) ∧ Below w.heap.size w w' := by
  have l3 := limbs_len3 (n := n.natAbs) (by omega)
  have B0 := below1 w (.cells #[.bool false, .slice none 0 0] 27)
  have XA := BoxW.made w (.bool false) (.slice none 0 0) 27
  have hs0 : (w.alloc (.cells #[.bool false, .slice none 0 0] 27)).heap.size = w.heap.size + 1 := by simp
  have O0 := made_own (w.alloc (.cells #[.bool false, .slice none 0 0] 27))
  have BA := below1 (w.alloc (.cells #[.bool false, .slice none 0 0] 27)) (.cells #[] 3)
  rw [hs0] at O0 BA
  obtain ⟨r, hr⟩ : ∃ r, wofR n = r := ⟨_, rfl⟩
  rw [hr]
  by_cases hn : n < 0
  · obtain ⟨M, rfl⟩ : ∃ m : Nat, n = -(m : Int) := ⟨n.natAbs, by omega⟩
    have HR : Hid (r = mkW (-(M : Int))) := hr.symm
    have hM0 : decide (0 < M) = true := decide_eq_true (by omega)
    have hM1 : decide (-(M : Int) < 0) = true := decide_eq_true hn
    rw [Int.natAbs_neg, Int.natAbs_natCast] at l3
    clear hr
    go_enter Try.func52, Try.ntmps52
    go_wp2
    generalize hWA : w.alloc (.cells #[.bool false, .slice none 0 0] 27) = wA at *
    have HWA : Hid (w.alloc (.cells #[.bool false, .slice none 0 0] 27) = wA) := hWA
    clear hWA
    go_loopw [0, 3] (fun nv v wr => ∃ (m : Nat) (done : List Int) (vv : Value), v = vv ∧ nv = .int .i64 (-(m : Int)) ∧ m ≤ 9223372036854775808 ∧ True ∧ done.length ≤ 3 ∧ Hid (limbs M = done ++ limbs m) ∧ ownsI wr (w.heap.size + 1) vv done ∧ Below (w.heap.size + 1) wA wr) (fun nv _ _ => (intOf nv).natAbs)
    case atStart => exact ⟨M, [], _, rfl, rfl, by omega, trivial, by simp, by show _ = _; simp, O0, BA⟩
    case round =>
      clear O0 BA
      obtain ⟨m, done, vv, rfl, rfl, hm, hm2, hd, HL, hown, hbw⟩ := hrel
      have hsz := hbw.size
      by_cases h0 : m = 0
      · subst h0
        have e1 : limbs M = done := by have := HL.out; rw [limbs_zero, List.append_nil] at this; exact this
        have hown' := hown
        rw [← e1] at hown'
        have kM := sMake true _ M (w.heap.size + 1) wr hown' (by omega)
        have X1 : BoxW wr w.heap.size w.heap.size (.bool false) (.slice none 0 0) := by
          have hk := hbw.block w.heap.size (by omega)
          exact ⟨XA.lo, by omega, (World.cell?_of_block (w := wA) (a := ⟨w.heap.size, 0, none⟩) hk).trans XA.c0, (World.cell?_of_block (w := wA) (a := ⟨w.heap.size, 1, none⟩) hk).trans XA.c1, (World.frozen?_of_block (w := wA) (a := ⟨w.heap.size, 0, none⟩) hk).trans XA.f0, (World.frozen?_of_block (w := wA) (a := ⟨w.heap.size, 1, none⟩) hk).trans XA.f1⟩
        have B1 : Below w.heap.size w wr := B0.trans (hbw.mono (by omega))
        obtain ⟨ad, cap, rfl, -⟩ := hown'.row
        have HLM : Hid ((limbs M).length = done.length) := by show _ = _; rw [e1]
        clear HL e1 hown hown' hbw
        go_wp2_with fail
        refine kM.mono ?_
        rintro e w3 ⟨v3, rfl, o3, b3⟩
        have X3 := X1.below b3 (Nat.le_refl _)
        have B3 := B1.trans (b3.mono B1.size)
        have ho3 : ownsW w3 (w.heap.size + 1) v3 r := by
          rw [HR.out]
          simpa using o3
        obtain ⟨g3, l3⟩ := r
        obtain ⟨s3, rfl, q3⟩ := ho3
        obtain ⟨ad3, cap3, rfl, -⟩ := q3.row
        have HO : Hid (w3.ownsRow (w.heap.size + 1) 3 1 (.slice ad3 l3.length cap3) l3.length (l3.map (Value.int .i64))) := q3
        have d0 := X3.c0
        have d1 := X3.c1
        have f0 := X3.f0
        have f1 := X3.f1
        clear X1 X3 b3 kM o3 q3 XA
        go_wp2
        (try simp only [Exit.inBlock, Exit.then])
        refine bodyPost_ret (v := .agg #[.bool g3, .slice ad3 l3.length cap3]) ?_ rfl ⟨_, rfl, ?_, ?_⟩
        · rw [results_cell1 rfl]
          go_simp
        · refine ⟨_, rfl, ?_⟩
          have o4 := ownsRow_setCell_below (a := ⟨w.heap.size, 0, none⟩) HO.out (by show w.heap.size < w.heap.size + 1; omega) (.bool g3)
          have o5 := ownsRow_setCell_below (a := ⟨w.heap.size, 1, none⟩) o4 (by show w.heap.size < w.heap.size + 1; omega) (.slice ad3 l3.length cap3)
          exact ownsRow_mono o5 (by omega)
        · exact (B3.setCell (p := ⟨w.heap.size, 0, none⟩) (Nat.le_refl _) _).setCell (p := ⟨w.heap.size, 1, none⟩) (Nat.le_refl _) _
      · have hpos : 0 < m := by omega
        have hl1 : limbs m = ((m % 16777216 : Nat) : Int) :: limbs (m / 16777216) := limbs_pos m hpos
        have hdl : done.length < 3 := by
          have := congrArg List.length HL.out
          rw [hl1] at this
          simp at this
          omega
        have HL2 : Hid (limbs M = (done ++ [((m % 16777216 : Nat) : Int)]) ++ limbs (m / 16777216)) := by
          show _ = _
          rw [HL.out, hl1]; simp
        have hnz : ((-(m : Int)) != 0) = true := by simp; omega
        have eq : (-(m : Int)).tdiv 16777216 = -((m / 16777216 : Nat) : Int) := by
          rw [Int.neg_tdiv, Int.tdiv_eq_ediv_of_nonneg (by omega)]; simp
        have em : (-(m : Int)).tmod 16777216 = -((m % 16777216 : Nat) : Int) := by
          rw [Int.neg_tmod, Int.tmod_eq_emod_of_nonneg (by omega)]; simp
        clear HL hl1
        obtain ⟨d, hd2⟩ : ∃ d, m % 16777216 = d := ⟨_, rfl⟩
        obtain ⟨q, hq2⟩ : ∃ q, m / 16777216 = q := ⟨_, rfl⟩
        have hd3 : d < 16777216 := by omega
        have hq3 : q < m := by omega
        rw [hd2, hq2] at HL2
        rw [hd2] at em
        rw [hq2] at eq
        clear hd2 hq2
        have hsz2 : w.heap.size + 1 ≤ wr.heap.size := by omega
        by_cases hd0 : d = 0
        · have em0 : (-(m : Int)).tmod 16777216 = 0 := by rw [em, hd0]; rfl
          have HD : Hid (d = 0) := hd0
          clear em hd0
          go_wp2_with (at_builtin; refine wpI_app wA wr rfl (.tmp 17) (.tmp 19) rfl (w.heap.size + 1) _ done _ rfl hown hbw rfl (by omega) hsz2 ?_; intro v1 w1 o1 b1)
          go_roundw
          case rel => exact ⟨q, done ++ [(d : Int)], v1, rfl, by go_num, by omega, trivial, by simp; omega, HL2, by rw [HD.out]; exact o1, b1⟩
          case measure => simp [intOf]; omega
        · have q1 : decide (-(d : Int) < 0) = true := decide_eq_true (by omega)
          have hdn : -(d : Int) < 0 := by omega
          go_wp2_with (at_builtin; refine wpI_app wA wr rfl (.tmp 17) (.tmp 19) rfl (w.heap.size + 1) _ done _ rfl hown hbw rfl (by omega) hsz2 ?_; intro v1 w1 o1 b1)
          go_roundw
          case rel => exact ⟨q, done ++ [(d : Int)], v1, rfl, by go_num, by omega, trivial, by simp; omega, HL2, by simpa using o1, b1⟩
          case measure => simp [intOf]; omega
  · obtain ⟨M, rfl⟩ : ∃ m : Nat, n = (m : Int) := ⟨n.natAbs, by omega⟩
    have HR : Hid (r = mkW (M : Int)) := hr.symm
    rw [Int.natAbs_natCast] at l3
    clear hr
    go_enter Try.func52, Try.ntmps52
    go_wp2
    generalize hWA : w.alloc (.cells #[.bool false, .slice none 0 0] 27) = wA at *
    have HWA : Hid (w.alloc (.cells #[.bool false, .slice none 0 0] 27) = wA) := hWA
    clear hWA
    go_loopw [0, 3] (fun nv v wr => ∃ (m : Nat) (done : List Int) (vv : Value), v = vv ∧ nv = .int .i64 ((m : Int)) ∧ m ≤ 9223372036854775808 ∧ m ≤ 9223372036854775807 ∧ done.length ≤ 3 ∧ Hid (limbs M = done ++ limbs m) ∧ ownsI wr (w.heap.size + 1) vv done ∧ Below (w.heap.size + 1) wA wr) (fun nv _ _ => (intOf nv).natAbs)
    case atStart => exact ⟨M, [], _, rfl, rfl, by omega, by omega, by simp, by show _ = _; simp, O0, BA⟩
    case round =>
      clear O0 BA
      obtain ⟨m, done, vv, rfl, rfl, hm, hm2, hd, HL, hown, hbw⟩ := hrel
      have hsz := hbw.size
      by_cases h0 : m = 0
      · subst h0
        have e1 : limbs M = done := by have := HL.out; rw [limbs_zero, List.append_nil] at this; exact this
        have hown' := hown
        rw [← e1] at hown'
        have kM := sMake false _ M (w.heap.size + 1) wr hown' (by omega)
        have X1 : BoxW wr w.heap.size w.heap.size (.bool false) (.slice none 0 0) := by
          have hk := hbw.block w.heap.size (by omega)
          exact ⟨XA.lo, by omega, (World.cell?_of_block (w := wA) (a := ⟨w.heap.size, 0, none⟩) hk).trans XA.c0, (World.cell?_of_block (w := wA) (a := ⟨w.heap.size, 1, none⟩) hk).trans XA.c1, (World.frozen?_of_block (w := wA) (a := ⟨w.heap.size, 0, none⟩) hk).trans XA.f0, (World.frozen?_of_block (w := wA) (a := ⟨w.heap.size, 1, none⟩) hk).trans XA.f1⟩
        have B1 : Below w.heap.size w wr := B0.trans (hbw.mono (by omega))
        obtain ⟨ad, cap, rfl, -⟩ := hown'.row
        have HLM : Hid ((limbs M).length = done.length) := by show _ = _; rw [e1]
        clear HL e1 hown hown' hbw
        go_wp2_with fail
        refine kM.mono ?_
        rintro e w3 ⟨v3, rfl, o3, b3⟩
        have X3 := X1.below b3 (Nat.le_refl _)
        have B3 := B1.trans (b3.mono B1.size)
        have ho3 : ownsW w3 (w.heap.size + 1) v3 r := by
          rw [HR.out]
          simpa using o3
        obtain ⟨g3, l3⟩ := r
        obtain ⟨s3, rfl, q3⟩ := ho3
        obtain ⟨ad3, cap3, rfl, -⟩ := q3.row
        have HO : Hid (w3.ownsRow (w.heap.size + 1) 3 1 (.slice ad3 l3.length cap3) l3.length (l3.map (Value.int .i64))) := q3
        have d0 := X3.c0
        have d1 := X3.c1
        have f0 := X3.f0
        have f1 := X3.f1
        clear X1 X3 b3 kM o3 q3 XA
        go_wp2
        (try simp only [Exit.inBlock, Exit.then])
        refine bodyPost_ret (v := .agg #[.bool g3, .slice ad3 l3.length cap3]) ?_ rfl ⟨_, rfl, ?_, ?_⟩
        · rw [results_cell1 rfl]
          go_simp
        · refine ⟨_, rfl, ?_⟩
          have o4 := ownsRow_setCell_below (a := ⟨w.heap.size, 0, none⟩) HO.out (by show w.heap.size < w.heap.size + 1; omega) (.bool g3)
          have o5 := ownsRow_setCell_below (a := ⟨w.heap.size, 1, none⟩) o4 (by show w.heap.size < w.heap.size + 1; omega) (.slice ad3 l3.length cap3)
          exact ownsRow_mono o5 (by omega)
        · exact (B3.setCell (p := ⟨w.heap.size, 0, none⟩) (Nat.le_refl _) _).setCell (p := ⟨w.heap.size, 1, none⟩) (Nat.le_refl _) _
      · have hpos : 0 < m := by omega
        have hl1 : limbs m = ((m % 16777216 : Nat) : Int) :: limbs (m / 16777216) := limbs_pos m hpos
        have hdl : done.length < 3 := by
          have := congrArg List.length HL.out
          rw [hl1] at this
          simp at this
          omega
        have HL2 : Hid (limbs M = (done ++ [((m % 16777216 : Nat) : Int)]) ++ limbs (m / 16777216)) := by
          show _ = _
          rw [HL.out, hl1]; simp
        have hnz : (((m : Int)) != 0) = true := by simp; omega
        have eq : ((m : Int)).tdiv 16777216 = ((m / 16777216 : Nat) : Int) := by
          rw [Int.tdiv_eq_ediv_of_nonneg (by omega)]; simp
        have em : ((m : Int)).tmod 16777216 = ((m % 16777216 : Nat) : Int) := by
          rw [Int.tmod_eq_emod_of_nonneg (by omega)]; simp
        clear HL hl1
        obtain ⟨d, hd2⟩ : ∃ d, m % 16777216 = d := ⟨_, rfl⟩
        obtain ⟨q, hq2⟩ : ∃ q, m / 16777216 = q := ⟨_, rfl⟩
        have hd3 : d < 16777216 := by omega
        have hq3 : q < m := by omega
        rw [hd2, hq2] at HL2
        rw [hd2] at em
        rw [hq2] at eq
        clear hd2 hq2
        have hsz2 : w.heap.size + 1 ≤ wr.heap.size := by omega
        have q1 : ¬ ((d : Int) < 0) := by omega
        go_wp2_with (at_builtin; refine wpI_app wA wr rfl (.tmp 17) (.tmp 19) rfl (w.heap.size + 1) _ done _ rfl hown hbw rfl (by omega) hsz2 ?_; intro v1 w1 o1 b1)
        go_roundw
        case rel => exact ⟨q, done ++ [(d : Int)], v1, rfl, by go_num, by omega, by omega, by simp; omega, HL2, by simpa using o1, b1⟩
        case measure => simp [intOf]; omega

end Go.Proofs.Ytlpfjpbnedankaa
