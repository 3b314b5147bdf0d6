/- The specification's l2Times and NatMul, by their contracts. -/
import Derived.Test.YtlpfjpbnedankaaSB
import Derived.Test.YtlpfjpbnedankaaBase
import Derived.Laws.MakeOwn
namespace Go.Proofs.Ytlpfjpbnedankaa
open Go.RowKit

set_option maxHeartbeats 3200000 in
/-- l2Times: the product. -/
theorem sTimes (va vb : Value) (xs ys : List Int) (w : World) (ha : rowI w va xs) (hb : rowI w vb ys) (hxr : inR xs) (hyr : inR ys) (hlx : xs.length ≤ 1048576) (hly : ys.length ≤ 1048576) :
    Calls Try.prog 85 #[va, vb] w fun e w' => ∃ v', e = .returned v' ∧ ownsI w' w.heap.size v' (limbs (num xs * num ys)) ∧ Below w.heap.size w w' := by
  obtain ⟨a1, cap1, rfl, -⟩ := id ha
  obtain ⟨a2, cap2, rfl, -⟩ := id hb
  obtain ⟨i0, hi, hz0, hz1, hz2⟩ := info_parts Try.info3
  obtain ⟨N, hN⟩ : ∃ N, xs.length + ys.length + 1 = N := ⟨_, rfl⟩
  obtain ⟨w1, hmk, hown1, hg1⟩ := run_make_full (P := Try.prog) w w.heap.size 25 3 i0 (.int .i64 0) 1 Try.underlying25 hi hz0 hz1 .i64 .i64 N (by rw [hz2]; omega) (by unfold maxLen; omega) (Nat.le_refl _)
  have ec : (N : Int) = (xs.length : Int) + (ys.length : Int) + 1 := by omega
  rw [ec] at hmk
  have hb1 : Below w.heap.size w w1 := (Below.refl _ _).grown hg1 (Nat.le_refl _) (fun k hk => by cases hk)
  have hz : (madeCells (Value.int .i64 0).cells (N * 1)).toList = (List.replicate N (0 : Int)).map (Value.int .i64) := by
    rw [Nat.mul_one]
    have := toList_madeCells_one (Value.int .i64 0) N
    rw [List.map_replicate]
    exact this
  rw [hz] at hown1
  clear hg1 hi hz0 hz1 hz2 hz ec
  go_enter Try.func85, Try.ntmps85
  go_wp2
  go_loopw [6] (fun i wr => ∃ (n : Nat) (zs : List Int), n ≤ xs.length ∧ i = .int .i64 n ∧ zs.length = N ∧ inR zs ∧ (∀ m, n + ys.length ≤ m → zs.getD m 0 = 0) ∧ Hid (lval zs = lval (xs.take n) * lval ys) ∧ wr.ownsRow w.heap.size 3 1 (.slice (some ⟨w.heap.size, 0, none⟩) N N) N (zs.map (Value.int .i64)) ∧ Below w.heap.size w wr) (fun i _ => xs.length - (intOf i).toNat)
  case atStart => exact ⟨0, List.replicate N 0, by omega, rfl, List.length_replicate, fun x hx => by rw [List.eq_of_mem_replicate hx]; omega, fun m _ => by simp [List.getD_eq_getElem?_getD, List.getElem?_replicate]; split <;> rfl, by show _ = _; rw [lval_zeros]; simp [lval], hown1, hb1⟩
  case round =>
    obtain ⟨n, zs, hn, rfl, hzl, hzR, hzz, HL, hown, hbw⟩ := hrel
    by_cases hlt : n < xs.length
    · have hlt' : (n : Int) < (xs.length : Int) := by omega
      have gx := inR_getD hxr n
      have HT : Hid (lval (xs.take (n + 1)) = lval (xs.take n) + 16777216 ^ n * xs.getD n 0) := lval_take_succ xs n
      obtain ⟨xi, hxi⟩ : ∃ xi, xs.getD n 0 = xi := ⟨_, rfl⟩
      rw [hxi] at gx HT
      obtain ⟨gx0, gx1⟩ := gx
      go_wp2
      go_loopw [7, 8] (fun c j wr => ∃ (m : Nat) (cc : Int) (zs : List Int), m ≤ ys.length ∧ j = .int .i64 m ∧ c = .int .i64 cc ∧ 0 ≤ cc ∧ cc < 16777216 ∧ zs.length = N ∧ inR zs ∧ (∀ q, n + ys.length ≤ q → zs.getD q 0 = 0) ∧ Hid (lval zs + 16777216 ^ (n + m) * cc = lval (xs.take n) * lval ys + 16777216 ^ n * (xi * lval (ys.take m))) ∧ wr.ownsRow w.heap.size 3 1 (.slice (some ⟨w.heap.size, 0, none⟩) N N) N (zs.map (Value.int .i64)) ∧ Below w.heap.size w wr) (fun _ j _ => ys.length - (intOf j).toNat)
      case atStart => exact ⟨0, 0, zs, by omega, rfl, rfl, by omega, by omega, hzl, hzR, hzz, by show _ = _; rw [HL.out]; simp [lval], hown, hbw⟩
      case round =>
        clear hown hbw hzz hzR hzl HL
        obtain ⟨m, cc, zs, hm, rfl, rfl, c0, c1, hzl, hzR, hzz, HL, hown, hbw⟩ := hrel
        have hsz := hbw.size
        by_cases hlm : m < ys.length
        · have hlm' : (m : Int) < (ys.length : Int) := by omega
          obtain ⟨b1, o1, rfl, ca⟩ := (ha.below hbw (Nat.le_refl _)).at n hlt
          obtain ⟨b2, o2, rfl, cb⟩ := (hb.below hbw (Nat.le_refl _)).at m hlm
          have cz := cellsI_of hown hzl (n + m) (by omega)
          have fz := hown.frozenAt (n + m)
          have gy := inR_getD hyr m
          have gz := inR_getD hzR (n + m)
          have HTy : Hid (lval (ys.take (m + 1)) = lval (ys.take m) + 16777216 ^ m * ys.getD m 0) := lval_take_succ ys m
          obtain ⟨yj, hyj⟩ : ∃ yj, ys.getD m 0 = yj := ⟨_, rfl⟩
          obtain ⟨z, hz⟩ : ∃ z, zs.getD (n + m) 0 = z := ⟨_, rfl⟩
          rw [hyj] at gy cb HTy
          rw [hxi] at ca
          rw [hz] at gz cz
          obtain ⟨gy0, gy1⟩ := gy
          obtain ⟨gz0, gz1⟩ := gz
          obtain ⟨p0, p1⟩ := mul_lim gx0 gx1 gy0 gy1
          have HZ : Hid (zs.getD (n + m) 0 = z) := hz
          have HS := fun nq => (show (wr.drewN nq).ownsRow w.heap.size 3 1 (.slice (some ⟨w.heap.size, 0, none⟩) N N) N (zs.map (Value.int .i64)) from hown).stored (n + m) (.int .i64 ((z + xi * yj + cc) % 16777216))
          have HB : Hid (Below w.heap.size w wr) := hbw
          clear hown hbw hz hyj
          go_wp2
          go_quiet (fail)
          have hs := HS nq
          clear HS
          go_wp2
          go_roundw
          case rel =>
            refine ⟨m + 1, (z + xi * yj + cc) / 16777216, zs.set (n + m) ((z + xi * yj + cc) % 16777216), by omega, by go_num, rfl, by omega, by omega, by rw [List.length_set, hzl], inR_set hzR _ (by omega) (by omega), fun q hq => by rw [getD_set_ne _ _ _ _ (by omega)]; exact hzz q hq, ?_, by rw [List.map_set]; exact hs.1, ?_⟩
            · show _ = _
              rw [HTy.out]
              exact times_step n m cc _ z xi yj _ _ zs (by omega) HZ.out HL.out rfl
            · have hbq : Below w.heap.size w (wr.drewN nq) := Below.trans HB.out ⟨rfl, rfl, rfl, Nat.le_refl _, fun _ _ => rfl⟩
              exact Below.setCell (p := ⟨w.heap.size, n + m, none⟩) hbq (Nat.le_refl _) _
          case measure => simp [intOf]; omega
        · have hlm' : (ys.length : Int) ≤ (m : Int) := by omega
          have hme : m = ys.length := by omega
          subst hme
          have cz := cellsI_of hown hzl (n + ys.length) (by omega)
          rw [hzz _ (Nat.le_refl _)] at cz
          have fz := hown.frozenAt (n + ys.length)
          have hs := hown.stored (n + ys.length) (.int .i64 cc)
          have HB : Hid (Below w.heap.size w wr) := hbw
          clear hown hbw
          go_wp2
          go_roundw
          case rel =>
            refine ⟨n + 1, zs.set (n + ys.length) cc, by omega, by go_num, by rw [List.length_set, hzl], inR_set hzR _ c0 c1, fun q hq => by rw [getD_set_ne _ _ _ _ (by omega)]; exact hzz q (by omega), ?_, by rw [List.map_set]; exact hs.1, ?_⟩
            · show _ = _
              rw [lval_set _ _ _ (by omega), hzz _ (Nat.le_refl _), HT.out, Int.add_mul]
              have h3 := HL.out
              rw [List.take_length] at h3
              rw [Int.sub_zero, h3, Int.mul_assoc]
            · exact Below.setCell HB.out (Nat.le_refl _) _
          case measure => simp [intOf]; omega
    · have hlt' : (xs.length : Int) ≤ (n : Int) := by omega
      have hsz := hbw.size
      have hnum : num zs = num xs * num ys := by
        have h1 := num_val hzR
        have h2 := num_val hxr
        have h3 := num_val hyr
        have h4 := HL.out
        rw [List.take_of_length_le (by omega), ← h1, ← h2, ← h3] at h4
        exact_mod_cast h4
      have hownI : ownsI wr w.heap.size (.slice (some ⟨w.heap.size, 0, none⟩) N N) zs := by
        unfold ownsI
        rw [hzl]
        exact hown
      have kt := sTrim _ zs wr hownI.row hzR (by omega)
      rw [hnum] at kt
      clear HL hnum hownI hown hzz
      go_wp2_with fail
      refine kt.mono ?_
      rintro e w2 ⟨v1, rfl, o1, b1⟩
      go_wp2
      go_ret
      exact ⟨_, rfl, ownsI_mono o1 hsz, hbw.trans (b1.mono hsz)⟩

end Go.Proofs.Ytlpfjpbnedankaa
