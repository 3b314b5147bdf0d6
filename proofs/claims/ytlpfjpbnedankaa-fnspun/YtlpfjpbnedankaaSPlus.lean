/- The specification's l2Plus, by its contract. -/
import Derived.Test.YtlpfjpbnedankaaSLimb
import Derived.Test.YtlpfjpbnedankaaSMax
import Derived.Test.YtlpfjpbnedankaaSB
namespace Go.Proofs.Ytlpfjpbnedankaa
open Go.RowKit

set_option maxHeartbeats 1600000 in
/-- l2Plus: the sum. -/
theorem sPlus (va vb : Value) (xs ys : List Int) (w : World) (ha : rowI w va xs) (hb : rowI w vb ys) (hxr : inR xs) (hyr : inR ys) (hlx : xs.length ≤ 1048576) (hly : ys.length ≤ 1048576) :
    Calls Try.prog 86 #[va, vb] w fun e w' => ∃ v', e = .returned v' ∧ ownsI w' w.heap.size v' (limbs (num xs + num ys)) ∧ Below w.heap.size w w' := by
  obtain ⟨a1, cap1, rfl, -⟩ := id ha
  obtain ⟨a2, cap2, rfl, -⟩ := id hb
  go_enter Try.func86, Try.ntmps86
  go_wp2
  go_loopw [5, 6, 7, 8] (fun v c i x wr => ∃ (k : Nat) (cc : Int) (out : List Int), k ≤ max xs.length ys.length + 1 ∧ i = .int .i64 k ∧ c = .int .i64 cc ∧ 0 ≤ cc ∧ cc ≤ 1 ∧ (max xs.length ys.length < k → cc = 0) ∧ out.length = k ∧ inR out ∧ Hid (lval out + 16777216 ^ k * cc = lval (xs.take k) + lval (ys.take k)) ∧ ownsI wr w.heap.size v out ∧ Below w.heap.size w wr) (fun _ _ i _ _ => max xs.length ys.length + 1 - (intOf i).toNat)
  case atStart => exact ⟨0, 0, [], by omega, rfl, rfl, by omega, by omega, fun _ => rfl, rfl, inR_nil, by show _ = _; simp [lval], made_own w, (Below.refl _ _).alloc (Nat.le_refl _) _⟩
  case round =>
    obtain ⟨k, cc, out, hk, rfl, rfl, c0, c1, cz, hol, hoR, HL, hown, hbw⟩ := hrel
    have hsz := hbw.size
    have ha' := ha.below hbw (Nat.le_refl _)
    have hb' := hb.below hbw (Nat.le_refl _)
    have gx := inR_getD hxr k
    have gy := inR_getD hyr k
    by_cases hlt : k ≤ max xs.length ys.length
    · have HT : Hid (lval (xs.take (k + 1)) = lval (xs.take k) + 16777216 ^ k * xs.getD k 0 ∧ lval (ys.take (k + 1)) = lval (ys.take k) + 16777216 ^ k * ys.getD k 0) := ⟨lval_take_succ xs k, lval_take_succ ys k⟩
      have hxz : xs.length ≤ k → xs.getD k 0 = 0 := fun h => by rw [List.getD_eq_getElem?_getD, List.getElem?_eq_none (by omega)]; rfl
      have hyz : ys.length ≤ k → ys.getD k 0 = 0 := fun h => by rw [List.getD_eq_getElem?_getD, List.getElem?_eq_none (by omega)]; rfl
      have cx := sLimb _ xs k wr ha'
      have cy := sLimb _ ys k wr hb'
      obtain ⟨xk, hxk⟩ : ∃ xk, xs.getD k 0 = xk := ⟨_, rfl⟩
      obtain ⟨yk, hyk⟩ : ∃ yk, ys.getD k 0 = yk := ⟨_, rfl⟩
      rw [hxk] at gx HT hxz cx
      rw [hyk] at gy HT hyz cy
      obtain ⟨gx0, gx1⟩ := gx
      obtain ⟨gy0, gy1⟩ := gy
      have HZ : Hid ((xs.length ≤ k → xk = 0) ∧ (ys.length ≤ k → yk = 0)) := ⟨hxz, hyz⟩
      clear hxk hyk ha' hb' hxz hyz
      have hlt' : (k : Int) ≤ ((max xs.length ys.length : Nat) : Int) := by omega
      go_wp2_with fail
      refine (sMax xs.length ys.length wr).mono ?_
      rintro e wr ⟨rfl, rfl⟩
      go_wp2_with fail
      refine cx.mono ?_
      rintro e wr ⟨rfl, rfl⟩
      go_wp2_with fail
      refine cy.mono ?_
      rintro e wr ⟨rfl, rfl⟩
      clear cx cy
      go_wp2_with (at_builtin; refine wpI_app w wr rfl (.tmp 28) (.tmp 31) rfl w.heap.size _ out _ rfl hown hbw rfl (by omega) hsz ?_; intro v1 w1 o1 b1)
      go_roundw
      case rel =>
        refine ⟨k + 1, (xk + yk + cc) / 16777216, out ++ [(xk + yk + cc) % 16777216], by omega, by go_num, rfl, by omega, by omega, fun h => ?_, by rw [List.length_append, List.length_singleton, hol], inR_append.2 ⟨hoR, inR_cons.2 ⟨by omega, inR_nil⟩⟩, ?_, o1, b1⟩
        · have z1 := HZ.out.1 (by omega)
          have z2 := HZ.out.2 (by omega)
          omega
        · show _ = _
          rw [HT.out.1, HT.out.2]
          exact plus_step k cc _ _ _ out hol HL.out xk yk rfl
      case measure => simp [intOf]; omega
    · have hke : k = max xs.length ys.length + 1 := by omega
      have hlt' : ¬ (k : Int) ≤ ((max xs.length ys.length : Nat) : Int) := by omega
      have hcz := cz (by omega)
      have hval : lval out = lval xs + lval ys := by
        have := HL.out
        rw [hcz, Int.mul_zero, Int.add_zero, List.take_of_length_le (by omega), List.take_of_length_le (by omega)] at this
        exact this
      have hnum : num out = num xs + num ys := by
        have h1 := num_val hoR
        have h2 := num_val hxr
        have h3 := num_val hyr
        omega
      have hrow := hown.row
      have hlo : out.length ≤ 1073741824 := by omega
      clear hval HL hcz ha' hb' gx gy
      go_wp2_with fail
      refine (sMax xs.length ys.length wr).mono ?_
      rintro e wr ⟨rfl, rfl⟩
      go_wp2_with fail
      refine (sTrim _ out wr hrow hoR hlo).mono ?_
      rintro e w1 ⟨v1, rfl, o1, b1⟩
      rw [hnum] at o1
      go_wp2
      go_ret
      exact ⟨_, rfl, ownsI_mono o1 hsz, hbw.trans (b1.mono hsz)⟩

end Go.Proofs.Ytlpfjpbnedankaa
