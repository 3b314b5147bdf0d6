/- The specification's l2Less, by its contract. -/
import Derived.Test.YtlpfjpbnedankaaSLimb
import Derived.Test.YtlpfjpbnedankaaSB
import Derived.Deep.QuietTactic
import Derived.BigQuiet
namespace Go.Proofs.Ytlpfjpbnedankaa
open Go.RowKit

set_option maxHeartbeats 1600000 in
/-- l2Less: the difference, a being no smaller. -/
theorem sLess (va vb : Value) (xs ys : List Int) (w : World) (ha : rowI w va xs) (hb : rowI w vb ys) (hxr : inR xs) (hyr : inR ys) (hlx : xs.length ≤ 1048576) (hly : ys.length ≤ xs.length) (hge : num ys ≤ num xs) :
    Calls Try.prog 88 #[va, vb] w fun e w' => ∃ v', e = .returned v' ∧ ownsI w' w.heap.size v' (limbs (num xs - num ys)) ∧ Below w.heap.size w w' := by
  obtain ⟨a1, cap1, rfl, -, -, -, -, h6⟩ := id ha
  obtain ⟨a2, cap2, rfl, -⟩ := id hb
  have H6 : Hid (∀ j, j < xs.length → ∃ g off, a1 = some ⟨g, off, none⟩ ∧ g < w.heap.size ∧ w.cell? ⟨g, off + j, none⟩ = some (.int .i64 (xs.getD j 0))) := h6
  clear h6
  go_enter Try.func88, Try.ntmps88
  go_wp2
  go_loopw [5, 6, 7, 8] (fun v c i x wr => ∃ (k : Nat) (bb : Int) (out : List Int), k ≤ xs.length ∧ i = .int .i64 k ∧ c = .int .i64 bb ∧ 0 ≤ bb ∧ bb ≤ 1 ∧ out.length = k ∧ inR out ∧ Hid (lval out - 16777216 ^ k * bb = lval (xs.take k) - lval (ys.take k)) ∧ ownsI wr w.heap.size v out ∧ Below w.heap.size w wr) (fun _ _ i _ _ => xs.length - (intOf i).toNat)
  case atStart => exact ⟨0, 0, [], by omega, rfl, rfl, by omega, by omega, rfl, inR_nil, by show _ = _; simp [lval], made_own w, (Below.refl _ _).alloc (Nat.le_refl _) _⟩
  case round =>
    obtain ⟨k, bb, out, hk, rfl, rfl, c0, c1, hol, hoR, HL, hown, hbw⟩ := hrel
    have hsz := hbw.size
    have hb' := hb.below hbw (Nat.le_refl _)
    have gx := inR_getD hxr k
    have gy := inR_getD hyr k
    by_cases hlt : k < xs.length
    · obtain ⟨g, off, rfl, hg, hc0⟩ := H6.out k hlt
      have hc : wr.cell? ⟨g, off + k, none⟩ = some (.int .i64 (xs.getD k 0)) := (hbw.cell (p := ⟨g, off + k, none⟩) hg).trans hc0
      have HT : Hid (lval (xs.take (k + 1)) = lval (xs.take k) + 16777216 ^ k * xs.getD k 0 ∧ lval (ys.take (k + 1)) = lval (ys.take k) + 16777216 ^ k * ys.getD k 0) := ⟨lval_take_succ xs k, lval_take_succ ys k⟩
      have cy := fun W (h : rowI W (.slice a2 ys.length cap2) ys) => sLimb _ ys k W h
      obtain ⟨xk, hxk⟩ : ∃ xk, xs.getD k 0 = xk := ⟨_, rfl⟩
      obtain ⟨yk, hyk⟩ : ∃ yk, ys.getD k 0 = yk := ⟨_, rfl⟩
      rw [hxk] at gx HT hc
      rw [hyk] at gy HT
      simp only [hyk] at cy
      obtain ⟨gx0, gx1⟩ := gx
      obtain ⟨gy0, gy1⟩ := gy
      clear hxk hyk hc0 ha
      go_wp2_with fail
      go_quiet ((go_at_call 106; exact Calls.quiet_of_same (cy _ hb')))
      clear cy hb'
      have hown' : ownsI (wr.drewN nq) w.heap.size u5 out := hown
      have hbw' : Below w.heap.size w (wr.drewN nq) := hbw.trans ⟨rfl, rfl, rfl, Nat.le_refl _, fun _ _ => rfl⟩
      have hsz' := hbw'.size
      clear hown hbw hc
      by_cases hneg : xk - yk - bb < 0
      · go_wp2_with (at_builtin; refine wpI_app w (wr.drewN nq) rfl (.tmp 30) (.tmp 32) rfl w.heap.size _ out _ rfl hown' hbw' rfl (by omega) hsz' ?_; intro v1 w1 o1 b1)
        go_roundw
        case rel => exact ⟨k + 1, 1, out ++ [xk - yk - bb + 16777216], by omega, by go_num, rfl, by omega, by omega, by rw [List.length_append, List.length_singleton, hol], inR_append.2 ⟨hoR, inR_cons.2 ⟨by omega, inR_nil⟩⟩, by show _ = _; rw [HT.out.1, HT.out.2]; exact less_step k bb _ _ _ out hol HL.out xk yk 1 _ rfl (by omega), o1, b1⟩
        case measure => simp [intOf]; omega
      · go_wp2_with (at_builtin; refine wpI_app w (wr.drewN nq) rfl (.tmp 30) (.tmp 32) rfl w.heap.size _ out _ rfl hown' hbw' rfl (by omega) hsz' ?_; intro v1 w1 o1 b1)
        go_roundw
        case rel => exact ⟨k + 1, 0, out ++ [xk - yk - bb], by omega, by go_num, rfl, by omega, by omega, by rw [List.length_append, List.length_singleton, hol], inR_append.2 ⟨hoR, inR_cons.2 ⟨by omega, inR_nil⟩⟩, by show _ = _; rw [HT.out.1, HT.out.2]; exact less_step k bb _ _ _ out hol HL.out xk yk 0 _ rfl (by omega), o1, b1⟩
        case measure => simp [intOf]; omega
    · have hke : k = xs.length := by omega
      subst hke
      have hnum : num out = num xs - num ys := by
        have h1 := num_val hoR
        have h2 := num_val hxr
        have h3 := num_val hyr
        have h4 := lval_lt hoR
        rw [hol] at h4
        have h5 := HL.out
        rw [List.take_of_length_le (Nat.le_refl _), List.take_of_length_le hly] at h5
        have h6 := pow_pos xs.length
        have hb0 : bb = 0 := by
          apply Classical.byContradiction; intro hn
          have hb1 : bb = 1 := by omega
          rw [hb1, Int.mul_one] at h5
          omega
        rw [hb0, Int.mul_zero] at h5
        omega
      have hrow := hown.row
      have hlo : out.length ≤ 1073741824 := by omega
      clear HL ha hb' gx gy
      go_wp2_with fail
      refine (sTrim _ out wr hrow hoR hlo).mono ?_
      rintro e w1 ⟨v1, rfl, o1, b1⟩
      rw [hnum] at o1
      go_wp2
      go_ret
      exact ⟨_, rfl, ownsI_mono o1 hsz, hbw.trans (b1.mono hsz)⟩

end Go.Proofs.Ytlpfjpbnedankaa
