/- The program's lower and minus, each by its contract. -/
import Derived.Test.YtlpfjpbnedankaaGPlus
import Derived.Test.YtlpfjpbnedankaaGCmp
namespace Go.Proofs.Ytlpfjpbnedankaa
open Go.RowKit

theorem limbs_mono {m n : Nat} (h : n ≤ m) : (limbs n).length ≤ (limbs m).length := by
  apply Classical.byContradiction
  intro hn
  have := limbs_len_lt (m := m) (n := n) (by omega)
  omega
theorem less_fin {ws : List Int} {m n L : Nat} {bb : Int} (hr : inR (ws.take L)) (hlw : (ws.take L).length = L) (b0 : 0 ≤ bb) (b1 : bb ≤ 1) (hmn : n ≤ m) (hL : (limbs m).length = L)
    (h : lval (ws.take L) - 16777216 ^ L * bb = lval ((limbs m).take L) - lval ((limbs n).take L)) : num (ws.take L) = m - n := by
  have hn := limbs_mono hmn
  rw [List.take_of_length_le (Nat.le_of_eq hL), List.take_of_length_le (show (limbs n).length ≤ L by omega), limbs_val, limbs_val] at h
  have h1 := num_val hr
  have h2 := lval_lt hr
  rw [hlw] at h2
  have h3 := lval_nonneg hr
  have hb : bb = 0 := by
    apply Classical.byContradiction
    intro hne
    have e : bb = 1 := by omega
    rw [e, Int.mul_one] at h
    omega
  rw [hb, Int.mul_zero] at h
  omega

set_option maxHeartbeats 3200000 in
/-- lower: what is left, in place. -/
theorem gLower (a b ob m n : Nat) (w : World) (hl : (limbs m).length ≤ 98) (hmn : n ≤ m) (hab : a ≠ b) (hG : GN w a m) (hb : GA w b ob n) :
    Calls Try.prog 99 #[.pointer (some ⟨a, 0, none⟩), .pointer (some ⟨b, ob, none⟩)] w fun e w' => e = .returned (.tuple #[]) ∧ GN w' a (m - n) ∧ Tn [a] w w' ∧ w'.heap.size = w.heap.size := by
  obtain ⟨L, hL⟩ : ∃ L, (limbs m).length = L := ⟨_, rfl⟩
  have hG0 : GB w a (pad (limbs m)) (L : Int) := by rw [← hL]; exact hG
  have HL : Hid ((limbs m).length = L) := hL
  rw [hL] at hl
  clear hG hL
  go_enter Try.func99, Try.ntmps99
  go_wp2
  go_loopw [4, 5] (fun c i wr => ∃ (k : Nat) (bb : Int) (ws : List Int), k ≤ L ∧ i = .int .i64 k ∧ c = .int .u32 bb ∧ 0 ≤ bb ∧ bb ≤ 1 ∧ inR (ws.take k) ∧ (∀ j, k ≤ j → ws.getD j 0 = (limbs m).getD j 0) ∧ Hid (lval (ws.take k) - 16777216 ^ k * bb = lval ((limbs m).take k) - lval ((limbs n).take k)) ∧ GB wr a ws (L : Int) ∧ GA wr b ob n ∧ Tn [a] w wr ∧ wr.heap.size = w.heap.size) (fun _ i _ => L - (intOf i).toNat)
  case atStart => exact ⟨0, 0, pad (limbs m), by omega, rfl, rfl, by omega, by omega, by rw [List.take_zero]; exact inR_nil, fun j _ => pad_getD _ _, by show _ = _; simp [lval], hG0, hb, Tn.refl _ _, rfl⟩
  case round =>
    clear hG0 hb
    obtain ⟨k, bb, ws, hk, rfl, rfl, bb0, bb1, hoR, hw, HV, hG, hA, hT, hs⟩ := hrel
    have hlen := hG.len
    have c98 := hG.size
    by_cases hlt : k < L
    · have HT : Hid (lval ((limbs m).take (k + 1)) = lval ((limbs m).take k) + 16777216 ^ k * (limbs m).getD k 0 ∧ lval ((limbs n).take (k + 1)) = lval ((limbs n).take k) + 16777216 ^ k * (limbs n).getD k 0) := ⟨lval_take_succ _ k, lval_take_succ _ k⟩
      have gx := inR_getD (limbs_inR m) k
      have gy := inR_getD (limbs_inR n) k
      have cx := hG.word k (by omega)
      rw [hw k (Nat.le_refl _)] at cx
      have cy := hA.word k (by omega)
      have fx := hG.free k
      have HW : Hid (∀ j, k + 1 ≤ j → ∀ v, (ws.set k v).getD j 0 = (limbs m).getD j 0) := fun j hj v => by rw [gset_ne v (by omega)]; exact hw j (by omega)
      obtain ⟨xk, hxk⟩ : ∃ xk, (limbs m).getD k 0 = xk := ⟨_, rfl⟩
      obtain ⟨yk, hyk⟩ : ∃ yk, (limbs n).getD k 0 = yk := ⟨_, rfl⟩
      rw [hxk] at gx HT cx
      rw [hyk] at gy HT cy
      obtain ⟨gx0, gx1⟩ := gx
      obtain ⟨gy0, gy1⟩ := gy
      have HG : Hid (GB wr a ws (L : Int) ∧ GA wr b ob n ∧ Tn [a] w wr ∧ wr.heap.size = w.heap.size) := ⟨hG, hA, hT, hs⟩
      have hk98 : (k : Int) < 98 := by omega
      have hk98' : k < 98 := by omega
      have hlt' : (k : Int) < (L : Int) := by omega
      clear hxk hyk hG hA hT hs hw
      go_wp2_with fail
      go_quiet (fail)
      have HG2 : Hid (GB (wr.drewN nq) a ws (L : Int) ∧ GA (wr.drewN nq) b ob n ∧ Tn [a] w (wr.drewN nq) ∧ (wr.drewN nq).heap.size = w.heap.size) := ⟨HG.out.1.drewN nq, HG.out.2.1.drewN nq, HG.out.2.2.1.trans ⟨rfl, rfl, rfl, Nat.le_refl _, fun _ _ _ => rfl⟩, HG.out.2.2.2⟩
      clear HG
      go_wp2
      go_roundw
      case rel =>
        refine ⟨k + 1, 1 - (16777216 + xk - yk - bb) / 16777216, ws.set k ((16777216 + xk - yk - bb) % 16777216), by omega, by go_num, by go_num, by omega, by omega, ?_, fun j hj => HW.out j hj _, ?_, ?_, ?_, ?_, ?_⟩
        · rw [take_set_succ (by omega)]
          exact inR_append.2 ⟨hoR, inR_cons.2 ⟨by omega, inR_nil⟩⟩
        · show _ = _
          rw [HT.out.1, HT.out.2, take_set_succ (by omega)]
          exact less_step k bb _ _ _ (ws.take k) (by rw [List.length_take]; omega) HV.out xk yk _ _ rfl (by omega)
        · exact HG2.out.1.setW k (by omega) _
        · exact HG2.out.2.1.tn ((Tn.refl [a] _).cell _ (by simp) _) (by simp; omega)
        · exact HG2.out.2.2.1.cell _ (by simp) _
        · have := HG2.out.2.2.2
          simpa [World.setCell] using this
      case measure => simp [intOf]; omega
    · have hke : k = L := by omega
      subst hke
      have hnum := less_fin hoR (by rw [List.length_take]; omega) bb0 bb1 hmn HL.out HV.out
      have hz : ∀ j, k ≤ j → ws.getD j 0 = 0 := fun j hj => by rw [hw j hj]; exact getD_far (by have := HL.out; omega)
      have kS := gSettle a ws (k : Int) k wr hG (by omega) hoR hz
      rw [hnum] at kS
      have hlt' : ¬ ((k : Int) < (k : Int)) := by omega
      have HG : Hid (Tn [a] w wr ∧ wr.heap.size = w.heap.size) := ⟨hT, hs⟩
      clear hnum HV hG hA hT hs hw hoR hz
      go_wp2_with fail
      refine kS.mono ?_
      rintro e w5 ⟨rfl, g5, t5, s5⟩
      go_wp2
      go_end0
      exact ⟨rfl, g5, HG.out.1.trans t5, s5.trans HG.out.2⟩

set_option maxHeartbeats 3200000 in
/-- minus: the difference. -/
theorem gMinus (b ob m n : Nat) (w : World) (hl : (limbs m).length ≤ 98) (hmn : n ≤ m) (hb : GA w b ob n) :
    Calls Try.prog 76 #[.agg (gC m), .pointer (some ⟨b, ob, none⟩)] w fun e w' => e = .returned (.agg (gC (m - n))) ∧ Below w.heap.size w w' := by
  have hl3 : (limbs (m - n)).length ≤ 98 := by have := limbs_mono (m := m) (n := m - n) (by omega); omega
  have G0 := (GN.made w m hl).alloc (.cells Try.zeroCells97 97)
  have R0 := GB.made0 (w.alloc (.cells (gC m) 97))
  have hs0 : (w.alloc (.cells (gC m) 97)).heap.size = w.heap.size + 1 := by simp
  have B0 : Below w.heap.size w ((w.alloc (.cells (gC m) 97)).alloc (.cells Try.zeroCells97 97)) := ((Below.refl w.heap.size w).alloc (Nat.le_refl _) _).alloc (by simp) _
  rw [hs0] at R0
  have hA := hb.below B0 hb.lt
  have hne : b < w.heap.size := hb.lt
  clear hs0
  go_enter Try.func76, Try.ntmps76
  go_wp2_with fail
  generalize (w.alloc (.cells (gC m) 97)).alloc (.cells Try.zeroCells97 97) = w0 at *
  refine (gLower w.heap.size b ob m n w0 hl hmn (by omega) G0 hA).mono ?_
  rintro e w5 ⟨rfl, g5, t5, s5⟩
  have R5 := R0.tn t5 (by simp)
  have B5 := t5.below B0 B0.size (by simp)
  have A5 := GN.ga g5 hl3
  go_wp2_with (first | (refine wpA_load rfl (.tmp 2) rfl w.heap.size 0 (m - n) rfl A5 ?_) | (refine wpN_store rfl (.tmp 4) (.tmp 7) rfl (w.heap.size + 1) _ _ (m - n) rfl rfl R5 hl3 ?_; intro w6 g6 t6 s6))
  (try simp only [Exit.inBlock, Exit.then])
  refine bodyPost_ret (v := .agg (gC (m - n))) ?_ rfl ⟨rfl, t6.below B5 B5.size (by simp)⟩
  exact results_great rfl _ _ (w.heap.size + 1) _ _ rfl g6

end Go.Proofs.Ytlpfjpbnedankaa
