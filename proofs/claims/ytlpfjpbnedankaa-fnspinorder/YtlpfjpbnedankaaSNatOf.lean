/- The specification's NatOf, by its contract. -/
import Derived.Test.YtlpfjpbnedankaaBase
namespace Go.Proofs.Ytlpfjpbnedankaa
open Go.RowKit

set_option maxHeartbeats 1600000 in
theorem sNatOf (n : Int) (w : World) (h1 : n ≤ 9223372036854775807) : Calls Try.prog 116 #[.int .i64 n] w (ansI w (ofR n)) := by
  have ho := made_own w
  by_cases hn : n < 0
  · have HE : Hid (ofR n = ([], false)) := by show _ = _; rw [ofR, if_pos hn]
    go_enter Try.func116, Try.ntmps116
    go_wp2
    go_ret2
    exact ⟨_, by rw [HE.out]; rfl, by rw [HE.out]; exact ho, (Below.refl _ _).alloc (Nat.le_refl _) _⟩
  · have HE : Hid (ofR n = (limbs n.toNat, true)) := by show _ = _; rw [ofR, if_neg hn]
    have hn0 : 0 ≤ n := by omega
    go_enter Try.func116, Try.ntmps116
    go_wp2
    go_loopw [0, 4] (fun t v wr => ∃ (m : Nat) (out : List Int), (m : Int) ≤ 9223372036854775807 ∧ t = .int .i64 m ∧ Hid (limbs n.toNat = out ++ limbs m) ∧ ownsI wr w.heap.size v out ∧ Below w.heap.size w wr) (fun t _ _ => (intOf t).toNat)
    case atStart => exact ⟨n.toNat, [], by omega, by congr 1; omega, by show _ = _; simp, made_own w, (Below.refl _ _).alloc (Nat.le_refl _) _⟩
    case round =>
      obtain ⟨m, out, hm1, rfl, HL, hown, hbw⟩ := hrel
      have hol : out.length ≤ 3 := by
        have h2 := congrArg List.length HL.out
        rw [List.length_append] at h2
        have h3 := limbs_len_le n.toNat 3 (by omega)
        omega
      have hsz := hbw.size
      by_cases hlt : 0 < m
      · have hlt' : (0 : Int) < (m : Int) := by omega
        have hp : limbs m = ((m % 16777216 : Nat) : Int) :: limbs (m / 16777216) := limbs_pos m hlt
        have HP : Hid (limbs m = ((m % 16777216 : Nat) : Int) :: limbs (m / 16777216)) := hp
        clear hp
        go_wp2_with (at_builtin; refine wpI_app w wr rfl (.tmp 11) (.tmp 14) rfl w.heap.size _ out _ rfl hown hbw rfl (by omega) hsz ?_; intro v1 w1 o1 b1)
        go_roundw
        case rel => exact ⟨m / 16777216, _, by omega, by go_num, by show _ = _; rw [HL.out, HP.out]; simp, o1, b1⟩
        case measure => simp [intOf]; omega
      · have hm0 : m = 0 := by omega
        subst hm0
        have hfin : limbs n.toNat = out := by rw [HL.out, limbs_zero, List.append_nil]
        go_wp2
        go_ret2
        exact ⟨_, by rw [HE.out]; rfl, by rw [HE.out]; show ownsI _ _ _ (limbs n.toNat); rw [hfin]; exact hown, hbw⟩

end Go.Proofs.Ytlpfjpbnedankaa
