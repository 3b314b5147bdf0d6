/- Several small texts in one: STrim. -/
import Derived.Test.YtlpfjpbnedankaaBase
/- The specification's l2Trim, by its contract. -/
namespace Go.Proofs.Ytlpfjpbnedankaa
open Go.RowKit

set_option maxHeartbeats 1600000 in
/-- l2Trim: the right list, in new memory. -/
theorem sTrim (v : Value) (xs : List Int) (w : World) (h : rowI w v xs) (hr : inR xs) (hl : xs.length ≤ 1073741824) :
    Calls Try.prog 107 #[v] w fun e w' => ∃ v', e = .returned v' ∧ ownsI w' w.heap.size v' (limbs (num xs)) ∧ Below w.heap.size w w' := by
  have hrow := h
  obtain ⟨a, cap, rfl, h2, h3, h4, h5, h6⟩ := h
  have H6 : Hid (∀ j, j < xs.length → ∃ g off, a = some ⟨g, off, none⟩ ∧ g < w.heap.size ∧ w.cell? ⟨g, off + j, none⟩ = some (.int .i64 (xs.getD j 0))) := h6
  clear h6 h4 h5
  have hbm : Below w.heap.size w (w.alloc (.cells #[] 3)) := (Below.refl _ _).alloc (Nat.le_refl _) _
  have hrow' : rowI (w.alloc (.cells #[] 3)) (.slice a xs.length cap) xs := hrow.below hbm (Nat.le_refl _)
  clear hrow
  go_enter Try.func107, Try.ntmps107
  go_wp2
  go_loop [3] (fun i => ∃ n : Nat, n ≤ xs.length ∧ i = .int .i64 n ∧ ∀ j, n ≤ j → j < xs.length → xs.getD j 0 = 0) (fun i => (intOf i).toNat)
  case atStart => exact ⟨xs.length, Nat.le_refl _, rfl, fun j h1 h2 => by omega⟩
  case round =>
    obtain ⟨n, hn, rfl, hz⟩ := hrel
    have HZ : Hid (∀ j, n ≤ j → j < xs.length → xs.getD j 0 = 0) := hz
    clear hz
    by_cases hn0 : n = 0
    · subst hn0
      have hn' : ¬ (0 : Int) < ((0 : Nat) : Int) := by omega
      have hfin := trim_limbs xs 0 hr (by omega) HZ.out (fun h => absurd h (by omega))
      have HF : Hid (xs.take 0 = limbs (num xs)) := hfin
      clear hfin
      go_wp2_with (at_builtin; refine wpI_all w _ rfl (.tmp 18) (.tmp 21) rfl w.heap.size _ _ [] (xs.take 0) rfl (made_own w) rfl (hrow'.take 0 (by omega)) hbm (by rw [List.length_take, List.length_nil]; omega) (by simp) ?_; intro v1 w1 o1 b1)
      go_ret
      exact ⟨_, rfl, by rw [← HF.out]; exact o1, b1⟩
    · obtain ⟨m, rfl⟩ : ∃ m, n = m + 1 := ⟨n - 1, by omega⟩
      obtain ⟨g, off, rfl, hg, hc⟩ := H6.out m (by omega)
      have hnp : (0 : Int) < ((m + 1 : Nat) : Int) := by omega
      by_cases hd : xs.getD m 0 = 0
      · rw [hd] at hc
        have HN : Hid (∀ j, m ≤ j → j < xs.length → xs.getD j 0 = 0) := fun j h1 h2 => by
          by_cases e : j = m
          · subst e; exact hd
          · exact HZ.out j (by omega) h2
        clear hd
        go_wp2
        go_round
        case rel => exact ⟨m, by omega, by go_num, HN.out⟩
        case measure => simp [intOf]
      · have HF : Hid (xs.take (m + 1) = limbs (num xs)) := trim_limbs xs (m + 1) hr hn HZ.out (fun _ => hd)
        obtain ⟨d, hdd⟩ : ∃ d, xs.getD m 0 = d := ⟨_, rfl⟩
        rw [hdd] at hc hd
        have ed : (d == 0) = false := by rw [beq_eq_false_iff_ne]; exact hd
        clear hdd hd
        go_wp2_with (at_builtin; refine wpI_all w _ rfl (.tmp 18) (.tmp 21) rfl w.heap.size _ _ [] (xs.take (m + 1)) rfl (made_own w) rfl (hrow'.take (m + 1) hn) hbm (by rw [List.length_take, List.length_nil]; omega) (by simp) ?_; intro v1 w1 o1 b1)
        go_ret
        exact ⟨_, rfl, by rw [← HF.out]; exact o1, b1⟩

end Go.Proofs.Ytlpfjpbnedankaa
