/- The program's settle, by its contract. -/
import Derived.Test.YtlpfjpbnedankaaGB
namespace Go.Proofs.Ytlpfjpbnedankaa
open Go.RowKit

theorem getD_take {xs : List Int} {m j : Nat} (h : j < m) : (xs.take m).getD j 0 = xs.getD j 0 := by
  rw [List.getD_eq_getElem?_getD, List.getD_eq_getElem?_getD, List.getElem?_take, if_pos h]
theorem eq_pad {ws xs : List Int} (hl : ws.length = 98) (h : ws.take xs.length = xs) (hx : xs.length ≤ 98) (hz : ∀ j, xs.length ≤ j → ws.getD j 0 = 0) : ws = pad xs := by
  apply List.ext_getElem?
  intro i
  by_cases hi : i < 98
  · have e1 : ws[i]? = some (ws.getD i 0) := by rw [List.getD_eq_getElem?_getD, List.getElem?_eq_getElem (by omega)]; rfl
    have e2 : (pad xs)[i]? = some ((pad xs).getD i 0) := by rw [List.getD_eq_getElem?_getD, List.getElem?_eq_getElem (by rw [pad_len hx]; exact hi)]; rfl
    rw [e1, e2, pad_getD]
    by_cases h2 : i < xs.length
    · rw [← h, getD_take (by omega)]
    · rw [hz i (by omega), List.getD_eq_getElem?_getD, List.getElem?_eq_none (by omega)]; rfl
  · rw [List.getElem?_eq_none (by omega), List.getElem?_eq_none (by rw [pad_len hx]; omega)]
theorem settle_fin {ws : List Int} {m t : Nat} (hl : ws.length = 98) (hm : m ≤ 98) (hr : inR (ws.take m)) (ht : t ≤ m) (hz : ∀ j, t ≤ j → ws.getD j 0 = 0) (h0 : 0 < t → ws.getD (t - 1) 0 ≠ 0) :
    ws = pad (limbs (num (ws.take m))) ∧ t = (limbs (num (ws.take m))).length := by
  have hlm : (ws.take m).length = m := by rw [List.length_take]; omega
  have e := trim_limbs (ws.take m) t hr (by omega) (fun j h1 h2 => by rw [getD_take (by omega)]; exact hz j h1) (fun h => by rw [getD_take (by omega)]; exact h0 h)
  rw [List.take_take, Nat.min_eq_left ht] at e
  have el : t = (limbs (num (ws.take m))).length := by rw [← e, List.length_take]; omega
  refine ⟨eq_pad hl (by rw [← el]; exact e) (by omega) (fun j hj => hz j (by omega)), el⟩

set_option maxHeartbeats 1600000 in
/-- settle: the size of what is left. -/
theorem gSettle (b : Nat) (ws : List Int) (k : Int) (m : Nat) (w : World) (hg : GB w b ws k) (hm : m ≤ 98) (hr : inR (ws.take m)) (hz : ∀ j, m ≤ j → ws.getD j 0 = 0) :
    Calls Try.prog 95 #[.pointer (some ⟨b, 0, none⟩), .int .i64 m] w fun e w' => e = .returned (.tuple #[]) ∧ GN w' b (num (ws.take m)) ∧ Tn [b] w w' ∧ w'.heap.size = w.heap.size := by
  have f98 := hg.free 98
  have c98 := hg.size
  go_enter Try.func95, Try.ntmps95
  go_wp2
  go_loop [1] (fun i => ∃ t : Nat, t ≤ m ∧ i = .int .i64 t ∧ ∀ j, t ≤ j → ws.getD j 0 = 0) (fun i => (intOf i).toNat)
  case atStart => exact ⟨m, Nat.le_refl _, rfl, hz⟩
  case round =>
    obtain ⟨t, ht, rfl, hzz⟩ := hrel
    have HZ : Hid (∀ j, t ≤ j → ws.getD j 0 = 0) := hzz
    clear hzz
    by_cases h0 : t = 0
    · subst h0
      have hn' : ¬ (0 : Int) < ((0 : Nat) : Int) := by omega
      have HF : Hid (ws = pad (limbs (num (ws.take m))) ∧ (0 : Nat) = (limbs (num (ws.take m))).length) := settle_fin hg.len hm hr ht HZ.out (fun h => absurd h (by omega))
      have HG : Hid (GB w b ws k) := hg
      clear hg hr hz
      go_wp2
      go_end0
      refine ⟨rfl, ?_, (Tn.refl [b] w).cell _ (by simp) _, by simp [World.setCell]⟩
      have := HG.out.setK 0
      unfold GN
      rw [← HF.out.2]
      rw [HF.out.1] at this
      rw [← HF.out.1] at this ⊢
      exact this
    · obtain ⟨s, rfl⟩ : ∃ s, t = s + 1 := ⟨t - 1, by omega⟩
      have hnp : (0 : Int) < ((s + 1 : Nat) : Int) := by omega
      have hc := hg.word s (by omega)
      by_cases hd : ws.getD s 0 = 0
      · rw [hd] at hc
        have HN : Hid (∀ j, s ≤ j → ws.getD j 0 = 0) := fun j h1 => by
          by_cases e : j = s
          · subst e; exact hd
          · exact HZ.out j (by omega)
        clear hd
        go_wp2
        go_round
        case rel => exact ⟨s, by omega, by go_num, HN.out⟩
        case measure => simp [intOf]
      · have HF : Hid (ws = pad (limbs (num (ws.take m))) ∧ (s + 1 : Nat) = (limbs (num (ws.take m))).length) := settle_fin hg.len hm hr ht HZ.out (fun _ => hd)
        have HG : Hid (GB w b ws k) := hg
        obtain ⟨d, hdd⟩ : ∃ d, ws.getD s 0 = d := ⟨_, rfl⟩
        rw [hdd] at hc hd
        have ed : (d == 0) = false := by rw [beq_eq_false_iff_ne]; exact hd
        clear hdd hd hg hr hz
        go_wp2
        go_end0
        refine ⟨rfl, ?_, (Tn.refl [b] w).cell _ (by simp) _, by simp [World.setCell]⟩
        have := HG.out.setK ((s + 1 : Nat) : Int)
        unfold GN
        rw [← HF.out.2]
        rw [← HF.out.1]
        exact this

end Go.Proofs.Ytlpfjpbnedankaa
